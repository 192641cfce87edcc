/- Shares: what the program reckons in a round: plain numbers and lists. -/
import Derived.Test.YtidjjgiecaoboaaShrT
import Derived.Test.YtidjjgiecaoboaaStbT
namespace Go.Proofs.Ytidjjgiecaoboaa
open Go.RowKit
set_option linter.unusedVariables false
/-- the places that are open, in order -/
def opensL (k : Nat) (O : Nat → Bool) : List Nat := (List.range k).filter O
theorem opensL_succ (k : Nat) (O : Nat → Bool) : opensL (k + 1) O = opensL k O ++ (if O k = true then [k] else []) := by
  unfold opensL
  rw [List.range_succ, List.filter_append]
  congr 1
  by_cases h : O k = true
  · rw [if_pos h]; simp [h]
  · rw [if_neg h]; simp [h]
theorem mem_opensL {k : Nat} {O : Nat → Bool} {p : Nat} : p ∈ opensL k O ↔ p < k ∧ O p = true := by
  unfold opensL; rw [List.mem_filter, List.mem_range]
theorem opensL_le (k : Nat) (O : Nat → Bool) : (opensL k O).length ≤ k := by
  have := List.length_filter_le O (List.range k)
  rw [List.length_range] at this
  exact this
theorem opensL_asc (O : Nat → Bool) : ∀ k, (opensL k O).Pairwise (· < ·)
  | 0 => by unfold opensL; simp
  | k + 1 => by
    rw [opensL_succ, List.pairwise_append]
    refine ⟨opensL_asc O k, by split <;> simp, fun a ha b hb => ?_⟩
    have := (mem_opensL.1 ha).1
    split at hb
    · simp at hb; omega
    · cases hb
theorem opensL_nodup (k : Nat) (O : Nat → Bool) : (opensL k O).Nodup := (opensL_asc O k).imp (fun h => Nat.ne_of_lt h)
theorem opensL_len (O : Nat → Bool) : ∀ k, (opensL k O).length = nOf O k
  | 0 => rfl
  | k + 1 => by
    rw [opensL_succ, List.length_append, opensL_len O k]
    show nOf O k + _ = nOf O k + (if O k = true then 1 else 0)
    split <;> rfl
/-- a sum over places -/
def sumL : List Nat → (Nat → Int) → Int
  | [], _ => 0
  | p :: r, f => f p + sumL r f
theorem sumL_app (f : Nat → Int) : ∀ a b, sumL (a ++ b) f = sumL a f + sumL b f
  | [], b => by show sumL b f = 0 + _; omega
  | p :: a, b => by show f p + sumL (a ++ b) f = f p + sumL a f + _; rw [sumL_app f a b]; omega
theorem sumL_perm {f : Nat → Int} {a b : List Nat} (h : a.Perm b) : sumL a f = sumL b f := by
  induction h with
  | nil => rfl
  | cons x _ ih => show f x + _ = f x + _; rw [ih]
  | swap x y l => show f y + (f x + sumL l f) = f x + (f y + sumL l f); omega
  | trans _ _ h1 h2 => exact h1.trans h2
theorem sumL_take (f : Nat → Int) (l : List Nat) (q : Nat) (h : q < l.length) : sumL (l.take (q + 1)) f = sumL (l.take q) f + f (l[q]'h) := by
  rw [List.take_add_one, sumL_app, List.getElem?_eq_getElem h]
  show _ + (f _ + 0) = _
  omega
theorem sumL_opens (O : Nat → Bool) (f : Nat → Int) : ∀ k, sumL (opensL k O) f = sumTo (onO O f) k
  | 0 => rfl
  | k + 1 => by
    rw [opensL_succ, sumL_app, sumL_opens O f k]
    show sumTo (onO O f) k + _ = sumTo (onO O f) k + onO O f k
    by_cases h : O k = true
    · rw [if_pos h, show onO O f k = f k from if_pos h]
      show _ + (f k + 0) = _; omega
    · rw [if_neg h, show onO O f k = 0 from if_neg h]; rfl
theorem sumL_bd {f : Nat → Int} {a : Int} : ∀ (l : List Nat), (∀ p ∈ l, 0 ≤ f p ∧ f p ≤ a) → 0 ≤ sumL l f ∧ sumL l f ≤ a * l.length
  | [], _ => by simp [sumL]
  | p :: r, h => by
    have h1 := h p (by simp)
    have h2 := sumL_bd r (fun q hq => h q (by simp [hq]))
    show 0 ≤ f p + sumL r f ∧ f p + sumL r f ≤ _
    have : a * ((p :: r).length : Int) = a * (r.length : Int) + a := by rw [List.length_cons]; push_cast; rw [Int.mul_add, Int.mul_one]
    rw [this]; omega
theorem nOf_list : ∀ (l : List Nat) (k : Nat), l.Nodup → (∀ p ∈ l, p < k) → nOf (fun i => decide (i ∈ l)) k = l.length
  | [], k, _, _ => by
    have e : (fun i => decide (i ∈ ([] : List Nat))) = (fun _ => false) := by funext i; simp
    rw [e]; exact (Seg.none k (fun _ => true) (fun _ => 0)).2
  | p :: r, k, h, hk => by
    have e : (fun i => decide (i ∈ p :: r)) = upB (fun i => decide (i ∈ r)) p := by
      funext i
      unfold upB
      rw [Bool.eq_iff_iff]
      simp [Or.comm]
    have hn := List.nodup_cons.1 h
    rw [e, nOf_up (by rw [decide_eq_false_iff_not]; exact hn.1), nOf_list r k hn.2 (fun q hq => hk q (by simp [hq])), if_pos (hk p (by simp)), List.length_cons]
theorem mem_take {d : Array Nat} {t i : Nat} : i ∈ d.toList.take t ↔ ∃ x, x < t ∧ x < d.size ∧ d[x]! = i := by
  rw [List.mem_take_iff_getElem]
  constructor
  · rintro ⟨x, hx, e⟩
    have hx' : x < t ∧ x < d.size := by rw [Array.length_toList] at hx; omega
    refine ⟨x, hx'.1, hx'.2, ?_⟩
    rw [getElem!_pos d x hx'.2, ← e]; simp
  · rintro ⟨x, h1, h2, e⟩
    refine ⟨x, by rw [Array.length_toList]; omega, ?_⟩
    rw [getElem!_pos d x h2] at e
    simpa using e
theorem perm_whole {d d' : Array Nat} (h : Go.Sort.PermIn 0 d.size d d') : d'.toList.Perm d.toList := by
  have h1 := h.2.2
  have h0 := h.1
  have e1 : d'.extract 0 d.size = d' := by rw [← h0]; simp
  have e2 : d.extract 0 d.size = d := by simp
  rw [e1, e2] at h1
  exact h1
/-- the first of those that are sorted are those that are served -/
theorem served {k t : Nat} {O : Nat → Bool} {r : Nat → Int} {lt : Nat → Nat → Bool} {d' : Array Nat} (hlt : ∀ i j, lt i j = decide (r j < r i)) (hp : Go.Sort.PermIn 0 (opensL k O).length (opensL k O).toArray d') (hs : Go.Sort.SortedIn (stT lt id) 0 (opensL k O).length d') (ht : t ≤ (opensL k O).length) :
    Seg k O r (fun i => decide (i ∈ d'.toList.take t)) ∧ nOf (fun i => decide (i ∈ d'.toList.take t)) k = t := by
  have hsz : d'.size = (opensL k O).length := hp.1
  have hpm : d'.toList.Perm (opensL k O) := perm_whole (d := (opensL k O).toArray) hp
  have hnd : d'.toList.Nodup := hpm.nodup_iff.2 (opensL_nodup k O)
  have hmem : ∀ i, i ∈ d'.toList ↔ i < k ∧ O i = true := fun i => hpm.mem_iff.trans mem_opensL
  refine ⟨⟨fun i hi => ?_, fun i j hj hi ho ha => ?_⟩, ?_⟩
  · rw [decide_eq_true_eq] at hi
    exact (hmem i).1 (List.mem_of_mem_take hi)
  · rw [decide_eq_true_eq] at hj ⊢
    obtain ⟨y, hy, hyd, ey⟩ := mem_take.1 hj
    have hi' := (hmem i).2 ⟨hi, ho⟩
    rw [← List.take_length (l := d'.toList)] at hi'
    obtain ⟨x, hx, hxd, ex⟩ := mem_take.1 hi'
    rw [Array.length_toList] at hx
    refine mem_take.2 ⟨x, Nat.not_le.1 (fun hxt => ?_), hxd, ex⟩
    have := hs y x (Nat.zero_le _) (by omega) (by omega)
    rw [ex, ey, stT_not, hlt, hlt] at this
    unfold ahead at ha
    simp only [decide_eq_false_iff_not, decide_eq_true_eq, id] at this
    omega
  · rw [nOf_list _ _ (hnd.sublist (List.take_sublist _ _)) (fun p hq => ((hmem p).1 (List.mem_of_mem_take hq)).1), List.length_take, Array.length_toList]
    omega
theorem in_take {d : Array Nat} {t j : Nat} (hn : d.toList.Nodup) (hj : j < d.size) : d[j]! ∈ d.toList.take t ↔ j < t := by
  rw [mem_take]
  constructor
  · rintro ⟨x, h1, h2, e⟩
    rw [getElem!_pos d x h2, getElem!_pos d j hj] at e
    have h0 := List.pairwise_iff_getElem.1 hn
    have h5 : x < d.toList.length := by rw [Array.length_toList]; exact h2
    have h6 : j < d.toList.length := by rw [Array.length_toList]; exact hj
    rcases Nat.lt_trichotomy x j with h | h | h
    · exact (h0 x j h5 h6 h (by simpa using e)).elim
    · omega
    · exact (h0 j x h6 h5 h (by simpa using e.symm)).elim
  · intro h; exact ⟨j, h, hj, rfl⟩
theorem asc_arr {l : List Nat} (h : l.Pairwise (· < ·)) : AscP id 0 l.toArray.size l.toArray := by
  intro x y h1 h2 h3
  have hy : y < l.length := by simpa using h3
  rw [getElem!_pos l.toArray x (by simp; omega), getElem!_pos l.toArray y h3]
  have := List.pairwise_iff_getElem.1 h x y (by omega) hy h2
  simpa using this
end Go.Proofs.Ytidjjgiecaoboaa
