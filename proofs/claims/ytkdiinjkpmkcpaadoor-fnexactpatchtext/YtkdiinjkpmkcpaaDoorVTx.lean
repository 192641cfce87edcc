/- The texts of values, as plain functions. -/
import Derived.Test.YtkdiinjkpmkcpaaDoorValM
import Derived.Test.YtkdiinjkpmkcpaaDoorJn0
import Derived.Lib.Replace
import Derived.Lib.IndexBytes
import Derived.Lib.ItoaLen
import Derived.Lib.Small
namespace Go.Proofs.YtkdiinjkpmkcpaaDoor
open Go.RowKit
set_option linter.unusedVariables false

/-- a \ ahead of a quote and of itself -/
def escC (c : UInt8) : List UInt8 := if c = 34 ∨ c = 92 then [92, c] else [c]
def dbl (c x : UInt8) : List UInt8 := if x = c then [92, x] else [x]
theorem rep_one (c : UInt8) (new : List UInt8) (hn : new ≠ [c]) : ∀ (m : Nat) (s : List UInt8), s.length ≤ m → Lib.replaceK [c] new (Lib.count s [c]) s = s.flatMap fun x => if x = c then new else [x]
  | _, [], _ => by
    have h : Lib.index [] [c] = -1 := by rw [Lib.index_one]; rfl
    rw [Lib.count_miss h]; rfl
  | 0, x :: s, h => by simp at h
  | m + 1, x :: s, h => by
    by_cases e : x = c
    · subst e
      have hi : Lib.index (x :: s) [x] = (0 : Nat) := by rw [Lib.index_one]; simp [Lib.indexByte]
      rw [Lib.count_cons_eq, Nat.add_comm, Lib.replaceK_hit _ _ _ _ 0 hi, List.flatMap_cons, if_pos rfl]
      show [] ++ new ++ _ = _
      rw [List.nil_append]
      congr 1
      exact rep_one x new hn m s (by simpa using h)
    · rw [Lib.count_cons_ne _ _ _ e, List.flatMap_cons, if_neg e]
      have ih := rep_one c new hn m s (by simpa using h)
      rw [← ih]
      cases hc : Lib.count s [c] with
      | zero => rfl
      | succ k =>
        obtain ⟨i, hi⟩ := Lib.index_of_count (s := s) (old := [c]) (by omega)
        have hi2 : Lib.index (x :: s) [c] = ((i + 1 : Nat) : Int) := by
          rw [Lib.index_one] at hi ⊢
          unfold Lib.indexByte
          rw [if_neg (by simpa using e), hi, if_neg (by simp)]
          norm_cast
        rw [Lib.replaceK_hit _ _ _ _ _ hi, Lib.replaceK_hit _ _ _ _ _ hi2]
        simp
theorem repAll_one (c : UInt8) (s : List UInt8) : Lib.replaceAll s [c] [92, c] = s.flatMap (dbl c) := by
  unfold Lib.replaceAll Lib.replace
  rw [if_neg (by simp)]
  unfold Lib.replaceNum
  rw [if_pos (by left; decide), rep_one c [92, c] (by simp) s.length s (Nat.le_refl _)]
  congr 1
  funext x
  unfold dbl
  split
  · rename_i h; rw [h]
  · rfl
theorem esc_two (s : List UInt8) : (s.flatMap (dbl 92)).flatMap (dbl 34) = s.flatMap escC := by
  rw [List.flatMap_assoc]
  congr 1
  funext x
  unfold dbl escC
  by_cases h1 : x = 92
  · subst h1; rfl
  · by_cases h2 : x = 34
    · subst h2; rfl
    · rw [if_neg h1, if_neg (by simp [h1, h2])]
      simp [h2]
def escB (s : ByteArray) : ByteArray := ⟨(s.data.toList.flatMap escC).toArray⟩
theorem flat_len (s : List UInt8) : (s.flatMap escC).length ≤ 2 * s.length := by
  induction s with
  | nil => simp
  | cons x r ih => rw [List.flatMap_cons, List.length_append]; have : (escC x).length ≤ 2 := by unfold escC; split <;> simp
                   simp only [List.length_cons]; omega
theorem escB_size (s : ByteArray) : (escB s).size ≤ 2 * s.size := by
  show (s.data.toList.flatMap escC).toArray.size ≤ 2 * s.data.size
  have := flat_len s.data.toList
  simpa using this
def qB : ByteArray := ⟨#[34]⟩
def quoB (s : ByteArray) : ByteArray := (qB ++ escB s) ++ qB
def numB (n : Int) : ByteArray := ⟨(Lib.itoa n).toArray⟩
def pairB (k t : ByteArray) : ByteArray := (k ++ ⟨#[58]⟩) ++ t
def pairL : List ByteArray → List ByteArray → List ByteArray
  | k :: r, t :: s => pairB k t :: pairL r s
  | _, _ => []
theorem pairL_len : ∀ (ks ts : List ByteArray), ks.length = ts.length → (pairL ks ts).length = ks.length
  | [], [], _ => rfl
  | k :: r, t :: s, h => by unfold pairL; simp only [List.length_cons]; rw [pairL_len r s (by simpa using h)]
theorem pairL_get : ∀ (ks ts : List ByteArray) (i : Nat) (h : i < (pairL ks ts).length) (h1 : i < ks.length) (h2 : i < ts.length), (pairL ks ts)[i]'h = pairB (ks[i]'h1) (ts[i]'h2)
  | k :: r, t :: s, 0, _, _, _ => rfl
  | k :: r, t :: s, i + 1, h, h1, h2 => pairL_get r s i _ (by simpa using h1) (by simpa using h2)
/-- the text of a right value -/
def vtx : (n : Nat) → VT n → ByteArray
  | 0, _ => ⟨#[]⟩
  | n + 1, v => if v.hd.kd = 1 then quoB v.hd.tx else if v.hd.kd = 2 then numB v.hd.nm else if v.hd.kd = 3 then (if v.hd.nm = 1 then ⟨#[116, 114, 117, 101]⟩ else ⟨#[102, 97, 108, 115, 101]⟩)
    else if v.hd.kd = 5 then (⟨#[123]⟩ ++ jn 44 (pairL v.hd.ks (v.kids.map (vtx n)))) ++ ⟨#[125]⟩ else (⟨#[91]⟩ ++ jn 44 (v.kids.map (vtx n))) ++ ⟨#[93]⟩
def nmVT : (n : Nat) → VT n → Prop
  | 0, _ => True
  | n + 1, v => (-9223372036854775808 ≤ v.hd.nm ∧ v.hd.nm ≤ 9223372036854775807) ∧ ∀ x ∈ v.kids, nmVT n x
/-- right, as far as its text asks -/
def rgt : (n : Nat) → VT n → Prop
  | 0, _ => True
  | n + 1, v => (1 ≤ v.hd.kd ∧ v.hd.kd ≤ 5) ∧ v.hd.tx.size ≤ 100 ∧ (v.hd.kd = 5 → v.hd.ks.length = v.kids.length) ∧ (∀ s ∈ v.hd.ks, s.size ≤ 20) ∧ (-9223372036854775808 ≤ v.hd.nm ∧ v.hd.nm ≤ 9223372036854775807) ∧ v.kids.length ≤ 300 ∧ (∀ x ∈ v.kids, (vtx n x).size ≤ 76800) ∧ ∀ x ∈ v.kids, rgt n x
def sumS (ps : List ByteArray) : Nat := (ps.map fun p => p.size + 1).sum
theorem tl_cons (sep y : List UInt8) (r : List (List UInt8)) : Lib.joinTail sep (y :: r) = (sep ++ y) ++ Lib.joinTail sep r := by
  unfold Lib.joinTail; simp
theorem tail_len (sep : UInt8) : ∀ r : List ByteArray, (Lib.joinTail [sep] (r.map (·.data.toList))).length = sumS r
  | [] => rfl
  | y :: r => by
    unfold sumS
    rw [List.map_cons, List.map_cons, List.sum_cons, tl_cons]
    have := tail_len sep r
    unfold sumS at this
    simp only [List.length_append, List.length_cons, List.length_nil, Array.length_toList]
    have e : y.data.size = y.size := rfl
    omega
theorem jn_sum (c : UInt8) (ps : List ByteArray) : (jn c ps).size ≤ sumS ps := by
  cases ps with
  | nil => exact Nat.le_refl _
  | cons p r =>
    have h : (jn c (p :: r)).size = (Lib.join ((p :: r).map (·.data.toList)) [c]).length := by
      show (jn c (p :: r)).data.size = _
      rw [← Array.length_toList]; rfl
    rw [h, List.map_cons, Lib.join_cons, List.length_append, tail_len]
    unfold sumS
    rw [List.map_cons, List.sum_cons, Array.length_toList]
    have e : p.data.size = p.size := rfl
    omega
theorem pair_size (k t : ByteArray) : (pairB k t).size = k.size + 1 + t.size := by unfold pairB; rw [ByteArray.size_append, ByteArray.size_append]; rfl
theorem pairL_sum : ∀ (ks ts : List ByteArray), (∀ k ∈ ks, k.size ≤ 20) → sumS (pairL ks ts) ≤ (ts.map fun t => t.size + 23).sum
  | k :: r, t :: s, h => by
    unfold pairL sumS
    rw [List.map_cons, List.sum_cons, List.map_cons, List.sum_cons, pair_size]
    have := pairL_sum r s (fun k hk => h k (List.mem_cons_of_mem _ hk))
    unfold sumS at this
    have := h k (List.mem_cons_self ..)
    omega
  | [], t, _ => by unfold pairL sumS; simp
  | _ :: _, [], _ => by unfold pairL sumS; simp
theorem sumS_le (ts : List ByteArray) : sumS ts ≤ (ts.map fun t => t.size + 23).sum := by
  unfold sumS
  induction ts with
  | nil => exact Nat.le_refl _
  | cons t r ih => rw [List.map_cons, List.sum_cons, List.map_cons, List.sum_cons]; omega
theorem addL_sum {α : Type} {f g : α → Nat} : ∀ (l : List α) (n : Nat), addL f l n ≠ 0 → (∀ x ∈ l, f x ≠ 0 → g x + 30 ≤ 256 * f x) → (l.map fun x => g x + 23).sum + 256 * n ≤ 256 * addL f l n
  | [], n, _, _ => by unfold addL; simp
  | x :: r, n, h, hg => by
    unfold addL at h ⊢
    by_cases h0 : f x = 0
    · rw [if_pos h0] at h; exact (h rfl).elim
    · rw [if_neg h0] at h ⊢
      have h1 := addL_sum r (n + f x) h (fun y hy => hg y (List.mem_cons_of_mem _ hy))
      have h2 := hg x (List.mem_cons_self ..) h0
      rw [List.map_cons, List.sum_cons]
      omega
theorem addL_all {α : Type} {f : α → Nat} : ∀ (l : List α) (n : Nat), addL f l n ≠ 0 → ∀ x ∈ l, f x ≠ 0 ∧ f x + n ≤ addL f l n
  | [], n, _, x, hx => by cases hx
  | y :: r, n, h, x, hx => by
    unfold addL at h ⊢
    by_cases h0 : f y = 0
    · rw [if_pos h0] at h; exact (h rfl).elim
    · rw [if_neg h0] at h ⊢
      rcases List.mem_cons.1 hx with rfl | hx
      · refine ⟨h0, ?_⟩
        rcases addL_ge (f := f) r (n + f x) with h' | h'
        · exact (h h').elim
        · omega
      · have := addL_all r (n + f y) h x hx
        exact ⟨this.1, by omega⟩
theorem name_size {s : ByteArray} (h : nameB s = true) : s.size ≤ 20 := by unfold nameB at h; rw [decide_eq_true_eq] at h; exact h.2.2.1
theorem vals_size {ss : List ByteArray} (h : valsB ss = true) : ∀ s ∈ ss, s.size ≤ 20 := by
  unfold valsB at h
  rw [decide_eq_true_eq] at h
  intro s hs
  obtain ⟨i, hi, rfl⟩ := List.getElem_of_mem hs
  have := name_size (h i hi).1
  rwa [ssAt_get hi] at this
theorem num_size (n : Int) (h0 : -9223372036854775808 ≤ n) (h1 : n ≤ 9223372036854775807) : (numB n).size ≤ 21 := by
  show (Lib.itoa n).toArray.size ≤ 21
  have := Lib.itoa_length_le n (by omega) (by omega)
  simpa using this
theorem hd_parts {kd : Int} {tx : ByteArray} {nm : Int} {ks : List ByteArray} {m : Nat} (h : hdB kd tx nm ks m = true) : (1 ≤ kd ∧ kd ≤ 5) ∧ tx.size ≤ 100 ∧ (kd = 5 → ks.length = m) ∧ (∀ s ∈ ks, s.size ≤ 20) := by
  unfold hdB at h
  have hno : ∀ {l : List ByteArray}, l.length = 0 → ∀ s ∈ l, s.size ≤ 20 := fun hl s hs => by rw [List.length_eq_zero_iff.1 hl] at hs; cases hs
  split at h
  · simp only [Bool.and_eq_true, decide_eq_true_eq] at h
    have ht := h.1.1.1
    unfold txB at ht
    rw [decide_eq_true_eq] at ht
    exact ⟨by omega, ht.2, fun _ => by omega, hno h.1.2⟩
  · split at h
    · simp only [Bool.and_eq_true, decide_eq_true_eq] at h
      exact ⟨by omega, by omega, fun _ => by omega, hno h.1.2⟩
    · split at h
      · simp only [Bool.and_eq_true, decide_eq_true_eq] at h
        exact ⟨by omega, by omega, fun _ => by omega, hno h.1.2⟩
      · split at h
        · simp only [Bool.and_eq_true, decide_eq_true_eq] at h
          exact ⟨by omega, by omega, fun _ => by omega, hno h.2⟩
        · split at h
          · simp only [Bool.and_eq_true, decide_eq_true_eq] at h
            exact ⟨by omega, by omega, fun _ => h.1.2, vals_size h.2⟩
          · cases h
theorem rgt_of : ∀ (n d : Nat) (v : VT n), nmVT n v → tsz n d v ≠ 0 → tsz n d v ≤ 300 → rgt n v ∧ (vtx n v).size + 30 ≤ 256 * tsz n d v
  | 0, _, v, _, _, _ => nomatch v
  | n + 1, 0, v, _, h, _ => (h rfl).elim
  | n + 1, d + 1, v, hnm, h, hle => by
    have ht : tsz (n + 1) (d + 1) v = if hdB v.hd.kd v.hd.tx v.hd.nm v.hd.ks v.kids.length then addL (tsz n d) v.kids 1 else 0 := rfl
    by_cases hb : hdB v.hd.kd v.hd.tx v.hd.nm v.hd.ks v.kids.length = true
    · rw [if_pos hb] at ht
      rw [ht] at h hle ⊢
      have hp := hd_parts hb
      have hall := addL_all v.kids 1 h
      have hk := fun x hx => rgt_of n d x (hnm.2 x hx) (hall x hx).1 (by have := (hall x hx).2; omega)
      have hlen : v.kids.length ≤ 300 := by
        rcases addL_ge (f := tsz n d) v.kids 1 with h' | h'
        · exact (h h').elim
        · omega
      refine ⟨⟨hp.1, hp.2.1, hp.2.2.1, hp.2.2.2, hnm.1, hlen, fun x hx => ?_, fun x hx => (hk x hx).1⟩, ?_⟩
      · have h1 := (hk x hx).2
        have h2 := (hall x hx).2
        omega
      · have hs := addL_sum (f := tsz n d) (g := fun x => (vtx n x).size) v.kids 1 h (fun x hx _ => (hk x hx).2)
        have hmm : ((v.kids.map (vtx n)).map fun t => t.size + 23).sum = (v.kids.map fun x => (vtx n x).size + 23).sum := by rw [List.map_map]; rfl
        unfold vtx
        split
        · have := escB_size v.hd.tx
          have e : (quoB v.hd.tx).size = 1 + (escB v.hd.tx).size + 1 := by unfold quoB; rw [ByteArray.size_append, ByteArray.size_append]; rfl
          omega
        · split
          · have := num_size v.hd.nm hnm.1.1 hnm.1.2
            omega
          · split
            · have : (if v.hd.nm = 1 then (⟨#[116, 114, 117, 101]⟩ : ByteArray) else ⟨#[102, 97, 108, 115, 101]⟩).size ≤ 5 := by split <;> decide
              omega
            · split
              · have h1 := jn_sum 44 (pairL v.hd.ks (v.kids.map (vtx n)))
                have h2 := pairL_sum v.hd.ks (v.kids.map (vtx n)) hp.2.2.2
                rw [ByteArray.size_append, ByteArray.size_append]
                have e1 : (⟨#[123]⟩ : ByteArray).size = 1 := rfl
                have e2 : (⟨#[125]⟩ : ByteArray).size = 1 := rfl
                omega
              · have h1 := jn_sum 44 (v.kids.map (vtx n))
                have h2 := sumS_le (v.kids.map (vtx n))
                rw [ByteArray.size_append, ByteArray.size_append]
                have e1 : (⟨#[91]⟩ : ByteArray).size = 1 := rfl
                have e2 : (⟨#[93]⟩ : ByteArray).size = 1 := rfl
                omega
    · rw [if_neg hb] at ht; exact (h ht).elim
end Go.Proofs.YtkdiinjkpmkcpaaDoor
