/- Islands and wants: what is asked of them, as plain functions. -/
import Derived.Test.YtdnodaoeflbfkaaFtT
import Derived.Test.YtdnodaoeflbfkaaMatch2
import Derived.Test.YtdnodaoeflbfkaaLabs4
import Derived.Test.YtdnodaoeflbfkaaShrV
namespace Go.Proofs.Ytdnodaoeflbfkaa
open Go.RowKit Go.BigFrame
set_option linter.unusedVariables false

/-- the names of a want's weights are in order, each weight is in its bounds -/
def wgK (l : List WgD) (i : Nat) : ByteArray := (l[i]?.getD (ByteArray.empty, 0)).1
def wgN (l : List WgD) (i : Nat) : Int := (l[i]?.getD (ByteArray.empty, 0)).2
theorem wgK_get {l : List WgD} {i : Nat} (h : i < l.length) : wgK l i = (l[i]'h).1 := by unfold wgK; rw [List.getElem?_eq_getElem h]; rfl
theorem wgN_get {l : List WgD} {i : Nat} (h : i < l.length) : wgN l i = (l[i]'h).2 := by unfold wgN; rw [List.getElem?_eq_getElem h]; rfl
def okW (l : List WgD) (i : Nat) : Prop := nameB (wgK l i) = true ∧ inB (wgN l i) 0 1000 = true ∧ (0 < i → ltS (wgK l (i - 1)) (wgK l i) = true)
def wgsB (l : List WgD) : Bool := decide (l.length ≤ 12 ∧ ∀ i, i < l.length → nameB (wgK l i) = true ∧ inB (wgN l i) 0 1000 = true ∧ (0 < i → ltS (wgK l (i - 1)) (wgK l i) = true))
theorem wgsB_bad {l : List WgD} {k : Nat} (hk : k < l.length) (h : ¬ okW l k) : wgsB l = false := by
  unfold wgsB; rw [decide_eq_false_iff_not]; exact fun g => h (g.2 k hk)
theorem wgsB_end {l : List WgD} (h : ∀ i, i < l.length → okW l i) : wgsB l = decide (l.length ≤ 12) := by
  unfold wgsB; rw [decide_eq_decide]; exact ⟨fun g => g.1, fun g => ⟨g, h⟩⟩
theorem okW_succ {l : List WgD} {k : Nat} (h : ∀ i, i < k → okW l i) (hk : okW l k) : ∀ i, i < k + 1 → okW l i := by
  intro i hi
  by_cases e : i = k
  · rw [e]; exact hk
  · exact h i (by omega)
theorem okW_cases (l : List WgD) (k : Nat) :
    (nameB (wgK l k) = false ∧ Hid (¬ okW l k)) ∨ (nameB (wgK l k) = true ∧ inB (wgN l k) 0 1000 = false ∧ Hid (¬ okW l k)) ∨
    (nameB (wgK l k) = true ∧ inB (wgN l k) 0 1000 = true ∧ Hid (k = 0) ∧ Hid (okW l k)) ∨
    (nameB (wgK l k) = true ∧ inB (wgN l k) 0 1000 = true ∧ 0 < k ∧ Op.bytesLess (wgK l (k - 1)).toList (wgK l k).toList = true ∧ Hid (okW l k)) ∨
    (nameB (wgK l k) = true ∧ inB (wgN l k) 0 1000 = true ∧ 0 < k ∧ Op.bytesLess (wgK l (k - 1)).toList (wgK l k).toList = false ∧ Hid (¬ okW l k)) := by
  have hd : okW l k ↔ nameB (wgK l k) = true ∧ inB (wgN l k) 0 1000 = true ∧ (0 < k → Op.bytesLess (wgK l (k - 1)).toList (wgK l k).toList = true) := Iff.rfl
  unfold Hid
  rw [hd]
  rcases Bool.eq_false_or_eq_true (nameB (wgK l k)) with h1 | h1
  · rcases Bool.eq_false_or_eq_true (inB (wgN l k) 0 1000) with h2 | h2
    · by_cases h3 : 0 < k
      · rcases Bool.eq_false_or_eq_true (Op.bytesLess (wgK l (k - 1)).toList (wgK l k).toList) with h4 | h4
        · exact .inr (.inr (.inr (.inl ⟨h1, h2, h3, h4, h1, h2, fun _ => h4⟩)))
        · refine .inr (.inr (.inr (.inr ⟨h1, h2, h3, h4, fun g => ?_⟩)))
          have := g.2.2 h3
          rw [h4] at this; cases this
      · exact .inr (.inr (.inl ⟨h1, h2, by omega, h1, h2, fun h => absurd h h3⟩))
    · exact .inr (.inl ⟨h1, h2, fun g => by rw [h2] at g; cases g.2.1⟩)
  · exact .inl ⟨h1, fun g => by rw [h1] at g; cases g.1⟩
theorem wgsB_iff {l : List WgD} : wgsB l = true ↔ l.length ≤ 12 ∧ (∀ x ∈ l, inB x.2 0 1000 = true) ∧ valsB (l.map Prod.fst) = true := by
  have hs : ∀ i, i < l.length → ssAt (l.map Prod.fst) i = wgK l i := fun i hi => by rw [ssAt_get (by simpa using hi), wgK_get hi]; simp
  unfold wgsB valsB
  rw [decide_eq_true_eq, decide_eq_true_eq]
  constructor
  · rintro ⟨h1, h2⟩
    refine ⟨h1, fun x hx => ?_, fun i hi => ?_⟩
    · obtain ⟨i, hi, rfl⟩ := List.getElem_of_mem hx
      have := (h2 i hi).2.1
      rwa [wgN_get hi] at this
    · have hi' : i < l.length := by simpa using hi
      have := h2 i hi'
      refine ⟨by rw [hs i hi']; exact this.1, fun h => ?_⟩
      rw [hs i hi', hs (i - 1) (by omega)]
      exact this.2.2 h
  · rintro ⟨h1, h2, h3⟩
    refine ⟨h1, fun i hi => ?_⟩
    have := h3 i (by simpa using hi)
    rw [hs i hi] at this
    refine ⟨this.1, by rw [wgN_get hi]; exact h2 _ (List.getElem_mem hi), fun h => ?_⟩
    have := this.2 h
    rwa [hs (i - 1) (by omega)] at this
/-- at most so many names, in order -/
def nmsB (ss : List ByteArray) (m : Nat) : Bool := valsB ss && decide (ss.length ≤ m)
def islB (I : IsD) : Bool := nameB I.1 && labelsB I.2.1 && nmsB I.2.2.1 4 && inB I.2.2.2 0 10000
def wanB (W : WaD) : Bool := inB W.1 0 10000 && selB W.2.1 && nmsB W.2.2.1 8 && wgsB W.2.2.2
def bornB (bears spots : List ByteArray) : Bool := spots.all (amongB bears)
def eligB (W : WaD) (I : IsD) : Bool := wanB W && islB I && matchB W.2.1 I.2.1 && bornB W.2.2.1 I.2.2.1
def weighI : List WgD → ByteArray → Int
  | [], _ => 1
  | x :: r, s => if x.1 = s then x.2 else weighI r s
theorem weighI_hit {s : ByteArray} : ∀ {l : List WgD} {k : Nat}, (∀ j (h : j < l.length), j < k → (l[j]'h).1 ≠ s) → ∀ hk : k < l.length, (l[k]'hk).1 = s → weighI l s = (l[k]'hk).2
  | x :: r, 0, _, _, he => by unfold weighI; rw [if_pos (show x.1 = s from he)]; rfl
  | x :: r, k + 1, h, hk, he => by
    unfold weighI
    rw [if_neg (show ¬ x.1 = s from h 0 (by simp) (by omega))]
    exact weighI_hit (fun j hj hjk => h (j + 1) (by simp; omega) (by omega)) (by simpa using hk) he
theorem weighI_miss {s : ByteArray} : ∀ {l : List WgD}, (∀ j (h : j < l.length), (l[j]'h).1 ≠ s) → weighI l s = 1
  | [], _ => rfl
  | x :: r, h => by
    unfold weighI
    rw [if_neg (show ¬ x.1 = s from h 0 (by simp))]
    exact weighI_miss (fun j hj => h (j + 1) (by simp; omega))
theorem weighI_in {s : ByteArray} : ∀ {l : List WgD}, (∀ x ∈ l, 0 ≤ x.2 ∧ x.2 ≤ 1000) → 0 ≤ weighI l s ∧ weighI l s ≤ 1000
  | [], _ => by unfold weighI; exact ⟨by decide, by decide⟩
  | x :: r, h => by
    unfold weighI
    split
    · exact h x (.head _)
    · exact weighI_in (fun y hy => h y (.tail _ hy))
theorem weighI_i64 {s : ByteArray} : ∀ {l : List WgD}, (∀ x ∈ l, inK .i64 x.2) → inK .i64 (weighI l s)
  | [], _ => by unfold weighI; exact ⟨by decide, by decide⟩
  | x :: r, h => by
    unfold weighI
    split
    · exact h x (.head _)
    · exact weighI_i64 (fun y hy => h y (.tail _ hy))
theorem inB_iff {x a b : Int} : inB x a b = true ↔ a ≤ x ∧ x ≤ b := by unfold inB; rw [decide_eq_true_eq]
/-- the weight of an island in a want -/
def wOf (W : WaD) (I : IsD) : Int := if eligB W I = true then weighI W.2.2.2 I.1 else 0
def wsOf (W : WaD) (L : List IsD) : List Int := L.map (wOf W)
theorem wanB_wgs {W : WaD} (h : wanB W = true) : ∀ x ∈ W.2.2.2, 0 ≤ x.2 ∧ x.2 ≤ 1000 := fun x hx => by
  unfold wanB at h
  simp only [Bool.and_eq_true] at h
  exact inB_iff.1 ((wgsB_iff.1 h.2).2.1 x hx)
theorem wOf_in {W : WaD} (h : wanB W = true) (I : IsD) : 0 ≤ wOf W I ∧ wOf W I ≤ 1000 := by
  unfold wOf
  split
  · exact weighI_in (wanB_wgs h)
  · exact ⟨by decide, by decide⟩
open Classical in
/-- what numbers are divided into, none where they are not right -/
noncomputable def dvdL (n : Int) (ws cs : List Int) : List Int := if rightP n ws cs then divL n ws cs else []
theorem dvdL_says (n : Int) (ws cs : List Int) : (¬ rightP n ws cs → dvdL n ws cs = []) ∧ (rightP n ws cs → dvdL n ws cs = divL n ws cs) := ⟨fun h => by unfold dvdL; rw [if_neg h], fun h => by unfold dvdL; rw [if_pos h]⟩
def shrR (W : WaD) (L : List IsD) : Bool := wanB W && decide (L.length ≤ 12) && L.all islB
noncomputable def shrL (W : WaD) (L : List IsD) (left : List Int) : List Int := if shrR W L = true then dvdL W.1 (wsOf W L) left else []
theorem shrL_len {W : WaD} {L : List IsD} {left : List Int} (h : left.length ≠ L.length) : shrL W L left = [] := by
  unfold shrL
  split
  · refine (dvdL_says _ _ _).1 (fun g => h ?_)
    have := g.1.2.2
    simp [wsOf] at this
    omega
  · rfl
end Go.Proofs.Ytdnodaoeflbfkaa
