/- Plain lists: a text cut at each sign; what the two readers of labels come to; no model's run here. -/
import Derived.Test.YtbadjopaocindaaDoorLabs4
import Derived.Lib.Split
namespace Go.Proofs.YtbadjopaocindaaDoor
set_option linter.unusedVariables false

def ba (l : List UInt8) : ByteArray := ⟨l.toArray⟩
def pcs (c : UInt8) : List UInt8 → List (List UInt8)
  | [] => [[]]
  | b :: l => if b = c then [] :: pcs c l else match pcs c l with | h :: t => (b :: h) :: t | [] => [[b]]
theorem pcs_none {c : UInt8} : ∀ l : List UInt8, (∀ b ∈ l, b ≠ c) → pcs c l = [l]
  | [], _ => rfl
  | b :: l, h => by
    rw [pcs, if_neg (h b (by simp)), pcs_none l (fun x hx => h x (by simp [hx]))]
theorem pcs_hit {c : UInt8} : ∀ (l r : List UInt8), (∀ b ∈ l, b ≠ c) → pcs c (l ++ c :: r) = l :: pcs c r
  | [], r, _ => by simp [pcs]
  | b :: l, r, h => by
    rw [List.cons_append, pcs, if_neg (h b (by simp)), pcs_hit l r (fun x hx => h x (by simp [hx]))]
theorem cut_first (c : UInt8) : ∀ s : List UInt8, (∀ b ∈ s, b ≠ c) ∨ ∃ l r, s = l ++ c :: r ∧ ∀ b ∈ l, b ≠ c
  | [] => .inl (by simp)
  | b :: s => by
    by_cases h : b = c
    · exact .inr ⟨[], s, by simp [h], by simp⟩
    · rcases cut_first c s with g | ⟨l, r, g1, g2⟩
      · exact .inl (by intro x hx; rcases List.mem_cons.1 hx with rfl | hx; exact h; exact g x hx)
      · exact .inr ⟨b :: l, r, by rw [g1]; rfl, by intro x hx; rcases List.mem_cons.1 hx with rfl | hx; exact h; exact g2 x hx⟩
theorem index_none {c : UInt8} : ∀ l : List UInt8, (∀ b ∈ l, b ≠ c) → Lib.index l [c] = -1
  | [], _ => rfl
  | b :: l, h => by
    have h0 : ¬ c = b := fun e => h b (by simp) e.symm
    rw [Lib.index, index_none l (fun x hx => h x (by simp [hx]))]
    simp [List.isPrefixOf, h0]
theorem index_hit {c : UInt8} : ∀ (l r : List UInt8), (∀ b ∈ l, b ≠ c) → Lib.index (l ++ c :: r) [c] = l.length
  | [], r, _ => by simp [Lib.index, List.isPrefixOf]
  | b :: l, r, h => by
    have h0 : ¬ c = b := fun e => h b (by simp) e.symm
    rw [List.cons_append, Lib.index, index_hit l r (fun x hx => h x (by simp [hx]))]
    have : ¬ ((l.length : Int) = -1) := by omega
    simp [List.isPrefixOf, h0, this]
theorem take_cut (l r : List UInt8) (c : UInt8) : (l ++ c :: r).take l.length = l ∧ (l ++ c :: r).drop (l.length + 1) = r := by
  constructor
  · simp
  · rw [← List.drop_drop]; simp
theorem splitK_some {c : UInt8} (l r : List UInt8) (k : Nat) (h : ∀ b ∈ l, b ≠ c) : Lib.splitK [c] 0 (k + 1) (l ++ c :: r) = l :: Lib.splitK [c] 0 k r := by
  have e := index_hit l r h
  have hn : ¬ ((Lib.index (l ++ c :: r) [c] == -1) = true) := by rw [e, beq_iff_eq]; omega
  rw [Lib.splitK, if_neg hn, e]
  have t := take_cut l r c
  simp only [Int.toNat_natCast, Nat.add_zero, List.length_cons, List.length_nil, Nat.zero_add]
  rw [t.1, t.2]
theorem splitK_all {c : UInt8} : ∀ (k : Nat) (s : List UInt8), (pcs c s).length ≤ k + 1 → Lib.splitK [c] 0 k s = pcs c s := by
  intro k
  induction k with
  | zero =>
    intro s h
    rcases cut_first c s with g | ⟨l, r, rfl, g⟩
    · rw [pcs_none s g]; rfl
    · rw [pcs_hit l r g] at h
      rcases cut_first c r with g' | ⟨l', r', rfl, g'⟩
      · rw [pcs_none r g'] at h; simp at h
      · rw [pcs_hit l' r' g'] at h; simp at h
  | succ k ih =>
    intro s h
    rcases cut_first c s with g | ⟨l, r, rfl, g⟩
    · rw [pcs_none s g, Lib.splitK, index_none s g]; rfl
    · rw [splitK_some l r k g, pcs_hit l r g, ih r (by rw [pcs_hit l r g] at h; simpa using h)]
theorem splitK_long {c : UInt8} : ∀ (k : Nat) (s : List UInt8), k + 1 < (pcs c s).length → (Lib.splitK [c] 0 k s).length = k + 1 := by
  intro k
  induction k with
  | zero => intro s _; rfl
  | succ k ih =>
    intro s h
    rcases cut_first c s with g | ⟨l, r, rfl, g⟩
    · rw [pcs_none s g] at h; simp at h
    · rw [splitK_some l r k g, List.length_cons, ih r (by rw [pcs_hit l r g] at h; simpa using h)]
theorem pcs_length_le {c : UInt8} : ∀ s : List UInt8, (pcs c s).length ≤ s.length + 1
  | [] => by simp [pcs]
  | b :: s => by
    have := pcs_length_le (c := c) s
    unfold pcs
    split
    · simp only [List.length_cons]; omega
    · split
      · rename_i e; rw [e] at this; simp only [List.length_cons] at *; omega
      · simp

/-! ### one label's text -/
def kvOf (p : List UInt8) : Option (ByteArray × ByteArray) := match pcs 61 p with | [a, b] => some (ba a, ba b) | _ => none
def cutOf (p : List UInt8) : Option (ByteArray × ByteArray) := if (Lib.cut p [61]).2.2 then some (ba (Lib.cut p [61]).1, ba (Lib.cut p [61]).2.1) else none
def allOf (f : List UInt8 → Option (ByteArray × ByteArray)) : List (List UInt8) → Option (List (ByteArray × ByteArray))
  | [] => some []
  | p :: r => match f p, allOf f r with | some x, some y => some (x :: y) | _, _ => none
theorem allOf_length {f : List UInt8 → Option (ByteArray × ByteArray)} : ∀ {P : List (List UInt8)} {ls}, allOf f P = some ls → ls.length = P.length
  | [], ls, h => by cases h; rfl
  | p :: r, ls, h => by
    unfold allOf at h
    split at h
    · rename_i x y h1 h2
      cases h
      rw [List.length_cons, List.length_cons, allOf_length h2]
    · cases h
theorem cut_at (l r : List UInt8) (h : ∀ b ∈ l, b ≠ (61 : UInt8)) : Lib.cut (l ++ 61 :: r) [61] = (l, r, true) := by
  have e := index_hit l r h
  have hn : 0 ≤ Lib.index (l ++ 61 :: r) [61] := by rw [e]; omega
  rw [Lib.cut, if_pos hn, e]
  have t := take_cut l r 61
  simp only [Int.toNat_natCast, List.length_cons, List.length_nil, Nat.zero_add]
  rw [t.1, t.2]
theorem cut_not (l : List UInt8) (h : ∀ b ∈ l, b ≠ (61 : UInt8)) : Lib.cut l [61] = (l, [], false) := by
  rw [Lib.cut, index_none l h]; rfl
theorem nameB_eq (r : List UInt8) (h : (61 : UInt8) ∈ r) : nameB (ba r) = false := by
  obtain ⟨i, hi, e⟩ := List.getElem_of_mem h
  refine nameB_bad (k := i) hi ?_
  have : byt (ba r) i = 61 := by
    show (((r[i]?).getD 0).toNat : Int) = 61
    rw [List.getElem?_eq_getElem hi, e]; rfl
  rw [this]; decide
/-- a piece: both take it alike; or neither; or what the one takes is no name -/
theorem piece (p : List UInt8) : (∃ x, kvOf p = some x ∧ cutOf p = some x) ∨ (kvOf p = none ∧ cutOf p = none) ∨ (kvOf p = none ∧ ∃ x, cutOf p = some x ∧ nameB x.2 = false) := by
  rcases cut_first 61 p with g | ⟨l, r, rfl, g⟩
  · right; left
    constructor
    · unfold kvOf; rw [pcs_none p g]
    · unfold cutOf; rw [cut_not p g]; rfl
  · have hc : cutOf (l ++ 61 :: r) = some (ba l, ba r) := by unfold cutOf; rw [cut_at l r g]; rfl
    rcases cut_first 61 r with g' | ⟨l', r', rfl, g'⟩
    · left
      refine ⟨_, ?_, hc⟩
      unfold kvOf; rw [pcs_hit l r g, pcs_none r g']
    · right; right
      refine ⟨?_, _, hc, nameB_eq _ (by simp)⟩
      unfold kvOf
      rw [pcs_hit l _ g, pcs_hit l' r' g']
      rcases cut_first 61 r' with g2 | ⟨l2, r2, rfl, g2⟩
      · rw [pcs_none r' g2]
      · rw [pcs_hit l2 r2 g2]
def resOf (o : Option (List (ByteArray × ByteArray))) : List (ByteArray × ByteArray) × Bool := match o with | none => ([], false) | some ls => if labelsB ls then (ls, true) else ([], false)
theorem labelsB_val {ls : List (ByteArray × ByteArray)} {x : ByteArray × ByteArray} (h : x ∈ ls) (hx : nameB x.2 = false) : labelsB ls = false := by
  obtain ⟨i, hi, e⟩ := List.getElem_of_mem h
  refine labelsB_bad hi fun g => ?_
  have := g.2.1
  unfold valAt at this
  rw [List.getElem?_eq_getElem hi, e] at this
  simp only [Option.getD_some] at this
  rw [hx] at this; cases this
theorem all_same : ∀ P : List (List UInt8), (∃ ls, allOf kvOf P = some ls ∧ allOf cutOf P = some ls) ∨ (allOf kvOf P = none ∧ (allOf cutOf P = none ∨ ∃ ls x, allOf cutOf P = some ls ∧ x ∈ ls ∧ nameB x.2 = false))
  | [] => .inl ⟨[], rfl, rfl⟩
  | p :: r => by
    rcases piece p with ⟨x, h1, h2⟩ | ⟨h1, h2⟩ | ⟨h1, x, h2, h3⟩
    · rcases all_same r with ⟨ls, g1, g2⟩ | ⟨g1, g2 | ⟨ls, y, g2, g3, g4⟩⟩
      · exact .inl ⟨x :: ls, by simp [allOf, h1, g1], by simp [allOf, h2, g2]⟩
      · exact .inr ⟨by simp [allOf, h1, g1], .inl (by simp [allOf, h2, g2])⟩
      · exact .inr ⟨by simp [allOf, h1, g1], .inr ⟨x :: ls, y, by simp [allOf, h2, g2], by simp [g3], g4⟩⟩
    · exact .inr ⟨by simp [allOf, h1], .inl (by simp [allOf, h2])⟩
    · refine .inr ⟨by simp [allOf, h1], ?_⟩
      cases g : allOf cutOf r with
      | none => exact .inl (by simp [allOf, h2, g])
      | some ls => exact .inr ⟨x :: ls, x, by simp [allOf, h2, g], by simp, h3⟩
theorem res_same (P : List (List UInt8)) : resOf (allOf cutOf P) = resOf (allOf kvOf P) := by
  rcases all_same P with ⟨ls, h1, h2⟩ | ⟨h1, h2 | ⟨ls, x, h2, h3, h4⟩⟩
  · rw [h1, h2]
  · rw [h1, h2]
  · rw [h1, h2]
    unfold resOf
    simp only
    rw [labelsB_val h3 h4]; rfl
theorem res_long {f : List UInt8 → Option (ByteArray × ByteArray)} {P : List (List UInt8)} (h : 8 < P.length) : resOf (allOf f P) = ([], false) := by
  cases g : allOf f P with
  | none => rfl
  | some ls =>
    unfold resOf
    simp only
    rw [labelsB_long (by rw [allOf_length g]; exact h)]; rfl
/-- what both readers answer, at a text that is not empty -/
theorem readers (s : List UInt8) : resOf (allOf cutOf (Lib.splitK [44] 0 (min 9 (s.length + 1) - 1) s)) = resOf (allOf kvOf (pcs 44 s)) := by
  by_cases h : (pcs 44 s).length ≤ 9
  · rw [splitK_all _ _ (by have := pcs_length_le (c := 44) s; omega), res_same]
  · have hs := pcs_length_le (c := 44) s
    rw [show min 9 (s.length + 1) - 1 = 8 from by omega, res_long (by rw [splitK_long 8 s (by omega)]; omega), res_long (by omega)]
end Go.Proofs.YtbadjopaocindaaDoor
