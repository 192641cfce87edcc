/- Plain lists: what the two ways of setting a label come to is one. -/
import Derived.Test.YtlbpfcchaobgjaaDoorWith2
namespace Go.Proofs.YtlbpfcchaobgjaaDoor
open Go.RowKit
set_option linter.unusedVariables false
theorem less_irrefl : ∀ a : List UInt8, Op.bytesLess a a = false
  | [] => rfl
  | x :: a => by simp [Op.bytesLess, less_irrefl a]
theorem setStep_below {key val : ByteArray} {o : List (ByteArray × ByteArray)} {x : ByteArray × ByteArray} (h : Op.bytesLess x.1.toList key.toList = true) : setStep key val (o, false) x = (o ++ [x], false) := by
  have hne : x.1 ≠ key := by intro e; rw [e, less_irrefl] at h; cases h
  unfold setStep
  simp [h, hne]
theorem fold_below (key val : ByteArray) : ∀ (ls : List (ByteArray × ByteArray)) (o : List (ByteArray × ByteArray)), (∀ x ∈ ls, Op.bytesLess x.1.toList key.toList = true) → ls.foldl (setStep key val) (o, false) = (o ++ ls, false)
  | [], o, _ => by simp
  | x :: r, o, h => by
    rw [List.foldl_cons, setStep_below (h x (by simp)), fold_below key val r _ (fun y hy => h y (by simp [hy]))]
    simp
theorem fold_above (key val : ByteArray) : ∀ (ls : List (ByteArray × ByteArray)) (o : List (ByteArray × ByteArray)), (∀ x ∈ ls, x.1 ≠ key) → ls.foldl (setStep key val) (o, true) = (o ++ ls, true)
  | [], o, _ => by simp
  | x :: r, o, h => by
    have hne := h x (by simp)
    have e : setStep key val (o, true) x = (o ++ [x], true) := by unfold setStep; simp [hne]
    rw [List.foldl_cons, e, fold_above key val r _ (fun y hy => h y (by simp [hy]))]
    simp
theorem labelsB_len' {ls : List (ByteArray × ByteArray)} (h : labelsB ls = true) : ls.length ≤ 8 := by
  unfold labelsB at h
  rw [decide_eq_true_eq] at h
  exact h.1
theorem pair_at {ls : List (ByteArray × ByteArray)} {i : Nat} (h : i < ls.length) : ls[i]'h = (keyAt ls i, valAt ls i) := by
  unfold keyAt valAt; rw [List.getElem?_eq_getElem h]; rfl
theorem below_take {ls : List (ByteArray × ByteArray)} {key : ByteArray} {p : Nat} (hb : between ls key p p) (hp : p ≤ ls.length) : ∀ x ∈ ls.take p, Op.bytesLess x.1.toList key.toList = true := by
  intro x hx
  obtain ⟨i, hi, rfl⟩ := List.getElem_of_mem hx
  rw [List.length_take] at hi
  rw [List.getElem_take, pair_at (by omega)]
  exact hb.1 i (by omega)
theorem above_drop {ls : List (ByteArray × ByteArray)} {key : ByteArray} {p : Nat} (ha : asc ls) (hb : between ls key p p) (q : Nat) (hq : p ≤ q) (hne : p < ls.length → q = p → keyAt ls p ≠ key) : ∀ x ∈ ls.drop q, x.1 ≠ key := by
  intro x hx
  obtain ⟨i, hi, rfl⟩ := List.getElem_of_mem hx
  rw [List.length_drop] at hi
  rw [List.getElem_drop, pair_at (by omega)]
  intro e
  simp only at e
  by_cases h0 : q + i = p
  · exact hne (by omega) (by omega) (by rw [← h0]; exact e)
  · have h1 := ha p (q + i) (by omega) (by omega)
    have h2 := hb.2 p (Nat.le_refl _) (by omega)
    rw [← e, h1] at h2
    cases h2
theorem setAll_put {ls : List (ByteArray × ByteArray)} {key : ByteArray} {p : Nat} (val : ByteArray) (ha : asc ls) (hb : between ls key p p) (hp : p ≤ ls.length) : setAll key val ls = putL ls p key val := by
  have hs : ls = ls.take p ++ ls.drop p := (List.take_append_drop p ls).symm
  have h1 : setTo key val ls = (ls.drop p).foldl (setStep key val) (ls.take p, false) := by
    unfold setTo
    conv => lhs; rw [hs]
    rw [List.foldl_append, fold_below key val _ [] (below_take hb hp), List.nil_append]
  by_cases hlt : p < ls.length
  · have hd : ls.drop p = (keyAt ls p, valAt ls p) :: ls.drop (p + 1) := by rw [List.drop_eq_getElem_cons hlt, pair_at hlt]
    have hnl := hb.2 p (Nat.le_refl _) hlt
    by_cases hk : keyAt ls p = key
    · have e : setStep key val (ls.take p, false) (keyAt ls p, valAt ls p) = (ls.take p ++ [(key, val)], true) := by
        unfold setStep; simp only; rw [if_pos hk]; simp [hnl]
      have hf : setTo key val ls = (ls.take p ++ [(key, val)] ++ ls.drop (p + 1), true) := by
        rw [h1, hd, List.foldl_cons, e, fold_above key val _ _ (above_drop ha hb (p + 1) (by omega) (fun _ h => by omega))]
      unfold setAll
      rw [hf]
      unfold putL
      rw [if_pos (show p < ls.length ∧ keyAt ls p = key from ⟨hlt, hk⟩), List.set_eq_take_append_cons_drop, if_pos hlt, if_pos rfl, List.append_assoc]
      rfl
    · have e : setStep key val (ls.take p, false) (keyAt ls p, valAt ls p) = (ls.take p ++ [(key, val)] ++ [(keyAt ls p, valAt ls p)], true) := by
        unfold setStep; simp only; rw [if_neg hk]; simp [hnl]
      have hf : setTo key val ls = (ls.take p ++ [(key, val)] ++ [(keyAt ls p, valAt ls p)] ++ ls.drop (p + 1), true) := by
        rw [h1, hd, List.foldl_cons, e, fold_above key val _ _ (above_drop ha hb (p + 1) (by omega) (fun _ h => by omega))]
      unfold setAll
      rw [hf]
      unfold putL
      rw [if_neg (show ¬ (p < ls.length ∧ keyAt ls p = key) from fun h => hk h.2), if_pos rfl]
      unfold insL
      rw [hd]
      simp
  · have e : p = ls.length := by omega
    subst e
    have hf : setTo key val ls = (ls, false) := by rw [h1, List.drop_length, List.take_length]; rfl
    unfold setAll
    rw [hf]
    unfold putL
    rw [if_neg (show ¬ (ls.length < ls.length ∧ keyAt ls ls.length = key) from fun h => hlt h.1), if_neg (by simp)]
    simp [insL]

/-! ### when it is right -/
theorem labelsB_iff (ls : List (ByteArray × ByteArray)) : labelsB ls = true ↔ ls.length ≤ 8 ∧ (∀ x ∈ ls, nameB x.1 = true ∧ nameB x.2 = true) ∧ asc ls := by
  constructor
  · intro h
    refine ⟨labelsB_len' h, fun x hx => ?_, asc_of h⟩
    obtain ⟨i, hi, rfl⟩ := List.getElem_of_mem hx
    unfold labelsB at h
    rw [decide_eq_true_eq] at h
    rw [pair_at hi]
    exact ⟨(h.2 i hi).1, (h.2 i hi).2.1⟩
  · rintro ⟨h1, h2, h3⟩
    unfold labelsB
    rw [decide_eq_true_eq]
    refine ⟨h1, fun i hi => ?_⟩
    have := h2 _ (List.getElem_mem hi)
    rw [pair_at hi] at this
    exact ⟨this.1, this.2, fun h0 => h3 (i - 1) i (by omega) hi⟩
theorem less_total : ∀ a b : List UInt8, Op.bytesLess a b = false → a ≠ b → Op.bytesLess b a = true
  | [], [], _, h => absurd rfl h
  | [], _ :: _, h, _ => by simp [Op.bytesLess] at h
  | _ :: _, [], _, _ => rfl
  | x :: a, y :: b, h, hne => by
    simp only [Op.bytesLess, Bool.or_eq_false_iff, Bool.and_eq_false_iff, decide_eq_false_iff_not, beq_eq_false_iff_ne] at h
    simp only [Op.bytesLess, Bool.or_eq_true, Bool.and_eq_true, decide_eq_true_eq, beq_iff_eq]
    by_cases e : x = y
    · subst e
      right
      refine ⟨rfl, less_total a b ?_ (fun e => hne (by rw [e]))⟩
      rcases h.2 with h2 | h2
      · exact absurd rfl h2
      · exact h2
    · left
      have h1 := h.1
      rw [UInt8.lt_iff_toNat_lt] at h1 ⊢
      have : x.toNat ≠ y.toNat := fun e' => e (UInt8.toNat_inj.1 e')
      omega
theorem str_ne {a b : ByteArray} (h : a ≠ b) : a.toList ≠ b.toList := by
  rw [Lib.toList_data, Lib.toList_data]
  intro e
  exact h (ByteArray.ext (Array.ext' e))
theorem key_insL {ls : List (ByteArray × ByteArray)} {p : Nat} (hp : p ≤ ls.length) (key val : ByteArray) (i : Nat) : keyAt (insL ls p (key, val)) i = if i < p then keyAt ls i else if i = p then key else keyAt ls (i - 1) := by
  have hl : (ls.take p).length = p := by rw [List.length_take]; omega
  unfold keyAt insL
  split
  · rw [List.getElem?_append_left (by omega), List.getElem?_take, if_pos (by assumption)]
  · rw [List.getElem?_append_right (by omega), hl]
    split
    · rename_i e; rw [e, Nat.sub_self]; rfl
    · rw [show i - p = (i - 1 - p) + 1 from by omega, List.getElem?_cons_succ, List.getElem?_drop, show p + (i - 1 - p) = i - 1 from by omega]
theorem key_set {ls : List (ByteArray × ByteArray)} {p : Nat} (hp : p < ls.length) (val : ByteArray) (i : Nat) : keyAt (ls.set p (keyAt ls p, val)) i = keyAt ls i := by
  by_cases e : i = p
  · subst e
    unfold keyAt
    rw [List.getElem?_set_self hp]; rfl
  · unfold keyAt
    rw [List.getElem?_set_ne (fun h => e h.symm)]
theorem labelsB_put {ls : List (ByteArray × ByteArray)} {key : ByteArray} {p : Nat} (val : ByteArray) (h : labelsB ls = true) (hb : between ls key p p) (hp : p ≤ ls.length) :
    labelsB (putL ls p key val) = (nameB key && nameB val && (getH ls key || !(ls.length == 8))) := by
  obtain ⟨h1, h2, ha⟩ := (labelsB_iff ls).1 h
  have hno : noneTo ls key p := fun j hj e => by
    have := hb.1 j hj
    rw [e, less_irrefl] at this; cases this
  rw [Bool.eq_iff_iff, labelsB_iff]
  unfold putL
  by_cases hq : p < ls.length ∧ keyAt ls p = key
  · obtain ⟨hlt, hk⟩ := hq
    have hg := (get_hit hlt hno hk).2
    have hnk : nameB key = true := by rw [← hk]; have := (h2 _ (List.getElem_mem hlt)).1; rw [pair_at hlt] at this; exact this
    rw [if_pos ⟨hlt, hk⟩, hg, hnk]
    simp only [Bool.true_and, Bool.true_or, Bool.and_true]
    constructor
    · rintro ⟨_, h4, _⟩
      exact (h4 (key, val) (List.mem_set hlt _)).2
    · intro hv
      refine ⟨by rw [List.length_set]; exact h1, fun x hx => ?_, fun i j hij hj => ?_⟩
      · rcases List.mem_or_eq_of_mem_set hx with hx | rfl
        · exact h2 x hx
        · exact ⟨hnk, hv⟩
      · rw [List.length_set] at hj
        rw [← hk, key_set hlt, key_set hlt]
        exact ha i j hij hj
  · have hne : p < ls.length → p = p → keyAt ls p ≠ key := fun hlt _ e => hq ⟨hlt, e⟩
    have hab := above_drop ha hb p (Nat.le_refl _) hne
    have hg : getH ls key = false := (get_none (fun j hj e => by
      by_cases hjp : j < p
      · exact hno j hjp e
      · have hm : ls[j]'hj ∈ ls.drop p := by
          rw [List.mem_drop_iff_getElem]
          exact ⟨j - p, by omega, by congr 1; omega⟩
        have := hab _ hm
        rw [pair_at hj] at this
        exact this e)).2
    rw [if_neg hq, hg]
    simp only [Bool.false_or, Bool.and_eq_true, Bool.not_eq_true', beq_eq_false_iff_ne]
    rw [insL_len _ _ _ hp]
    constructor
    · rintro ⟨h3, h4, _⟩
      have := h4 (key, val) (by unfold insL; simp)
      exact ⟨⟨this.1, this.2⟩, by omega⟩
    · rintro ⟨⟨hk, hv⟩, h8⟩
      refine ⟨by omega, fun x hx => ?_, fun i j hij hj => ?_⟩
      · unfold insL at hx
        rcases List.mem_append.1 hx with hx | hx
        · exact h2 x (List.mem_of_mem_take hx)
        · rcases List.mem_cons.1 hx with rfl | hx
          · exact ⟨hk, hv⟩
          · exact h2 x (List.mem_of_mem_drop hx)
      · rw [insL_len _ _ _ hp] at hj
        rw [key_insL hp, key_insL hp]
        have habove : ∀ t, p ≤ t → t < ls.length → Op.bytesLess key.toList (keyAt ls t).toList = true := fun t ht hl => by
          have hn := hb.2 t ht hl
          have hm : ls[t]'hl ∈ ls.drop p := by
            rw [List.mem_drop_iff_getElem]
            exact ⟨t - p, by omega, by congr 1; omega⟩
          have hx := hab _ hm
          rw [pair_at hl] at hx
          exact less_total _ _ hn (str_ne hx)
        by_cases c1 : i < p
        · rw [if_pos c1]
          by_cases c2 : j < p
          · rw [if_pos c2]; exact ha i j hij (by omega)
          · rw [if_neg c2]
            by_cases c3 : j = p
            · rw [if_pos c3]; exact hb.1 i c1
            · rw [if_neg c3]; exact ha i (j - 1) (by omega) (by omega)
        · rw [if_neg c1, if_neg (show ¬ j < p by omega), if_neg (show ¬ j = p by omega)]
          by_cases c3 : i = p
          · rw [if_pos c3]; exact habove (j - 1) (by omega) (by omega)
          · rw [if_neg c3]; exact ha (i - 1) (j - 1) (by omega) (by omega)
end Go.Proofs.YtlbpfcchaobgjaaDoor
