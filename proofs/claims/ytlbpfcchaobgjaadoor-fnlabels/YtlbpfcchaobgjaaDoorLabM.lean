/- Plain lists: labels behind a set, a get, a drop, and their text read back; no model's run here. -/
import Derived.Test.YtlbpfcchaobgjaaDoorSetI
import Derived.Test.YtlbpfcchaobgjaaDoorText
import Derived.Test.YtlbpfcchaobgjaaDoorParse
namespace Go.Proofs.YtlbpfcchaobgjaaDoor
open Go.RowKit
set_option linter.unusedVariables false
theorem between_upto {ls : List (ByteArray × ByteArray)} (key : ByteArray) (ha : asc ls) : ∀ n, n ≤ ls.length → ∃ p, p ≤ n ∧ (∀ t, t < p → Op.bytesLess (keyAt ls t).toList key.toList = true) ∧ ∀ t, p ≤ t → t < n → Op.bytesLess (keyAt ls t).toList key.toList = false
  | 0, _ => ⟨0, Nat.le_refl _, fun t h => by omega, fun t h1 h2 => by omega⟩
  | n + 1, hn => by
    obtain ⟨p, h1, h2, h3⟩ := between_upto key ha n (by omega)
    rcases Bool.eq_false_or_eq_true (Op.bytesLess (keyAt ls n).toList key.toList) with e | e
    · refine ⟨n + 1, Nat.le_refl _, fun t ht => ?_, fun t h4 h5 => by omega⟩
      by_cases c : t = n
      · rw [c]; exact e
      · exact less_trans (ha t n (by omega) (by omega)) e
    · refine ⟨p, by omega, h2, fun t h4 h5 => ?_⟩
      by_cases c : t = n
      · rw [c]; exact e
      · exact h3 t h4 (by omega)
theorem between_ex {ls : List (ByteArray × ByteArray)} (key : ByteArray) (ha : asc ls) : ∃ p, p ≤ ls.length ∧ between ls key p p := by
  obtain ⟨p, h1, h2, h3⟩ := between_upto key ha ls.length (Nat.le_refl _)
  exact ⟨p, h1, h2, h3⟩
theorem get_mem {ns : List (ByteArray × ByteArray)} (ha : asc ns) {x : ByteArray × ByteArray} (h : x ∈ ns) : getV ns x.1 = x.2 ∧ getH ns x.1 = true := by
  obtain ⟨i, hi, rfl⟩ := List.getElem_of_mem h
  rw [pair_at hi]
  exact get_hit hi (fun j hj e => by
    have := ha j i hj hi
    simp only at e
    rw [e, less_irrefl] at this
    cases this) rfl
theorem get_drop (ns : List (ByteArray × ByteArray)) (key : ByteArray) : getH (dropL ns key) key = false := by
  unfold getH
  cases h : (dropL ns key).find? (fun p => decide (p.1 = key)) with
  | none => rfl
  | some x =>
    have h1 := List.find?_some h
    have h2 := List.mem_of_find?_eq_some h
    unfold dropL at h2
    have h3 := (List.mem_filter.1 h2).2
    simp only [decide_eq_true_eq] at h1 h3
    exact absurd h1 h3
theorem put_new {ls : List (ByteArray × ByteArray)} {key : ByteArray} {p : Nat} (val : ByteArray) (hp : p ≤ ls.length) : (key, val) ∈ putL ls p key val := by
  unfold putL
  split
  · rename_i h; exact List.mem_set h.1 _
  · unfold insL; simp
theorem put_old {ls : List (ByteArray × ByteArray)} {key : ByteArray} {p : Nat} (val : ByteArray) {x : ByteArray × ByteArray} (hx : x ∈ ls) (hk : x.1 ≠ key) : x ∈ putL ls p key val := by
  unfold putL
  split
  · rename_i h
    obtain ⟨i, hi, rfl⟩ := List.getElem_of_mem hx
    have hne : p ≠ i := by
      intro e
      subst e
      rw [pair_at hi] at hk
      exact hk h.2
    have : (ls.set p (key, val))[i]'(by rw [List.length_set]; exact hi) = ls[i] := List.getElem_set_ne hne _
    rw [← this]
    exact List.getElem_mem _
  · unfold insL
    have : x ∈ ls.take p ++ ls.drop p := by rw [List.take_append_drop]; exact hx
    rcases List.mem_append.1 this with h | h
    · exact List.mem_append.2 (.inl h)
    · exact List.mem_append.2 (.inr (List.mem_cons_of_mem _ h))
/-- what a set that goes makes: right labels; the new one is found; an old one too -/
theorem set_facts {ls : List (ByteArray × ByteArray)} {key val : ByteArray} (h : setOk ls key val = true) :
    labelsB (setAll key val ls) = true ∧ nameB key = true ∧ getV (setAll key val ls) key = val ∧ getH (setAll key val ls) key = true ∧
    ∀ i, i < ls.length → getH (setAll key val ls) (keyAt ls i) = true ∧ (keyAt ls i ≠ key → getV (setAll key val ls) (keyAt ls i) = valAt ls i) := by
  have hu := h
  unfold setOk at hu
  simp only [Bool.and_eq_true] at hu
  have hb := hu.1.1.1
  obtain ⟨p, hp, hbt⟩ := between_ex key (asc_of hb)
  have hl : labelsB (putL ls p key val) = true := by rw [← setOk_put val hb hbt hp]; exact h
  rw [setAll_put val (asc_of hb) hbt hp]
  have hg := get_mem (asc_of hl) (put_new val hp)
  refine ⟨hl, hu.1.1.2, hg.1, hg.2, fun i hi => ?_⟩
  by_cases e : keyAt ls i = key
  · rw [e]; exact ⟨hg.2, fun h => absurd rfl h⟩
  · have hm : (keyAt ls i, valAt ls i) ∈ ls := by rw [← pair_at hi]; exact List.getElem_mem _
    have hg := get_mem (asc_of hl) (put_old (p := p) val hm e)
    exact ⟨hg.2, fun _ => hg.1⟩
theorem name_not {s : ByteArray} (h : nameB s = true) : ∀ b ∈ s.data.toList, b ≠ (44 : UInt8) ∧ b ≠ (61 : UInt8) := by
  intro b hb
  obtain ⟨i, hi, e⟩ := List.getElem_of_mem hb
  unfold nameB at h
  rw [decide_eq_true_eq] at h
  have h1 := h.1 i hi
  have h2 : byt s i = (b.toNat : Int) := by
    show (((s.data.toList[i]?).getD 0).toNat : Int) = _
    rw [List.getElem?_eq_getElem hi, e]; rfl
  rw [h2] at h1
  constructor <;> (intro e; subst e; revert h1; decide)
theorem kv_part {x : ByteArray × ByteArray} (h1 : nameB x.1 = true) (h2 : nameB x.2 = true) : kvOf (partL x) = some x := by
  unfold kvOf partL
  rw [pcs_hit _ _ (fun b hb => (name_not h1 b hb).2), pcs_none _ (fun b hb => (name_not h2 b hb).2)]
  rfl
theorem part_not {x : ByteArray × ByteArray} (h1 : nameB x.1 = true) (h2 : nameB x.2 = true) : ∀ b ∈ partL x, b ≠ (44 : UInt8) := by
  intro b hb
  unfold partL at hb
  rcases List.mem_append.1 hb with hb | hb
  · exact (name_not h1 b hb).1
  · rcases List.mem_cons.1 hb with rfl | hb
    · decide
    · exact (name_not h2 b hb).1
theorem pcs_join : ∀ (x : List UInt8) (r : List (List UInt8)), (∀ p ∈ x :: r, ∀ b ∈ p, b ≠ (44 : UInt8)) → pcs 44 (Lib.join (x :: r) [44]) = x :: r
  | x, [], h => by rw [Lib.join_one]; exact pcs_none x (h x (by simp))
  | x, y :: r, h => by
    have e : Lib.join (x :: y :: r) [44] = x ++ 44 :: Lib.join (y :: r) [44] := by
      rw [Lib.join_cons, Lib.join_cons]
      unfold Lib.joinTail
      simp
    rw [e, pcs_hit x _ (h x (by simp)), pcs_join y r (fun p hp => h p (List.mem_cons_of_mem _ hp))]
theorem all_parts : ∀ (ls : List (ByteArray × ByteArray)), (∀ x ∈ ls, nameB x.1 = true ∧ nameB x.2 = true) → allOf kvOf (ls.map partL) = some ls
  | [], _ => rfl
  | x :: r, h => by
    rw [List.map_cons, allOf, kv_part (h x (by simp)).1 (h x (by simp)).2, all_parts r (fun y hy => h y (by simp [hy]))]
theorem text_back {N : List (ByteArray × ByteArray)} (h : labelsB N = true) : specR (textB N) = (N, true) := by
  obtain ⟨h1, h2, h3⟩ := (labelsB_iff N).1 h
  unfold textB
  rw [if_pos h]
  unfold specR
  cases N with
  | nil => rw [if_pos (show (txB []).size = 0 from rfl)]
  | cons x r =>
    have e : (txB (x :: r)).data.toList = Lib.join (partL x :: r.map partL) [44] := by
      unfold txB txL; simp
    have hz : ¬ (txB (x :: r)).size = 0 := by
      intro hz
      have h4 : (txB (x :: r)).data.toList.length = 0 := hz
      rw [e, Lib.join_cons] at h4
      unfold partL at h4
      simp at h4
    rw [if_neg hz, e, pcs_join _ _ (by
      intro p hp
      rw [← List.map_cons] at hp
      obtain ⟨y, hy, rfl⟩ := List.mem_map.1 hp
      exact part_not (h2 y hy).1 (h2 y hy).2), ← List.map_cons, all_parts _ h2]
    unfold resOf
    simp only
    rw [h]; rfl
theorem text_size {N : List (ByteArray × ByteArray)} (h : labelsB N = true) : (textB N).size ≤ 336 := by
  unfold textB
  rw [if_pos h]
  have h8 := labelsB_len h
  have := txB_size N (fun k hk => labelsB_at h hk) N.length (Nat.le_refl _)
  rw [List.take_length] at this
  omega
end Go.Proofs.YtlbpfcchaobgjaaDoor
