/- What FnMatched asks, of the plain functions. -/
import Derived.Test.YtbihhcbbjdjhcaaMatch2
namespace Go.Proofs.Ytbihhcbbjdjhcaa
open Go.RowKit Go.BigFrame
set_option linter.unusedVariables false

theorem mch_all {ts : List TD} {ls : List (ByteArray × ByteArray)} (hs : selB ts = true) (hl : labelsB ls = true) : matchB ts ls = ts.all (hitB ls) := by
  unfold matchB; rw [hs, hl]; rfl
theorem mch_sel {ts : List TD} (hs : selB ts = true) {t : TD} (ht : t ∈ ts) : termB t = true := by
  unfold selB at hs; rw [decide_eq_true_eq] at hs; exact hs.2 t ht
theorem mch_one {t : TD} {ls : List (ByteArray × ByteArray)} (ht : termB t = true) (hl : labelsB ls = true) : matchB [t] ls = hitB ls t := by
  have hs : selB [t] = true := by unfold selB; rw [decide_eq_true_eq]; exact ⟨by simp, fun u hu => by rw [List.mem_singleton.1 hu]; exact ht⟩
  rw [mch_all hs hl]
  simp
theorem mch_nil {ls : List (ByteArray × ByteArray)} (hl : labelsB ls = true) : matchB [] ls = true := by
  have hs : selB [] = true := by unfold selB; rw [decide_eq_true_eq]; exact ⟨by simp, fun u hu => by cases hu⟩
  rw [mch_all hs hl]
  rfl
theorem mch_bare {t : TD} (ht : termB t = true) {k : Int} (hk : k = 4 ∨ k = 5) : termB (k, t.2.1, []) = true := by
  unfold termB at *
  simp only [Bool.and_eq_true] at *
  refine ⟨⟨?_, ht.1.2⟩, ?_⟩
  · unfold valsB; rw [decide_eq_true_eq]; exact fun i hi => by cases hi
  · unfold kindB; rw [decide_eq_true_eq]; exact .inr (.inr ⟨hk, rfl⟩)
theorem mch_hasnot {t : TD} {ls : List (ByteArray × ByteArray)} (ht : termB t = true) (hl : labelsB ls = true) : (matchB [(4, t.2.1, [])] ls != matchB [(5, t.2.1, [])] ls) = true := by
  rw [mch_one (mch_bare ht (.inl rfl)) hl, mch_one (mch_bare ht (.inr rfl)) hl]
  unfold hitB holdsB
  cases getH ls t.2.1 <;> simp
/-- the first q of all -/
def mchU (ts : List TD) (ls : List (ByteArray × ByteArray)) (q : Nat) : Bool := (ts.take q).all (hitB ls)
theorem mchU_succ {ts : List TD} {ls : List (ByteArray × ByteArray)} {q : Nat} (h : q < ts.length) : mchU ts ls (q + 1) = (mchU ts ls q && hitB ls (ts[q]'h)) := by
  unfold mchU
  rw [List.take_succ_eq_append_getElem h, List.all_append]
  simp
theorem mchU_full (ts : List TD) (ls : List (ByteArray × ByteArray)) : mchU ts ls ts.length = ts.all (hitB ls) := by unfold mchU; rw [List.take_length]
end Go.Proofs.Ytbihhcbbjdjhcaa
