import Derived.Test.YtbihhcbbjdjhcaaLabs5
namespace Go.Proofs.Ytbihhcbbjdjhcaa
open Go.RowKit Go.BigFrame
set_option linter.unusedVariables false

def getV (ls : List (ByteArray × ByteArray)) (key : ByteArray) : ByteArray := ((ls.find? fun p => decide (p.1 = key)).map (·.2)).getD ByteArray.empty
def getH (ls : List (ByteArray × ByteArray)) (key : ByteArray) : Bool := (ls.find? fun p => decide (p.1 = key)).isSome
def noneTo (ls : List (ByteArray × ByteArray)) (key : ByteArray) (k : Nat) : Prop := ∀ j, j < k → keyAt ls j ≠ key
theorem find_hit : ∀ (ls : List (ByteArray × ByteArray)) (key : ByteArray) (k : Nat), k < ls.length → noneTo ls key k → keyAt ls k = key → ls.find? (fun p => decide (p.1 = key)) = some (keyAt ls k, valAt ls k)
  | [], _, _, h, _, _ => by simp at h
  | p :: r, key, 0, _, _, h2 => by
    obtain ⟨pk, pv⟩ := p
    have : pk = key := h2
    simp [this, keyAt, valAt]
  | p :: r, key, k + 1, h, h1, h2 => by
    have h0 : p.1 ≠ key := h1 0 (by omega)
    rw [List.find?_cons, decide_eq_false h0]
    exact find_hit r key k (by simpa using h) (fun j hj => h1 (j + 1) (by omega)) h2
theorem get_hit {ls : List (ByteArray × ByteArray)} {key : ByteArray} {k : Nat} (h : k < ls.length) (h1 : noneTo ls key k) (h2 : keyAt ls k = key) : getV ls key = valAt ls k ∧ getH ls key = true := by
  unfold getV getH
  rw [find_hit ls key k h h1 h2]
  exact ⟨rfl, rfl⟩
theorem get_none {ls : List (ByteArray × ByteArray)} {key : ByteArray} (h1 : noneTo ls key ls.length) : getV ls key = ByteArray.empty ∧ getH ls key = false := by
  have : ls.find? (fun p => decide (p.1 = key)) = none := by
    rw [List.find?_eq_none]
    intro p hp
    obtain ⟨i, hi, rfl⟩ := List.getElem_of_mem hp
    have := h1 i hi
    unfold keyAt at this
    rw [List.getElem?_eq_getElem hi] at this
    simpa using this
  unfold getV getH
  rw [this]
  exact ⟨rfl, rfl⟩
theorem noneTo_succ {ls : List (ByteArray × ByteArray)} {key : ByteArray} {k : Nat} (h : noneTo ls key k) (hk : keyAt ls k ≠ key) : noneTo ls key (k + 1) := by
  intro j hj
  by_cases e : j = k
  · rw [e]; exact hk
  · exact h j (by omega)
theorem ret_sb {s t : ByteArray} {a b : Bool} (h : s = t ∧ a = b) : Ending.returned (.tuple #[.string s, .bool a]) = .returned (.tuple #[.string t, .bool b]) := by rw [h.1, h.2]

theorem slabelGet_any (a : Option Addr) (cap : Nat) (ls : List (ByteArray × ByteArray)) (key : ByteArray) (w : World) (hl : ls.length ≤ maxLen) (hrow : rowOf w a ls) :
    Calls Try.prog 21 #[.slice a ls.length cap, .string key] w fun e w' => e = .returned (.tuple #[.string (getV ls key), .bool (getH ls key)]) ∧ Below w.heap.size w w' := by
  unfold maxLen at hl
  have Hr : Hid (rowOf w a ls) := hrow
  clear hrow
  go_enter Try.func21, Try.ntmps21
  go_wp2
  go_loopw [6] (fun i wr => ∃ (k : Nat), k ≤ ls.length ∧ i = .int .i64 k ∧ Hid (noneTo ls key k) ∧ Below w.heap.size w wr) (fun i _ => ls.length - (intOf i).toNat)
  case atStart => exact ⟨0, Nat.zero_le _, rfl, fun j hj => by omega, Below.refl _ _⟩
  case round =>
    obtain ⟨k, hk, rfl, Hx, hbw⟩ := hrel
    by_cases hlt : k < ls.length
    · obtain ⟨b, off, rfl, hat⟩ := Hr.out (by omega)
      have hc := cellsOf_of hat
      have hbb : b < w.heap.size := World.block_lt_of_cell? _ _ (hat k hlt).1
      have c0 := (hbw.cell (p := ⟨b, off + k * 2, none⟩) hbb).trans (hc k hlt).1
      have c2 := (hbw.cell (p := ⟨b, off + k * 2 + 1, none⟩) hbb).trans (hc k hlt).2
      have he := beq_str (keyAt ls k) key
      clear hat hc Hr
      by_cases hq : keyAt ls k = key
      · rw [decide_eq_true hq] at he
        have Hn := hide (get_hit hlt Hx.out hq)
        clear Hx hq
        generalize keyAt ls k = K at *
        generalize valAt ls k = V at *
        go_wp2
        go_ret2
        exact ⟨ret_sb ⟨Hn.out.1.symm, Hn.out.2.symm⟩, hbw⟩
      · rw [decide_eq_false hq] at he
        have Hn := hide (noneTo_succ Hx.out hq)
        clear Hx hq
        generalize keyAt ls k = K at *
        generalize valAt ls k = V at *
        go_wp2
        go_roundw
        case rel => exact ⟨k + 1, by omega, by go_num, Hn, hbw⟩
        case measure => simp [intOf]; omega
    · have e : k = ls.length := by omega
      subst e
      have Hn := hide (get_none Hx.out)
      clear Hx Hr
      go_wp2
      go_ret2
      exact ⟨ret_sb ⟨Hn.out.1.symm, Hn.out.2.symm⟩, hbw⟩

theorem ilabelGet_any (a : Option Addr) (cap : Nat) (ls : List (ByteArray × ByteArray)) (key : ByteArray) (w : World) (hl : ls.length ≤ maxLen) (hrow : rowOf w a ls) :
    Calls Try.prog 19 #[.slice a ls.length cap, .string key] w fun e w' => e = .returned (.tuple #[.string (getV ls key), .bool (getH ls key)]) ∧ Below w.heap.size w w' := by
  unfold maxLen at hl
  have Hr : Hid (rowOf w a ls) := hrow
  clear hrow
  go_enter Try.func19, Try.ntmps19
  go_wp2
  go_loopw [10] (fun i wr => ∃ (k : Nat), k ≤ ls.length ∧ i = .int .i64 k ∧ Hid (noneTo ls key k) ∧ Below w.heap.size w wr) (fun i _ => ls.length - (intOf i).toNat)
  case atStart => exact ⟨0, Nat.zero_le _, rfl, fun j hj => by omega, Below.refl _ _⟩
  case round =>
    obtain ⟨k, hk, rfl, Hx, hbw⟩ := hrel
    by_cases hlt : k < ls.length
    · obtain ⟨b, off, rfl, hat⟩ := Hr.out (by omega)
      have hc := cellsOf_of hat
      have hbb : b < w.heap.size := World.block_lt_of_cell? _ _ (hat k hlt).1
      have c0 := (hbw.cell (p := ⟨b, off + k * 2, none⟩) hbb).trans (hc k hlt).1
      have c2 := (hbw.cell (p := ⟨b, off + k * 2 + 1, none⟩) hbb).trans (hc k hlt).2
      have he := beq_str (keyAt ls k) key
      clear hat hc Hr
      by_cases hq : keyAt ls k = key
      · rw [decide_eq_true hq] at he
        have Hn := hide (get_hit hlt Hx.out hq)
        clear Hx hq
        generalize keyAt ls k = K at *
        generalize valAt ls k = V at *
        go_wp2
        go_ret2
        exact ⟨ret_sb ⟨Hn.out.1.symm, Hn.out.2.symm⟩, hbw.alloc hbw.size _⟩
      · rw [decide_eq_false hq] at he
        have Hn := hide (noneTo_succ Hx.out hq)
        clear Hx hq
        generalize keyAt ls k = K at *
        generalize valAt ls k = V at *
        go_wp2
        go_roundw
        case rel => exact ⟨k + 1, by omega, by go_num, Hn, hbw.alloc hbw.size _⟩
        case measure => simp [intOf]; omega
    · have e : k = ls.length := by omega
      subst e
      have Hn := hide (get_none Hx.out)
      clear Hx Hr
      go_wp2
      go_ret2
      exact ⟨ret_sb ⟨Hn.out.1.symm, Hn.out.2.symm⟩, hbw⟩
end Go.Proofs.Ytbihhcbbjdjhcaa
