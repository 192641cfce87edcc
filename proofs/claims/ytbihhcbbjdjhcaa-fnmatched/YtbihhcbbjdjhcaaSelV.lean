/- Names in order: what is asked of a term's values and of a value's keys; impl.ascendingNames. -/
import Derived.Test.YtbihhcbbjdjhcaaStrs
namespace Go.Proofs.Ytbihhcbbjdjhcaa
open Go.RowKit Go.BigFrame
set_option linter.unusedVariables false

def ssAt (ss : List ByteArray) (i : Nat) : ByteArray := ss[i]?.getD ByteArray.empty
def okV (ss : List ByteArray) (i : Nat) : Prop := nameB (ssAt ss i) = true ∧ (0 < i → ltS (ssAt ss (i - 1)) (ssAt ss i) = true)
def valsB (ss : List ByteArray) : Bool := decide (∀ i, i < ss.length → nameB (ssAt ss i) = true ∧ (0 < i → ltS (ssAt ss (i - 1)) (ssAt ss i) = true))
theorem valsB_bad {ss : List ByteArray} {k : Nat} (hk : k < ss.length) (h : ¬ okV ss k) : valsB ss = false := by
  unfold valsB; rw [decide_eq_false_iff_not]; exact fun g => h (g k hk)
theorem valsB_end {ss : List ByteArray} (h : ∀ i, i < ss.length → okV ss i) : valsB ss = true := by
  unfold valsB; rw [decide_eq_true_eq]; exact h
theorem okV_succ {ss : List ByteArray} {k : Nat} (h : ∀ i, i < k → okV ss i) (hk : okV ss k) : ∀ i, i < k + 1 → okV ss i := by
  intro i hi
  by_cases e : i = k
  · rw [e]; exact hk
  · exact h i (by omega)
theorem ssAt_get {ss : List ByteArray} {k : Nat} (h : k < ss.length) : ssAt ss k = ss[k] := by unfold ssAt; rw [List.getElem?_eq_getElem h]; rfl
theorem strAt_cells {w : World} {b off : Nat} {ss : List ByteArray} (h : strAt w b off ss) : ∀ i, i < ss.length → w.cell? ⟨b, off + i, none⟩ = some (.string (ssAt ss i)) := fun i hi => by rw [ssAt_get hi]; exact h i hi
theorem okV_cases (ss : List ByteArray) (k : Nat) :
    (nameB (ssAt ss k) = false ∧ Hid (¬ okV ss k)) ∨ (nameB (ssAt ss k) = true ∧ Hid (k = 0) ∧ Hid (okV ss k)) ∨
    (nameB (ssAt ss k) = true ∧ 0 < k ∧ Op.bytesLess (ssAt ss (k - 1)).toList (ssAt ss k).toList = true ∧ Hid (okV ss k)) ∨
    (nameB (ssAt ss k) = true ∧ 0 < k ∧ Op.bytesLess (ssAt ss (k - 1)).toList (ssAt ss k).toList = false ∧ Hid (¬ okV ss k)) := by
  have hd : okV ss k ↔ nameB (ssAt ss k) = true ∧ (0 < k → Op.bytesLess (ssAt ss (k - 1)).toList (ssAt ss k).toList = true) := Iff.rfl
  unfold Hid
  rw [hd]
  rcases Bool.eq_false_or_eq_true (nameB (ssAt ss k)) with h1 | h1
  · by_cases h3 : 0 < k
    · rcases Bool.eq_false_or_eq_true (Op.bytesLess (ssAt ss (k - 1)).toList (ssAt ss k).toList) with h4 | h4
      · exact .inr (.inr (.inl ⟨h1, h3, h4, h1, fun _ => h4⟩))
      · refine .inr (.inr (.inr ⟨h1, h3, h4, fun g => ?_⟩))
        have := g.2 h3
        rw [h4] at this; cases this
    · exact .inr (.inl ⟨h1, by omega, h1, fun h => absurd h h3⟩)
  · refine .inl ⟨h1, fun g => ?_⟩
    rw [h1] at g; cases g.1

set_option maxHeartbeats 800000 in
theorem iasc_any (a : Option Addr) (cap : Nat) (ss : List ByteArray) (w : World) (hl : ss.length ≤ maxLen) (hrow : strOf w a ss) :
    Calls Try.prog 40 #[.slice a ss.length cap] w fun e w' => e = .returned (.bool (valsB ss)) ∧ Below w.heap.size w w' := by
  unfold maxLen at hl
  have Hr := hide hrow
  clear hrow
  go_enter Try.func40, Try.ntmps40
  go_wp2
  go_loopw [7] (fun i wr => ∃ (k : Nat), k ≤ ss.length ∧ i = .int .i64 k ∧ Hid (∀ j, j < k → okV ss j) ∧ Below w.heap.size w wr) (fun i _ => ss.length - (intOf i).toNat)
  case atStart => exact ⟨0, Nat.zero_le _, rfl, fun j hj => by omega, Below.refl _ _⟩
  case round =>
    obtain ⟨k, hk, rfl, Hx, hbw⟩ := hrel
    by_cases hlt : k < ss.length
    · obtain ⟨b, off, rfl, hat⟩ := Hr.out (by omega)
      have hc := strAt_cells hat
      have hbb : b < w.heap.size := World.block_lt_of_cell? _ _ (hat k hlt)
      have c0 := (hbw.cell (p := ⟨b, off + k, none⟩) hbb).trans (hc k hlt)
      have Hcp : Hid (0 < k → ∀ wx, Below w.heap.size w wx → wx.cell? ⟨b, off + (k - 1), none⟩ = some (.string (ssAt ss (k - 1)))) := fun h wx hx => (hx.cell (p := ⟨b, off + (k - 1), none⟩) hbb).trans (hc (k - 1) (by omega))
      have Hs : Hid (okV ss k → ∀ j, j < k + 1 → okV ss j) := fun h => okV_succ Hx.out h
      have Hb : Hid (¬ okV ss k → valsB ss = false) := fun h => valsB_bad hlt h
      have hcs := okV_cases ss k
      clear hat hc Hx
      generalize ssAt ss k = K at *
      generalize ssAt ss (k - 1) = P at *
      have hK := (iname_any K wr)
      rcases hcs with ⟨h1, hok⟩ | ⟨h1, h3, hok⟩ | ⟨h1, h3, h4, hok⟩ | ⟨h1, h3, h4, hok⟩
      · rw [h1] at hK
        have HK := hide hK
        have Hn := hide (Hb.out hok.out)
        clear hK h1 Hcp Hs Hb Hr
        go_wp2_with fail
        refine (HK.out).mono ?_
        rintro e w1 ⟨rfl, hb1⟩
        go_wp2
        go_ret
        exact ⟨ret_bool (Hn.out.symm), hbw.trans (hb1.mono hbw.size)⟩
      · rw [h1] at hK
        have HK := hide hK
        have hk0 : k = 0 := h3.out
        have h3' : decide ((0 : Int) < (k : Int)) = false := by rw [decide_eq_false_iff_not]; omega
        have h3'' : decide (0 < k) = false := by rw [decide_eq_false_iff_not]; omega
        have h3a : (k : Int) ≤ 0 := by omega
        have Hn := hide (Hs.out hok.out)
        clear hK h1 Hcp h3 hk0 Hs Hb Hr
        go_wp2_with fail
        refine (HK.out).mono ?_
        rintro e w1 ⟨rfl, hb1⟩
        go_wp2
        go_roundw
        case rel => exact ⟨k + 1, by omega, by go_num, Hn, hbw.trans (hb1.mono hbw.size)⟩
        case measure => simp [intOf]; omega
      · rw [h1] at hK
        have HK := hide hK
        have h3' : (0 : Int) < (k : Int) := by omega
        have Hn := hide (Hs.out hok.out)
        clear hK h1 Hs Hb Hr
        go_wp2_with fail
        refine (HK.out).mono ?_
        rintro e w1 ⟨rfl, hb1⟩
        have cp := Hcp.out h3 w1 (hbw.trans (hb1.mono hbw.size))
        go_wp2
        go_roundw
        case rel => exact ⟨k + 1, by omega, by go_num, Hn, hbw.trans (hb1.mono hbw.size)⟩
        case measure => simp [intOf]; omega
      · rw [h1] at hK
        have HK := hide hK
        have h3' : (0 : Int) < (k : Int) := by omega
        have Hn := hide (Hb.out hok.out)
        clear hK h1 Hs Hb Hr
        go_wp2_with fail
        refine (HK.out).mono ?_
        rintro e w1 ⟨rfl, hb1⟩
        have cp := Hcp.out h3 w1 (hbw.trans (hb1.mono hbw.size))
        go_wp2
        go_ret
        exact ⟨ret_bool (Hn.out.symm), hbw.trans (hb1.mono hbw.size)⟩
    · have e : k = ss.length := by omega
      subst e
      have Hn : Hid (valsB ss = true) := valsB_end Hx.out
      clear Hx Hr
      go_wp2
      go_ret
      exact ⟨ret_bool (Hn.out.symm), hbw⟩

end Go.Proofs.Ytbihhcbbjdjhcaa
