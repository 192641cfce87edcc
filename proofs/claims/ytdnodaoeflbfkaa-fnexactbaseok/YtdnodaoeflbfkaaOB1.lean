/- Objects: what is asked of one alone: its numbers, its Waits. -/
import Derived.Test.YtdnodaoeflbfkaaBrg
import Derived.Test.YtdnodaoeflbfkaaSelV
import Derived.Test.YtdnodaoeflbfkaaU5
import Derived.Test.YtdnodaoeflbfkaaUFObj
namespace Go.Proofs.Ytdnodaoeflbfkaa
open Go.RowKit Go.BigFrame
set_option linter.unusedVariables false

def waitsB (ss : List ByteArray) : Bool := valsB ss && decide (ss.length ≤ 4)
theorem fromOne_any (x b : Int) (w : World) : Calls Try.prog 91 #[.int .i64 x, .int .i64 b] w fun e w' => e = .returned (.bool (inB x 1 b)) ∧ w' = w := by
  go_enter Try.func91, Try.ntmps91
  go_wp2
  all_goals go_ret
  all_goals exact ⟨ret_bool (by rw [Bool.eq_iff_iff]; simp [inB]; omega), rfl⟩
theorem iwaits_any (a : Option Addr) (cap : Nat) (ss : List ByteArray) (w : World) (hl : ss.length ≤ maxLen) (hrow : strOf w a ss) :
    Calls Try.prog 213 #[.slice a ss.length cap] w fun e w' => e = .returned (.bool (waitsB ss)) ∧ Below w.heap.size w w' := by
  have H := uhide (iasc_any a cap ss w hl hrow)
  unfold waitsB
  clear hrow
  generalize valsB ss = V at *
  generalize ss.length = n at *
  by_cases h4 : n ≤ 4
  · go_enter Try.func213, Try.ntmps213
    have h4' : ((n : Int) ≤ 4) := by omega
    go_wp2_with fail
    refine H.out.mono ?_
    rintro e w1 ⟨rfl, hb⟩
    go_wp2
    go_ret
    exact ⟨ret_bool (by simp [h4]), hb⟩
  · go_enter Try.func213, Try.ntmps213
    have h4' : ¬ ((n : Int) ≤ 4) := by omega
    go_wp2
    go_ret
    exact ⟨ret_bool (by simp), Below.refl _ _⟩
set_option maxHeartbeats 800000 in
theorem l7Waits_any (ss : List ByteArray) (a : Option Addr) (cap : Nat) (w : World) (hl : ss.length ≤ maxLen) (hz : okStrs ss) (hrow : strOf w a ss) :
    Calls Try.prog 162 #[.slice a ss.length cap] w fun e w' => e = .returned (.bool (waitsB ss)) ∧ Below w.heap.size w w' := by
  unfold maxLen at hl
  have Hr := hide hrow
  have Hz : Hid (∀ i, (ssAt ss i).size ≤ maxLen) := fun i => by
    unfold ssAt
    by_cases hi : i < ss.length
    · rw [List.getElem?_eq_getElem hi]; exact hz _ (List.getElem_mem hi)
    · rw [List.getElem?_eq_none (by omega)]; exact Nat.zero_le _
  clear hrow hz
  go_enter Try.func162, Try.ntmps162
  go_wp2
  go_loopw [3] (fun i wr => ∃ (k : Nat), k ≤ ss.length ∧ i = .int .i64 k ∧ Hid (∀ j, j < k → okV ss j) ∧ Below w.heap.size w wr) (fun i _ => ss.length - (intOf i).toNat)
  case atStart => exact ⟨0, Nat.zero_le _, rfl, fun j hj => by omega, Below.refl _ _⟩
  case round =>
    obtain ⟨k, hk, rfl, Hx, hbw⟩ := hrel
    by_cases hlt : k < ss.length
    · obtain ⟨b, off, rfl, hat⟩ := Hr.out (by omega)
      have hc := strAt_cells hat
      have hbb : b < w.heap.size := World.block_lt_of_cell? _ _ (hat k hlt)
      have c0 := (hbw.cell (p := ⟨b, off + k, none⟩) hbb).trans (hc k hlt)
      have cp : 0 < k → wr.cell? ⟨b, off + (k - 1), none⟩ = some (.string (ssAt ss (k - 1))) := fun h => (hbw.cell (p := ⟨b, off + (k - 1), none⟩) hbb).trans (hc (k - 1) (by omega))
      have hzK := Hz.out k
      have Hs : Hid (okV ss k → ∀ j, j < k + 1 → okV ss j) := fun h => okV_succ Hx.out h
      have Hb : Hid (¬ okV ss k → waitsB ss = false) := fun h => by unfold waitsB; rw [valsB_bad hlt h, Bool.false_and]
      have hcs := okV_cases ss k
      clear hat hc Hx
      generalize ssAt ss k = K at *
      generalize ssAt ss (k - 1) = P at *
      have hK := fun wx => (sname_any K wx hzK)
      clear hzK
      rcases hcs with ⟨h1, hok⟩ | ⟨h1, h3, hok⟩ | ⟨h1, h3, h4, hok⟩ | ⟨h1, h3, h4, hok⟩
      · rw [h1] at hK
        have HK := hide hK
        have Hn := hide (Hb.out hok.out)
        clear hK h1 cp Hs Hb Hz Hr
        go_wp2
        go_quiet ((go_at_call 64; exact Calls.quiet_of_same (HK.out _)))
        go_wp2
        go_ret
        exact ⟨ret_bool Hn.out.symm, below_drewN hbw _⟩
      · rw [h1] at hK
        have HK := hide hK
        have hk0 : k = 0 := h3.out
        have h3' : decide ((0 : Int) < (k : Int)) = false := by rw [decide_eq_false_iff_not]; omega
        have h3'' : decide (0 < k) = false := by rw [decide_eq_false_iff_not]; omega
        have h3a : (k : Int) ≤ 0 := by omega
        have Hn := hide (Hs.out hok.out)
        clear hK h1 cp h3 hk0 Hs Hb Hz Hr
        go_wp2
        go_quiet ((go_at_call 64; exact Calls.quiet_of_same (HK.out _)))
        go_wp2
        go_roundw
        case rel => exact ⟨k + 1, by omega, by go_num, Hn, below_drewN hbw _⟩
        case measure => simp [intOf]; omega
      · rw [h1] at hK
        have HK := hide hK
        have cp := cp h3
        have h3' : (0 : Int) < (k : Int) := by omega
        have Hn := hide (Hs.out hok.out)
        clear hK h1 Hs Hb Hz Hr
        go_wp2
        go_quiet ((go_at_call 64; exact Calls.quiet_of_same (HK.out _)))
        go_wp2
        go_roundw
        case rel => exact ⟨k + 1, by omega, by go_num, Hn, below_drewN hbw _⟩
        case measure => simp [intOf]; omega
      · rw [h1] at hK
        have HK := hide hK
        have cp := cp h3
        have h3' : (0 : Int) < (k : Int) := by omega
        have Hn := hide (Hb.out hok.out)
        clear hK h1 Hs Hb Hz Hr
        go_wp2
        go_quiet ((go_at_call 64; exact Calls.quiet_of_same (HK.out _)))
        go_wp2
        go_ret
        exact ⟨ret_bool Hn.out.symm, below_drewN hbw _⟩
    · have e : k = ss.length := by omega
      subst e
      have Hv : Hid (waitsB ss = decide (ss.length ≤ 4)) := by show _ = _; unfold waitsB; rw [valsB_end Hx.out, Bool.true_and]
      clear Hx Hr Hz
      go_wp2
      go_ret
      exact ⟨ret_bool (by rw [Hv.out, Bool.eq_iff_iff]; simp; omega), hbw⟩
end Go.Proofs.Ytdnodaoeflbfkaa
