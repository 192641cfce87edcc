/- Right values: the spec's reading of them. -/
import Derived.Test.YtdnodaoeflbfkaaValM
import Derived.Test.YtdnodaoeflbfkaaVals
namespace Go.Proofs.Ytdnodaoeflbfkaa
open Go.RowKit Go.BigFrame
set_option linter.unusedVariables false

theorem ascIn (x : Int) : inB x 32 126 = ascB x := rfl
theorem l4Text_any (s : ByteArray) (w : World) (hs : s.size ≤ maxLen) : Calls Try.prog 234 #[.string s] w fun e w' => e = .returned (.bool (txB s)) ∧ w' = w := by
  unfold maxLen at hs
  go_enter Try.func234, Try.ntmps234
  go_wp2
  go_loop [3] (fun i => ∃ k : Nat, k ≤ s.size ∧ i = .int .i64 k ∧ Hid (txTo s k)) (fun i => s.size - (intOf i).toNat)
  case atStart => exact ⟨0, Nat.zero_le _, rfl, fun j hj => by omega⟩
  case round =>
    obtain ⟨k, hk, rfl, Hok⟩ := hrel
    by_cases hlt : k < s.size
    · have hb := byt_bd s k
      rw [byt_get s k hlt] at hb
      have hsucc := fun h => txTo_succ Hok.out (k := k) h
      have hbad := fun h => txB_bad (s := s) hlt h
      rw [byt_get s k hlt] at hsucc hbad
      clear Hok
      have Hs : Hid (ascB (s[k]'hlt).toNat = true → txTo s (k + 1)) := hsucc
      have Hb : Hid (ascB (s[k]'hlt).toNat = false → txB s = false) := hbad
      have hcon := fun wx => l1In_any ((s[k]'hlt).toNat) 32 126 wx
      rw [ascIn] at hcon
      clear hsucc hbad
      cases hc : ascB ((s[k]'hlt).toNat)
      · rw [hc] at hcon
        have Hn := hide (Hb.out hc)
        have Hcon := hide hcon
        clear hcon Hs Hb hc
        go_wp2_with (go_at_call 65; refine (Hcon.out _).mono ?_; rintro e w' ⟨rfl, rfl⟩)
        go_ret
        exact ⟨ret_bool Hn.out.symm, rfl⟩
      · rw [hc] at hcon
        have Hn := hide (Hs.out hc)
        have Hcon := hide hcon
        clear hcon Hs Hb hc
        go_wp2_with (go_at_call 65; refine (Hcon.out _).mono ?_; rintro e w' ⟨rfl, rfl⟩)
        go_round
        case rel => exact ⟨k + 1, by omega, by go_num, Hn⟩
        case measure => simp [intOf]; omega
    · have e : k = s.size := by omega
      subst e
      have Hn := hide (txB_end Hok.out)
      clear Hok
      go_wp2
      all_goals go_ret
      all_goals exact ⟨ret_bool (by rw [Hn.out, Bool.eq_iff_iff]; simp; omega), rfl⟩
def keysB (ss : List ByteArray) (m : Nat) : Bool := decide (ss.length = m) && valsB ss
set_option maxHeartbeats 800000 in
theorem l4Keys_any (kd : Int) (tx : ByteArray) (nm : Int) (ss : List ByteArray) (m : Nat) (a a' : Option Addr) (cap cap' : Nat) (w : World) (hl : ss.length ≤ maxLen) (hm : m ≤ maxLen) (hz : okStrs ss) (hrow : strOf w a ss) :
    Calls Try.prog 235 #[.agg #[.int .i64 kd, .string tx, .int .i64 nm, .slice a ss.length cap, .slice a' m cap']] w fun e w' => e = .returned (.bool (keysB ss m)) ∧ Below w.heap.size w w' := by
  unfold maxLen at hl hm
  have Hr := hide hrow
  have Hz : Hid (∀ i, (ssAt ss i).size ≤ maxLen) := fun i => by
    unfold ssAt
    by_cases hi : i < ss.length
    · rw [List.getElem?_eq_getElem hi]; exact hz _ (List.getElem_mem hi)
    · rw [List.getElem?_eq_none (by omega)]; exact Nat.zero_le _
  clear hrow hz
  go_enter Try.func235, Try.ntmps235
  go_wp2
  go_loopw [3] (fun i wr => ∃ (k : Nat), k ≤ ss.length ∧ i = .int .i64 k ∧ Hid (∀ j, j < k → okV ss j) ∧ wr.cell? ⟨w.heap.size, 3, none⟩ = some (.slice a ss.length cap) ∧ wr.cell? ⟨w.heap.size, 4, none⟩ = some (.slice a' m cap') ∧ Below w.heap.size w wr) (fun i _ => ss.length - (intOf i).toNat)
  case atStart => exact ⟨0, Nat.zero_le _, rfl, fun j hj => by omega, by simp, by simp, (Below.refl _ _).alloc (by simp) _⟩
  case round =>
    obtain ⟨k, hk, rfl, Hx, b3, b4, hbw⟩ := hrel
    by_cases hlt : k < ss.length
    · obtain ⟨b, off, rfl, hat⟩ := Hr.out (by omega)
      have hc := strAt_cells hat
      have hbb : b < w.heap.size := World.block_lt_of_cell? _ _ (hat k hlt)
      have c0 := (hbw.cell (p := ⟨b, off + k, none⟩) hbb).trans (hc k hlt)
      have cp : 0 < k → wr.cell? ⟨b, off + (k - 1), none⟩ = some (.string (ssAt ss (k - 1))) := fun h => (hbw.cell (p := ⟨b, off + (k - 1), none⟩) hbb).trans (hc (k - 1) (by omega))
      have hzK := Hz.out k
      have Hs : Hid (okV ss k → ∀ j, j < k + 1 → okV ss j) := fun h => okV_succ Hx.out h
      have Hb : Hid (¬ okV ss k → keysB ss m = false) := fun h => by unfold keysB; rw [valsB_bad hlt h, Bool.and_false]
      have hcs := okV_cases ss k
      clear hat hc Hx
      generalize ssAt ss k = K at *
      generalize ssAt ss (k - 1) = P at *
      have hK := fun wx => (sname_any K wx hzK)
      clear hzK
      rcases hcs with ⟨h1, hok⟩ | ⟨h1, h3, hok⟩ | ⟨h1, h3, h4, hok⟩ | ⟨h1, h3, h4, hok⟩
      · rw [h1] at hK
        have HK := hide hK
        have Hn := hide (Hb.out hok.out)
        clear hK h1 cp Hs Hb Hz Hr
        go_wp2
        go_quiet ((go_at_call 64; exact Calls.quiet_of_same (HK.out _)))
        go_wp2
        go_ret
        exact ⟨ret_bool Hn.out.symm, below_drewN hbw _⟩
      · rw [h1] at hK
        have HK := hide hK
        have hk0 : k = 0 := h3.out
        have h3' : decide ((0 : Int) < (k : Int)) = false := by rw [decide_eq_false_iff_not]; omega
        have h3'' : decide (0 < k) = false := by rw [decide_eq_false_iff_not]; omega
        have h3a : (k : Int) ≤ 0 := by omega
        have Hn := hide (Hs.out hok.out)
        clear hK h1 cp h3 hk0 Hs Hb Hz Hr
        go_wp2
        go_quiet ((go_at_call 64; exact Calls.quiet_of_same (HK.out _)))
        go_wp2
        go_roundw
        case rel => exact ⟨k + 1, by omega, by go_num, Hn, b3, b4, below_drewN hbw _⟩
        case measure => simp [intOf]; omega
      · rw [h1] at hK
        have HK := hide hK
        have cp := cp h3
        have h3' : (0 : Int) < (k : Int) := by omega
        have Hn := hide (Hs.out hok.out)
        clear hK h1 Hs Hb Hz Hr
        go_wp2
        go_quiet ((go_at_call 64; exact Calls.quiet_of_same (HK.out _)))
        go_wp2
        go_roundw
        case rel => exact ⟨k + 1, by omega, by go_num, Hn, b3, b4, below_drewN hbw _⟩
        case measure => simp [intOf]; omega
      · rw [h1] at hK
        have HK := hide hK
        have cp := cp h3
        have h3' : (0 : Int) < (k : Int) := by omega
        have Hn := hide (Hb.out hok.out)
        clear hK h1 Hs Hb Hz Hr
        go_wp2
        go_quiet ((go_at_call 64; exact Calls.quiet_of_same (HK.out _)))
        go_wp2
        go_ret
        exact ⟨ret_bool Hn.out.symm, below_drewN hbw _⟩
    · have e : k = ss.length := by omega
      subst e
      have Hv : Hid (keysB ss m = decide (ss.length = m)) := by show _ = _; unfold keysB; rw [valsB_end Hx.out, Bool.and_true]
      clear Hx Hr Hz
      go_wp2
      go_ret
      exact ⟨ret_bool (by rw [Hv.out, Bool.eq_iff_iff]; simp; omega), hbw⟩
end Go.Proofs.Ytdnodaoeflbfkaa
