/- Right values: the program's reading of them. -/
import Derived.Test.YtdnodaoeflbfkaaValL
import Derived.Test.YtdnodaoeflbfkaaSelV
namespace Go.Proofs.Ytdnodaoeflbfkaa
open Go.RowKit Go.BigFrame
set_option linter.unusedVariables false

theorem asc_low {x : Int} (h : ascB x = false) (h2 : 32 ≤ x) : 126 < x := by
  unfold ascB at h; rw [decide_eq_false_iff_not] at h; omega
theorem itext_any (s : ByteArray) (w : World) (hs : s.size ≤ maxLen) : Calls Try.prog 273 #[.string s] w fun e w' => e = .returned (.bool (txB s)) ∧ w' = w := by
  unfold maxLen at hs
  by_cases hbig : 100 < s.size
  · have Hn := hide (txB_long hbig)
    have hbig' : (100 : Int) < (s.size : Int) := by omega
    clear hbig
    go_enter Try.func273, Try.ntmps273
    go_wp2
    go_ret
    exact ⟨ret_bool Hn.out.symm, rfl⟩
  have hbig' : (s.size : Int) ≤ 100 := by omega
  go_enter Try.func273, Try.ntmps273
  go_wp2
  go_loop [9] (fun i => ∃ k : Nat, k ≤ s.size ∧ i = .int .i64 k ∧ Hid (txTo s k)) (fun i => s.size - (intOf i).toNat)
  case atStart => exact ⟨0, Nat.zero_le _, rfl, fun j hj => by omega⟩
  case round =>
    obtain ⟨k, hk, rfl, Hok⟩ := hrel
    by_cases hlt : k < s.size
    · have hb := byt_bd s k
      rw [byt_get s k hlt] at hb
      have hsucc := fun h => txTo_succ Hok.out (k := k) h
      have hbad := fun h => txB_bad (s := s) hlt h
      rw [byt_get s k hlt] at hsucc hbad
      clear Hok
      have Hs : Hid (ascB (s[k]'hlt).toNat = true → txTo s (k + 1)) := hsucc
      have Hb : Hid (ascB (s[k]'hlt).toNat = false → txB s = false) := hbad
      clear hsucc hbad
      have h0 : ((s[k]'hlt).toNat : Int) < 32 ∧ Hid (ascB ((s[k]'hlt).toNat) = false) ∨ (32 : Int) ≤ ((s[k]'hlt).toNat : Int) ∧ (126 : Int) < ((s[k]'hlt).toNat : Int) ∧ Hid (ascB ((s[k]'hlt).toNat) = false) ∨ (32 : Int) ≤ ((s[k]'hlt).toNat : Int) ∧ ((s[k]'hlt).toNat : Int) ≤ 126 ∧ Hid (ascB ((s[k]'hlt).toNat) = true) := by
        unfold ascB Hid
        simp only [decide_eq_true_eq, decide_eq_false_iff_not]
        omega
      rcases h0 with ⟨h1, hn⟩ | ⟨h1, h2, hn⟩ | ⟨h1, h2, hn⟩
      · have Hn := hide (Hb.out hn.out)
        clear Hs Hb hn
        go_wp2
        go_ret
        exact ⟨ret_bool Hn.out.symm, rfl⟩
      · have Hn := hide (Hb.out hn.out)
        clear Hs Hb hn
        go_wp2
        go_ret
        exact ⟨ret_bool Hn.out.symm, rfl⟩
      · have Hn := hide (Hs.out hn.out)
        clear Hs Hb hn
        go_wp2
        go_round
        case rel => exact ⟨k + 1, by omega, by go_num, Hn⟩
        case measure => simp [intOf]; omega
    · have e : k = s.size := by omega
      subst e
      have Hn : Hid (txB s = true) := by show _ = _; rw [txB_end Hok.out, decide_eq_true (by omega)]
      clear Hok
      go_wp2
      go_ret
      exact ⟨ret_bool Hn.out.symm, rfl⟩
end Go.Proofs.Ytdnodaoeflbfkaa
