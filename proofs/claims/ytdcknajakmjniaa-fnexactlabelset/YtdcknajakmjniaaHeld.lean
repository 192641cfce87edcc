import Derived.Test.YtdcknajakmjniaaMark
namespace Go.Proofs.Ytdcknajakmjniaa
open Go.RowKit Go.BigFrame
set_option linter.unusedVariables false

set_option maxHeartbeats 800000 in
theorem heldLabelS_any (a : Option Addr) (cap n k0 : Nat) (w : World) (hn : n ≤ 1048576) (hk0 : 1 ≤ k0) (hk1 : k0 ≤ 1048576) (hrow : rowOf w a (marks n k0)) :
    Calls Try.prog 21 #[.slice a n cap, .int .i64 k0] w fun e w' => e = .returned (.int .i64 (k0 + n * 2 : Nat)) ∧ Below w.heap.size w w' := by
  have Hr : Hid (rowOf w a (marks n k0)) := hrow
  clear hrow
  go_enter Try.func21, Try.ntmps21
  go_wp2
  go_loopw [1, 5] (fun q i wr => ∃ (k : Nat), k ≤ n ∧ i = .int .i64 k ∧ q = .int .i64 (k0 + k * 2 : Nat) ∧ Below w.heap.size w wr) (fun _ i _ => n - (intOf i).toNat)
  case atStart => exact ⟨0, Nat.zero_le _, rfl, rfl, Below.refl _ _⟩
  case round =>
    obtain ⟨k, hk, rfl, rfl, hbw⟩ := hrel
    by_cases hlt : k < n
    · obtain ⟨b, off, rfl, hat⟩ := Hr.out (by rw [marks_length]; omega)
      have hat' := hat k (by rw [marks_length]; exact hlt)
      rw [marks_get] at hat'
      simp only at hat'
      have hbb : b < w.heap.size := World.block_lt_of_cell? _ _ hat'.1
      have Hc : Hid (∀ wx, Below w.heap.size w wx → wx.cell? ⟨b, off + k * 2, none⟩ = some (.string (mtx (k0 + k * 2))) ∧ wx.cell? ⟨b, off + k * 2 + 1, none⟩ = some (.string (mtx (k0 + k * 2 + 1)))) :=
        fun wx hx => ⟨(hx.cell (p := ⟨b, off + k * 2, none⟩) hbb).trans hat'.1, (hx.cell (p := ⟨b, off + k * 2 + 1, none⟩) hbb).trans hat'.2⟩
      have hm0 : ∀ (wx : World) (x : Int), Below w.heap.size w wx → x = ((k0 + k * 2 : Nat) : Int) → Calls Try.prog 33 #[.int .i64 x] wx fun e w' => e = .returned (.string (mtx (k0 + k * 2))) ∧ Hid (Below w.heap.size w w') := fun wx x hb hx => by rw [hx]; exact (markText_any (k0 + k * 2) wx (by omega) (by omega)).mono fun e w' h => ⟨h.1, hb.trans (h.2.mono hb.size)⟩
      have hm1 : ∀ (wx : World) (x : Int), Below w.heap.size w wx → x = ((k0 + k * 2 + 1 : Nat) : Int) → Calls Try.prog 33 #[.int .i64 x] wx fun e w' => e = .returned (.string (mtx (k0 + k * 2 + 1))) ∧ Hid (Below w.heap.size w w') := fun wx x hb hx => by rw [hx]; exact (markText_any (k0 + k * 2 + 1) wx (by omega) (by omega)).mono fun e w' h => ⟨h.1, hb.trans (h.2.mono hb.size)⟩
      have Hm0 := hide hm0
      have Hm1 := hide hm1
      have q0 := (Hc.out _ hbw).1
      clear hat hat' hm0 hm1
      generalize mtx (k0 + k * 2) = M0 at *
      generalize mtx (k0 + k * 2 + 1) = M1 at *
      go_wp2
      go_region_with (go_at_call 33; refine (Hm0.out _ _ (by repeat (first | exact hbw | refine Below.drew ?_ | refine below_drewN ?_ _)) (by omega)).mono ?_; rintro e w2 ⟨rfl, hb2⟩; have q2 := (Hc.out _ hb2.out).1)
      all_goals (
        have q1 := (Hc.out _ hb2.out).2
        go_wp2
        go_region_with (go_at_call 33; refine (Hm1.out _ _ (by repeat (first | exact hb2.out | refine Below.drew ?_ | refine below_drewN ?_ _)) (by omega)).mono ?_; rintro e w3 ⟨rfl, hb3⟩; have q3 := (Hc.out _ hb3.out).2)
        all_goals (
          go_wp2
          go_roundw
          case rel => exact ⟨k + 1, by omega, by go_num, by go_num, by repeat (first | exact hb3.out | refine Below.drew ?_ | refine below_drewN ?_ _)⟩
          case measure => simp [intOf]; omega))
    · have e : k = n := by omega
      subst e
      clear Hr
      go_wp2
      go_ret
      exact ⟨ret_int (by omega), hbw⟩
end Go.Proofs.Ytdcknajakmjniaa
