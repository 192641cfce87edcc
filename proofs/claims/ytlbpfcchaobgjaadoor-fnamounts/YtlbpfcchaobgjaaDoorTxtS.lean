import Derived.Test.YtlbpfcchaobgjaaDoorDigS
namespace Go.Proofs.YtlbpfcchaobgjaaDoor
open Go.RowKit Go.BigFrame
set_option linter.unusedVariables false
def amtB (n : Int) : ByteArray := if 0 ≤ n ∧ n ≤ 1000000000000000 then ⟨(amtL n.toNat).toArray⟩ else ⟨#[]⟩
theorem amtB_out {n : Int} (h : inB n 0 1000000000000000 = false) : amtB n = ⟨#[]⟩ := by
  unfold inB at h
  rw [decide_eq_false_iff_not] at h
  unfold amtB
  rw [if_neg h]
theorem amtB_in {n : Nat} (h : n ≤ 1000000000000000) : amtB (n : Int) = ⟨(amtL n).toArray⟩ := by
  unfold amtB
  rw [if_pos ⟨by omega, by omega⟩, Int.toNat_natCast]
theorem dec_app (m : Nat) (u : List UInt8) : decB m ++ ⟨u.toArray⟩ = ⟨(Lib.decDigits m ++ u).toArray⟩ := by
  unfold decB
  apply ByteArray.ext
  simp
theorem amtL_m {n : Nat} (h : ¬ n % 1000 = 0) : amtL n = Lib.decDigits n ++ [109] := by
  unfold amtL
  rw [if_neg (by omega), if_neg (by omega), if_neg (by omega), if_neg (by omega), if_neg h]
theorem amtL_0 : amtL 0 = [48] := by unfold amtL; rw [if_pos rfl]
theorem amtL_g {n : Nat} (h0 : 0 < n / 1000) (h : n % 1000 = 0) (h1 : (n / 1000) % 1073741824 = 0) : amtL n = Lib.decDigits (n / 1000 / 1073741824) ++ [71, 105] := by
  unfold amtL
  rw [if_neg (by omega), if_pos (by omega), Nat.div_div_eq_div_mul]
theorem amtL_mi {n : Nat} (h0 : 0 < n / 1000) (h : n % 1000 = 0) (h1 : ¬ (n / 1000) % 1073741824 = 0) (h2 : (n / 1000) % 1048576 = 0) : amtL n = Lib.decDigits (n / 1000 / 1048576) ++ [77, 105] := by
  unfold amtL
  rw [if_neg (by omega), if_neg (by omega), if_pos (by omega), Nat.div_div_eq_div_mul]
theorem amtL_ki {n : Nat} (h0 : 0 < n / 1000) (h : n % 1000 = 0) (h1 : ¬ (n / 1000) % 1073741824 = 0) (h2 : ¬ (n / 1000) % 1048576 = 0) (h3 : (n / 1000) % 1024 = 0) : amtL n = Lib.decDigits (n / 1000 / 1024) ++ [75, 105] := by
  unfold amtL
  rw [if_neg (by omega), if_neg (by omega), if_neg (by omega), if_pos (by omega), Nat.div_div_eq_div_mul]
theorem amtL_1 {n : Nat} (h0 : 0 < n / 1000) (h : n % 1000 = 0) (h1 : ¬ (n / 1000) % 1073741824 = 0) (h2 : ¬ (n / 1000) % 1048576 = 0) (h3 : ¬ (n / 1000) % 1024 = 0) : amtL n = Lib.decDigits (n / 1000) := by
  unfold amtL
  rw [if_neg (by omega), if_neg (by omega), if_neg (by omega), if_neg (by omega), if_pos h]
theorem dec_size {m : Nat} (hm : m < 9223372036854775808) : (decB m).size ≤ 21 := by
  show (Lib.decDigits m).length ≤ 21
  have := Lib.itoa_length_le (m : Int) (by omega) (by omega)
  rw [Lib.itoa_nonneg] at this
  exact this
set_option maxRecDepth 100000 in
set_option maxHeartbeats 1600000 in
theorem stext_any (n : Int) (w : World) :
    Calls Tryd.prog 30 #[.int .i64 n] w fun e w' => e = .returned (.string (amtB n)) ∧ Below w.heap.size w w' := by
  have hin := fun wx => l1In_any n 0 1000000000000000 wx
  cases h0 : inB n 0 1000000000000000
  · rw [h0] at hin
    have HR : Hid (amtB n = _) := amtB_out h0
    clear h0
    generalize amtB n = V at *
    go_enter Tryd.func30, Tryd.ntmps30
    go_wp2_with (go_at_call 64; refine (hin _).mono ?_; rintro e w1 ⟨rfl, rfl⟩)
    go_ret
    exact ⟨by rw [HR.out]; rfl, Below.refl _ _⟩
  have hb : 0 ≤ n ∧ n ≤ 1000000000000000 := by unfold inB at h0; rwa [decide_eq_true_eq] at h0
  obtain ⟨m, rfl⟩ : ∃ m : Nat, n = m := ⟨n.toNat, by omega⟩
  rw [h0] at hin
  have Hin := hide hin
  have hm : m ≤ 1000000000000000 := by omega
  rw [amtB_in hm]
  clear hin h0 hb
  by_cases h1 : m % 1000 = 0
  · have hz : (m : Int) % 1000 = 0 := by omega
    by_cases h2 : m / 1000 = 0
    · have hm0 : m = 0 := by omega
      subst hm0
      rw [amtL_0]
      have hd : decB 0 = ⟨[(48 : UInt8)].toArray⟩ := by unfold decB; rw [Lib.decDigits_one (by decide)]; rfl
      rw [← hd]
      have HC : Hid (∀ wx, Calls Tryd.prog 65 #[.int .i64 0] wx fun e w' => e = .returned (.string (decB 0)) ∧ Below wx.heap.size wx w') := fun wx => l3Digits_any 0 wx (by omega)
      generalize decB 0 = U at *
      clear h1 h2 hm hd
      go_enter Tryd.func30, Tryd.ntmps30
      go_wp2_with (go_at_call 64; refine (Hin.out _).mono ?_; rintro e w1 ⟨rfl, rfl⟩)
      have W0 : Hid (∀ o o', Below w1.heap.size w1 ((w1.alloc o).alloc o')) := fun o o' => ((Below.refl _ _).alloc (Nat.le_refl _) _).alloc (by simp) _
      refine wp_loop_rounds 4 ?_
      rw [rounds_succ]; go_wp2_with fail
      refine (HC.out _).mono ?_
      rintro e w2 ⟨rfl, hb⟩
      have T2 := hide ((W0.out _ _).trans (hb.mono (W0.out _ _).size))
      clear hb
      go_wp2
      go_ret
      exact ⟨rfl, T2.out⟩
    have hp : 0 < m / 1000 := by omega
    have hp' : (0 : Int) < (m : Int) / 1000 := by omega
    by_cases h3 : (m / 1000) % 1073741824 = 0
    · rw [amtL_g hp h1 h3, ← dec_app]
      have hc := fun wx => l3Digits_any (m / 1000 / 1073741824) wx (by omega)
      have hs : (decB (m / 1000 / 1073741824)).size ≤ 21 := dec_size (by omega)
      rw [show ((m / 1000 / 1073741824 : Nat) : Int) = IntKind.i64.wrap ((m : Int) / 1000 / 1073741824) by rw [IntKind.wrap_i64]; omega] at hc
      have HC := hide hc
      have g0 : ((m : Int) / 1000 % 1073741824 == 0) = true := by rw [beq_iff_eq]; omega
      generalize decB (m / 1000 / 1073741824) = U at *
      clear hc h1 h2 hp h3
      go_enter Tryd.func30, Tryd.ntmps30
      go_wp2_with (go_at_call 64; refine (Hin.out _).mono ?_; rintro e w1 ⟨rfl, rfl⟩)
      have W0 : Hid (∀ o o', Below w1.heap.size w1 ((w1.alloc o).alloc o')) := fun o o' => ((Below.refl _ _).alloc (Nat.le_refl _) _).alloc (by simp) _
      refine wp_loop_rounds 4 ?_
      rw [rounds_succ]; go_wp2_with fail
      go_region_with (go_at_call 65; refine (HC.out _).mono ?_; rintro e w2 ⟨rfl, hb⟩; have T2 := hide ((Below.drew (W0.out _ _)).trans (hb.mono (Below.drew (W0.out _ _)).size)); (have u0 := (hb.cell (p := ⟨w1.heap.size, 0, none⟩) (by simp <;> omega)).trans (by simp [go_sem] : _ = some (.string ⟨#[71, 105]⟩))); clear hb)
      all_goals
        go_wp2
        go_ret
        exact ⟨rfl, T2.out⟩
    by_cases h4 : (m / 1000) % 1048576 = 0
    · rw [amtL_mi hp h1 h3 h4, ← dec_app]
      have hc := fun wx => l3Digits_any (m / 1000 / 1048576) wx (by omega)
      have hs : (decB (m / 1000 / 1048576)).size ≤ 21 := dec_size (by omega)
      rw [show ((m / 1000 / 1048576 : Nat) : Int) = IntKind.i64.wrap ((m : Int) / 1000 / 1048576) by rw [IntKind.wrap_i64]; omega] at hc
      have HC := hide hc
      have g0 : ((m : Int) / 1000 % 1073741824 == 0) = false := by rw [beq_eq_false_iff_ne]; omega
      have g1 : ((m : Int) / 1000 % 1048576 == 0) = true := by rw [beq_iff_eq]; omega
      generalize decB (m / 1000 / 1048576) = U at *
      clear hc h1 h2 hp h3 h4
      go_enter Tryd.func30, Tryd.ntmps30
      go_wp2_with (go_at_call 64; refine (Hin.out _).mono ?_; rintro e w1 ⟨rfl, rfl⟩)
      have W0 : Hid (∀ o o', Below w1.heap.size w1 ((w1.alloc o).alloc o')) := fun o o' => ((Below.refl _ _).alloc (Nat.le_refl _) _).alloc (by simp) _
      refine wp_loop_rounds 4 ?_
      rw [rounds_succ]; go_wp2_with fail
      rw [rounds_succ]; go_wp2_with fail
      go_region_with (go_at_call 65; refine (HC.out _).mono ?_; rintro e w2 ⟨rfl, hb⟩; have T2 := hide ((Below.drew (W0.out _ _)).trans (hb.mono (Below.drew (W0.out _ _)).size)); (have u1 := (hb.cell (p := ⟨w1.heap.size, 1, none⟩) (by simp <;> omega)).trans (by simp [go_sem] : _ = some (.string ⟨#[77, 105]⟩))); clear hb)
      all_goals
        go_wp2
        go_ret
        exact ⟨rfl, T2.out⟩
    by_cases h5 : (m / 1000) % 1024 = 0
    · rw [amtL_ki hp h1 h3 h4 h5, ← dec_app]
      have hc := fun wx => l3Digits_any (m / 1000 / 1024) wx (by omega)
      have hs : (decB (m / 1000 / 1024)).size ≤ 21 := dec_size (by omega)
      rw [show ((m / 1000 / 1024 : Nat) : Int) = IntKind.i64.wrap ((m : Int) / 1000 / 1024) by rw [IntKind.wrap_i64]; omega] at hc
      have HC := hide hc
      have g0 : ((m : Int) / 1000 % 1073741824 == 0) = false := by rw [beq_eq_false_iff_ne]; omega
      have g1 : ((m : Int) / 1000 % 1048576 == 0) = false := by rw [beq_eq_false_iff_ne]; omega
      have g2 : ((m : Int) / 1000 % 1024 == 0) = true := by rw [beq_iff_eq]; omega
      generalize decB (m / 1000 / 1024) = U at *
      clear hc h1 h2 hp h3 h4 h5
      go_enter Tryd.func30, Tryd.ntmps30
      go_wp2_with (go_at_call 64; refine (Hin.out _).mono ?_; rintro e w1 ⟨rfl, rfl⟩)
      have W0 : Hid (∀ o o', Below w1.heap.size w1 ((w1.alloc o).alloc o')) := fun o o' => ((Below.refl _ _).alloc (Nat.le_refl _) _).alloc (by simp) _
      refine wp_loop_rounds 4 ?_
      rw [rounds_succ]; go_wp2_with fail
      rw [rounds_succ]; go_wp2_with fail
      rw [rounds_succ]; go_wp2_with fail
      go_region_with (go_at_call 65; refine (HC.out _).mono ?_; rintro e w2 ⟨rfl, hb⟩; have T2 := hide ((Below.drew (W0.out _ _)).trans (hb.mono (Below.drew (W0.out _ _)).size)); (have u2 := (hb.cell (p := ⟨w1.heap.size, 2, none⟩) (by simp <;> omega)).trans (by simp [go_sem] : _ = some (.string ⟨#[75, 105]⟩))); clear hb)
      all_goals
        go_wp2
        go_ret
        exact ⟨rfl, T2.out⟩
    · rw [amtL_1 hp h1 h3 h4 h5]
      have hc := fun wx => l3Digits_any (m / 1000) wx (by omega)
      rw [show ((m / 1000 : Nat) : Int) = (m : Int) / 1000 by omega] at hc
      have HC := hide hc
      have g0 : ((m : Int) / 1000 % 1073741824 == 0) = false := by rw [beq_eq_false_iff_ne]; omega
      have g1 : ((m : Int) / 1000 % 1048576 == 0) = false := by rw [beq_eq_false_iff_ne]; omega
      have g2 : ((m : Int) / 1000 % 1024 == 0) = false := by rw [beq_eq_false_iff_ne]; omega
      rw [show (⟨(Lib.decDigits (m / 1000)).toArray⟩ : ByteArray) = decB (m / 1000) from rfl]
      generalize decB (m / 1000) = U at *
      clear hc h1 h2 hp h3 h4 h5
      go_enter Tryd.func30, Tryd.ntmps30
      go_wp2_with (go_at_call 64; refine (Hin.out _).mono ?_; rintro e w1 ⟨rfl, rfl⟩)
      have W0 : Hid (∀ o o', Below w1.heap.size w1 ((w1.alloc o).alloc o')) := fun o o' => ((Below.refl _ _).alloc (Nat.le_refl _) _).alloc (by simp) _
      refine wp_loop_rounds 4 ?_
      rw [rounds_succ]; go_wp2_with fail
      rw [rounds_succ]; go_wp2_with fail
      rw [rounds_succ]; go_wp2_with fail
      rw [rounds_succ]; go_wp2_with fail
      refine (HC.out _).mono ?_
      rintro e w2 ⟨rfl, hb⟩
      have T2 := hide ((W0.out _ _).trans (hb.mono (W0.out _ _).size))
      clear hb
      go_wp2
      go_ret
      exact ⟨rfl, T2.out⟩
  · rw [amtL_m h1, ← dec_app]
    have HC := hide (fun wx => l3Digits_any m wx (by omega))
    have hs : (decB m).size ≤ 21 := dec_size (by omega)
    have hz : ¬ (m : Int) % 1000 = 0 := by omega
    generalize decB m = U at *
    clear h1 hm
    go_enter Tryd.func30, Tryd.ntmps30
    go_wp2_with (first | (go_at_call 64; refine (Hin.out _).mono ?_; rintro e w1 ⟨rfl, rfl⟩) | (go_at_call 65; refine (HC.out _).mono ?_; rintro e w1 ⟨rfl, hb⟩))
    all_goals go_ret
    all_goals exact ⟨rfl, by assumption⟩
end Go.Proofs.YtlbpfcchaobgjaaDoor
