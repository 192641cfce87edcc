import Derived.Test.YtlbpfcchaobgjaaDoorParS
namespace Go.Proofs.YtlbpfcchaobgjaaDoor
open Go.RowKit Go.BigFrame
set_option linter.unusedVariables false
theorem par_stop {s : ByteArray} {k : Nat} (h17 : k ≤ 17) (hk : k ≤ s.size) (hgo : ¬ ∃ h : k < s.size, k < 17 ∧ isD (s[k]'h) = true) : k = s.size ∨ (k = 17 ∧ k < s.size) ∨ (k < 17 ∧ ∃ h : k < s.size, isD (s[k]'h) = false) := by
  by_cases a : k < s.size
  · by_cases b : k < 17
    · right; right
      exact ⟨b, a, by cases h : isD (s[k]'a) with | true => exact absurd ⟨a, b, h⟩ hgo | false => rfl⟩
    · right; left; omega
  · left; omega
theorem par_K {s : ByteArray} {k : Nat} (h17 : k ≤ 17) (hk : k ≤ s.size) (hok : okD s k) (h : k = s.size ∨ (k = 17 ∧ k < s.size) ∨ (k < 17 ∧ ∃ h : k < s.size, isD (s[k]'h) = false)) : amtK s.data.toList = k :=
  amtK_at h17 hk hok (by rcases h with h | h | h; exact .inl h; exact .inr (.inl h.1); exact .inr (.inr h.2))
theorem ok_cases {s : ByteArray} {k : Nat} (h17 : k ≤ 17) (hk : k ≤ s.size) : (k = 0 ∧ amtOkK s.data.toList k = false) ∨ (k = 17 ∧ amtOkK s.data.toList k = false) ∨
    (1 < k ∧ k ≤ 16 ∧ (∃ h0 : 0 < s.size, (((s[0]'h0).toNat : Int) == 48) = true) ∧ amtOkK s.data.toList k = false) ∨ (k = 1 ∧ amtOkK s.data.toList k = true) ∨
    (1 < k ∧ k ≤ 16 ∧ (∃ h0 : 0 < s.size, (((s[0]'h0).toNat : Int) == 48) = false) ∧ amtOkK s.data.toList k = true) := by
  unfold amtOkK
  by_cases h1 : k = 0
  · left; subst h1; exact ⟨rfl, rfl⟩
  by_cases h2 : k = 17
  · right; left; subst h2; exact ⟨rfl, rfl⟩
  by_cases h3 : k = 1
  · right; right; right; left; subst h3; exact ⟨rfl, rfl⟩
  have h0 : 0 < s.size := by omega
  rw [head_get h0, decide_eq_true (show 1 ≤ k ∧ k ≤ 16 by omega), decide_eq_false (show ¬ k ≤ 1 by omega)]
  by_cases h4 : s[0]'h0 = 48
  · right; right; left
    exact ⟨by omega, by omega, ⟨h0, by rw [h4]; rfl⟩, by rw [h4]; rfl⟩
  · right; right; right; right
    refine ⟨by omega, by omega, ⟨h0, ?_⟩, by simpa using h4⟩
    rw [beq_eq_false_iff_ne]
    intro e
    exact h4 (UInt8.toNat_inj.1 (by rw [show (48 : UInt8).toNat = 48 from rfl]; omega))
theorem drop_eq (s : ByteArray) (k : Nat) (hk : k ≤ s.size) (u : ByteArray) : ((s.extract k s.size).toList == u.toList) = decide (s.data.toList.drop k = u.data.toList) := by
  rw [Lib.toList_data, Lib.toList_data, Bool.eq_iff_iff, beq_iff_eq, decide_eq_true_eq]
  have : (s.extract k s.size).data.toList = s.data.toList.drop k := by
    rw [ByteArray.data_extract, Array.toList_extract]
    show List.extract _ _ _ = _
    rw [List.extract_eq_take_drop]
    rw [List.take_of_length_le]
    rw [List.length_drop, len_size]; omega
  rw [this]
set_option maxRecDepth 100000 in
set_option maxHeartbeats 3200000 in
theorem spar_any (s : ByteArray) (w : World) (hs : s.size ≤ 1048576) :
    Calls Tryd.prog 31 #[.string s] w fun e w' => e = .returned (.tuple #[.int .i64 ((amtR s.data.toList).1 : Nat), .bool (amtR s.data.toList).2]) ∧ Below w.heap.size w w' := by
  have Hno : Hid (∀ k, amtK s.data.toList = k → amtOkK s.data.toList k = false → amtR s.data.toList = (0, false)) := fun k h1 h2 => amtR_no (by rw [h1]; exact h2)
  have Hyes : Hid (∀ k, amtK s.data.toList = k → amtOkK s.data.toList k = true → amtLook (s.data.toList.drop k) (valD s k) (amtV.drop 0) = amtR s.data.toList) := fun k h1 h2 => by
    have := amtR_yes (s := s) (by rw [h1]; exact h2)
    rw [h1] at this
    exact this.symm
  generalize amtR s.data.toList = A at *
  go_enter Tryd.func31, Tryd.ntmps31
  go_wp2
  go_loop [4, 5] (fun i n => ∃ k : Nat, k ≤ s.size ∧ k ≤ 17 ∧ i = .int .i64 k ∧ n = .int .i64 (valD s k) ∧ okD s k) (fun i _ => s.size - (intOf i).toNat)
  case atStart => exact ⟨0, Nat.zero_le _, Nat.zero_le _, rfl, rfl, rfl⟩
  case round =>
    obtain ⟨k, hk, h17, rfl, rfl, hok⟩ := hrel
    by_cases hgo : ∃ h : k < s.size, k < 17 ∧ isD (s[k]'h) = true
    · obtain ⟨hlt, hlt17, hd⟩ := hgo
      have hin := fun wx => l1In_any (((s[k]'hlt).toNat : Nat) : Int) 48 57 wx
      rw [inB_dig s k hlt, hd] at hin
      have Hin := hide hin
      have Hs : Hid (okD s (k + 1)) := okD_succ hlt hok hd
      have Hv : Hid (valD s (k + 1) = valD s k * 10 + ((s[k]'hlt).toNat - 48)) := valD_succ hlt
      have hv := valD_lt hok hk
      have hp10 : 10 ^ k ≤ 10 ^ 16 := Nat.pow_le_pow_right (by decide) (by omega)
      have hv0 : valD s k < 10000000000000001 := by omega
      have hc : 48 ≤ (s[k]'hlt).toNat ∧ (s[k]'hlt).toNat ≤ 57 := by unfold isD at hd; rwa [decide_eq_true_eq] at hd
      obtain ⟨hc1, hc2⟩ := hc
      clear hin hok hv hp10 hd Hno Hyes
      generalize valD s k = v at *
      go_wp2_with (go_at_call 64; refine (Hin.out _).mono ?_; rintro e w1 ⟨rfl, rfl⟩)
      go_round
      case rel => exact ⟨k + 1, by omega, by omega, by go_num, by rw [Hv.out]; go_num, Hs.out⟩
      case measure => simp [intOf]; omega
    · have reason := par_stop h17 hk hgo
      have hK : Hid (amtK s.data.toList = k) := par_K h17 hk hok reason
      have hv := valD_lt hok hk
      have hp10 : 10 ^ k ≤ 10 ^ 17 := Nat.pow_le_pow_right (by decide) h17
      have hv0 : valD s k < 100000000000000001 := by omega
      clear hv hp10 hok
      clear hgo
      have oks := ok_cases h17 hk
      have hbits : ∀ (i : Nat) (h : i < s.size), (s[i]'h).toNat < 256 := fun i h => UInt8.toNat_lt _
      rcases reason with r | ⟨r, r'⟩ | ⟨r, r', hd⟩
      · have r1 : ¬ (k : Int) < (s.size : Int) := by omega
        rcases oks with ⟨q, ho⟩ | ⟨q, ho⟩ | ⟨q1, q2, ⟨h0, q3⟩, ho⟩ | ⟨q, ho⟩ | ⟨q1, q2, ⟨h0, q3⟩, ho⟩
        · have e0 : ((k : Int) == 0) = true := by rw [beq_iff_eq]; omega
          (try have Rr := hide r); (try have Qq := hide q); (try clear r); (try clear q)
          have HA := hide (Hno.out k hK.out ho)
          clear hK Hno Hyes ho
          go_wp2
          go_ret2
          exact ⟨by rw [HA.out]; rfl, ((Below.refl _ _).alloc (Nat.le_refl _) _).alloc (by simp) _⟩
        · have e0 : ((k : Int) == 0) = false := by rw [beq_eq_false_iff_ne]; omega
          have e1 : (16 : Int) < (k : Int) := by omega
          (try have Rr := hide r); (try have Qq := hide q); (try clear r); (try clear q)
          have HA := hide (Hno.out k hK.out ho)
          clear hK Hno Hyes ho
          go_wp2
          go_ret2
          exact ⟨by rw [HA.out]; rfl, ((Below.refl _ _).alloc (Nat.le_refl _) _).alloc (by simp) _⟩
        · have e0 : ((k : Int) == 0) = false := by rw [beq_eq_false_iff_ne]; omega
          have e1 : ¬ (16 : Int) < (k : Int) := by omega
          have e2 : (1 : Int) < (k : Int) := by omega
          (try have Rr := hide r); (try have Qq := hide q); (try clear r); (try clear q)
          have HA := hide (Hno.out k hK.out ho)
          clear hK Hno Hyes ho
          go_wp2
          go_ret2
          exact ⟨by rw [HA.out]; rfl, ((Below.refl _ _).alloc (Nat.le_refl _) _).alloc (by simp) _⟩
        · have e0 : ((k : Int) == 0) = false := by rw [beq_eq_false_iff_ne]; omega
          have e1 : ¬ (16 : Int) < (k : Int) := by omega
          have e2 : ¬ (1 : Int) < (k : Int) := by omega
          (try have Rr := hide r); (try have Qq := hide q); (try clear r); (try clear q)
          have HL := hide (Hyes.out k hK.out ho)
          have hde := drop_eq s k hk
          have hsl : k ≤ s.size := hk
          clear hK Hno Hyes ho
          generalize s.data.toList.drop k = R at *
          generalize valD s k = v at *
          go_wp2
          go_loopw [8] (fun i wr => ∃ j : Nat, j ≤ 8 ∧ i = .int .i64 j ∧ Below w.heap.size w wr ∧ Hid (∀ q, q < 8 → wr.cell? ⟨w.heap.size, q, none⟩ = some (.string (nmV q)) ∧ wr.cell? ⟨w.heap.size + 1, q, none⟩ = some (.int .i64 (szV q))) ∧ Hid (amtLook R v (amtV.drop j) = A)) (fun i _ => 8 - (intOf i).toNat)
          case atStart => exact ⟨0, Nat.zero_le _, rfl, ((Below.refl _ _).alloc (Nat.le_refl _) _).alloc (by simp) _, (fun q hq => by rcases eight hq with rfl | rfl | rfl | rfl | rfl | rfl | rfl | rfl <;> exact ⟨by simp [go_sem]; rfl, by simp [go_sem]; rfl⟩), HL⟩
          case round =>
            clear HL
            obtain ⟨j, hj, rfl, hbw, Hcl, HL⟩ := hrel
            by_cases hlt : j < 8
            · obtain ⟨c0, c1⟩ := Hcl.out j hlt
              have hst := look_step R v j hlt
              have hsz := szV_bd j hlt
              have hq := hde (nmV j)
              rw [HL.out] at hst
              clear HL hde
              by_cases hm : R = (nmV j).data.toList
              · rw [if_pos hm] at hst
                rw [decide_eq_true hm] at hq
                have HA := hide hst
                have hz0 : (0 : Int) < (szV j : Int) := by omega
                clear hst hm Hcl
                generalize nmV j = u at *
                generalize szV j = z at *
                by_cases hbig : v > 1000000000000000 / z
                · have HB : Hid (amtIn v z = (0, false)) := by show _ = _; unfold amtIn; rw [if_pos hbig]
                  have g1 : (1000000000000000 : Int) / (z : Int) < (v : Int) := by
                    have : ((1000000000000000 / z : Nat) : Int) = (1000000000000000 : Int) / (z : Int) := Int.natCast_ediv _ _
                    omega
                  clear hbig
                  go_wp2
                  go_quiet (fail)
                  go_wp2
                  go_ret2
                  exact ⟨by rw [HA.out, HB.out]; rfl, by repeat (first | with_reducible exact hbw | with_reducible refine Below.drew ?_ | with_reducible refine below_drewN ?_ _)⟩
                · have HB : Hid (amtIn v z = (v * z, true)) := by show _ = _; unfold amtIn; rw [if_neg hbig]
                  have g1 : ¬ (1000000000000000 : Int) / (z : Int) < (v : Int) := by
                    have : ((1000000000000000 / z : Nat) : Int) = (1000000000000000 : Int) / (z : Int) := Int.natCast_ediv _ _
                    omega
                  have h2 : v * z ≤ 1000000000000000 := (Nat.le_div_iff_mul_le hsz.1).1 (by omega)
                  have h3 : wrap64 ((v : Int) * (z : Int)) = ((v * z : Nat) : Int) := by
                    simp only [wrap64]
                    have : ((v * z : Nat) : Int) = (v : Int) * (z : Int) := Int.natCast_mul _ _
                    omega
                  clear hbig h2
                  go_wp2
                  go_quiet (fail)
                  go_wp2
                  go_ret2
                  exact ⟨by rw [HA.out, HB.out]; first | rfl | (rw [← h3]; rfl), by repeat (first | with_reducible exact hbw | with_reducible refine Below.drew ?_ | with_reducible refine below_drewN ?_ _)⟩
              · rw [if_neg hm] at hst
                rw [decide_eq_false hm] at hq
                have HN := hide hst.symm
                clear hst hm
                generalize nmV j = u at *
                go_wp2
                go_quiet (fail)
                go_wp2
                go_roundw
                case rel => exact ⟨j + 1, by omega, by go_num, (by repeat (first | with_reducible exact hbw | with_reducible refine Below.drew ?_ | with_reducible refine below_drewN ?_ _)), Hcl, HN⟩
                case measure => simp [intOf]; omega
            · have e : j = 8 := by omega
              subst e
              have HA : Hid ((0, false) = A) := HL.out
              clear HL hde Hcl
              go_wp2
              go_ret2
              exact ⟨by rw [← HA.out]; rfl, hbw⟩
        · have e0 : ((k : Int) == 0) = false := by rw [beq_eq_false_iff_ne]; omega
          have e1 : ¬ (16 : Int) < (k : Int) := by omega
          have e2 : (1 : Int) < (k : Int) := by omega
          (try have Rr := hide r); (try have Qq := hide q); (try clear r); (try clear q)
          have HL := hide (Hyes.out k hK.out ho)
          have hde := drop_eq s k hk
          have hsl : k ≤ s.size := hk
          clear hK Hno Hyes ho
          generalize s.data.toList.drop k = R at *
          generalize valD s k = v at *
          go_wp2
          go_loopw [8] (fun i wr => ∃ j : Nat, j ≤ 8 ∧ i = .int .i64 j ∧ Below w.heap.size w wr ∧ Hid (∀ q, q < 8 → wr.cell? ⟨w.heap.size, q, none⟩ = some (.string (nmV q)) ∧ wr.cell? ⟨w.heap.size + 1, q, none⟩ = some (.int .i64 (szV q))) ∧ Hid (amtLook R v (amtV.drop j) = A)) (fun i _ => 8 - (intOf i).toNat)
          case atStart => exact ⟨0, Nat.zero_le _, rfl, ((Below.refl _ _).alloc (Nat.le_refl _) _).alloc (by simp) _, (fun q hq => by rcases eight hq with rfl | rfl | rfl | rfl | rfl | rfl | rfl | rfl <;> exact ⟨by simp [go_sem]; rfl, by simp [go_sem]; rfl⟩), HL⟩
          case round =>
            clear HL
            obtain ⟨j, hj, rfl, hbw, Hcl, HL⟩ := hrel
            by_cases hlt : j < 8
            · obtain ⟨c0, c1⟩ := Hcl.out j hlt
              have hst := look_step R v j hlt
              have hsz := szV_bd j hlt
              have hq := hde (nmV j)
              rw [HL.out] at hst
              clear HL hde
              by_cases hm : R = (nmV j).data.toList
              · rw [if_pos hm] at hst
                rw [decide_eq_true hm] at hq
                have HA := hide hst
                have hz0 : (0 : Int) < (szV j : Int) := by omega
                clear hst hm Hcl
                generalize nmV j = u at *
                generalize szV j = z at *
                by_cases hbig : v > 1000000000000000 / z
                · have HB : Hid (amtIn v z = (0, false)) := by show _ = _; unfold amtIn; rw [if_pos hbig]
                  have g1 : (1000000000000000 : Int) / (z : Int) < (v : Int) := by
                    have : ((1000000000000000 / z : Nat) : Int) = (1000000000000000 : Int) / (z : Int) := Int.natCast_ediv _ _
                    omega
                  clear hbig
                  go_wp2
                  go_quiet (fail)
                  go_wp2
                  go_ret2
                  exact ⟨by rw [HA.out, HB.out]; rfl, by repeat (first | with_reducible exact hbw | with_reducible refine Below.drew ?_ | with_reducible refine below_drewN ?_ _)⟩
                · have HB : Hid (amtIn v z = (v * z, true)) := by show _ = _; unfold amtIn; rw [if_neg hbig]
                  have g1 : ¬ (1000000000000000 : Int) / (z : Int) < (v : Int) := by
                    have : ((1000000000000000 / z : Nat) : Int) = (1000000000000000 : Int) / (z : Int) := Int.natCast_ediv _ _
                    omega
                  have h2 : v * z ≤ 1000000000000000 := (Nat.le_div_iff_mul_le hsz.1).1 (by omega)
                  have h3 : wrap64 ((v : Int) * (z : Int)) = ((v * z : Nat) : Int) := by
                    simp only [wrap64]
                    have : ((v * z : Nat) : Int) = (v : Int) * (z : Int) := Int.natCast_mul _ _
                    omega
                  clear hbig h2
                  go_wp2
                  go_quiet (fail)
                  go_wp2
                  go_ret2
                  exact ⟨by rw [HA.out, HB.out]; first | rfl | (rw [← h3]; rfl), by repeat (first | with_reducible exact hbw | with_reducible refine Below.drew ?_ | with_reducible refine below_drewN ?_ _)⟩
              · rw [if_neg hm] at hst
                rw [decide_eq_false hm] at hq
                have HN := hide hst.symm
                clear hst hm
                generalize nmV j = u at *
                go_wp2
                go_quiet (fail)
                go_wp2
                go_roundw
                case rel => exact ⟨j + 1, by omega, by go_num, (by repeat (first | with_reducible exact hbw | with_reducible refine Below.drew ?_ | with_reducible refine below_drewN ?_ _)), Hcl, HN⟩
                case measure => simp [intOf]; omega
            · have e : j = 8 := by omega
              subst e
              have HA : Hid ((0, false) = A) := HL.out
              clear HL hde Hcl
              go_wp2
              go_ret2
              exact ⟨by rw [← HA.out]; rfl, hbw⟩
      · have r1 : (k : Int) < (s.size : Int) := by omega
        have r2 : ¬ (k : Int) < 17 := by omega
        rcases oks with ⟨q, ho⟩ | ⟨q, ho⟩ | ⟨q1, q2, ⟨h0, q3⟩, ho⟩ | ⟨q, ho⟩ | ⟨q1, q2, ⟨h0, q3⟩, ho⟩
        · exfalso; omega
        · have e0 : ((k : Int) == 0) = false := by rw [beq_eq_false_iff_ne]; omega
          have e1 : (16 : Int) < (k : Int) := by omega
          (try have Rr := hide r); (try have Qq := hide q); (try clear r); (try clear q)
          have HA := hide (Hno.out k hK.out ho)
          clear hK Hno Hyes ho
          go_wp2
          go_ret2
          exact ⟨by rw [HA.out]; rfl, ((Below.refl _ _).alloc (Nat.le_refl _) _).alloc (by simp) _⟩
        · exfalso; omega
        · exfalso; omega
        · exfalso; omega
      · have r1 : (k : Int) < (s.size : Int) := by omega
        have r2 : (k : Int) < 17 := by omega
        have hin := fun wx => l1In_any (((s[k]'r').toNat : Nat) : Int) 48 57 wx
        rw [inB_dig s k r', hd] at hin
        have Hin := hide hin
        have hbd : (s[k]'r').toNat < 256 := UInt8.toNat_lt _
        clear hin hd
        rcases oks with ⟨q, ho⟩ | ⟨q, ho⟩ | ⟨q1, q2, ⟨h0, q3⟩, ho⟩ | ⟨q, ho⟩ | ⟨q1, q2, ⟨h0, q3⟩, ho⟩
        · have e0 : ((k : Int) == 0) = true := by rw [beq_iff_eq]; omega
          (try have Rr := hide r); (try have Qq := hide q); (try clear r); (try clear q)
          have HA := hide (Hno.out k hK.out ho)
          clear hK Hno Hyes ho
          go_wp2_with (go_at_call 64; refine (Hin.out _).mono ?_; rintro e w ⟨rfl, rfl⟩)
          go_ret2
          exact ⟨by rw [HA.out]; rfl, ((Below.refl _ _).alloc (Nat.le_refl _) _).alloc (by simp) _⟩
        · exfalso; omega
        · have e0 : ((k : Int) == 0) = false := by rw [beq_eq_false_iff_ne]; omega
          have e1 : ¬ (16 : Int) < (k : Int) := by omega
          have e2 : (1 : Int) < (k : Int) := by omega
          (try have Rr := hide r); (try have Qq := hide q); (try clear r); (try clear q)
          have HA := hide (Hno.out k hK.out ho)
          clear hK Hno Hyes ho
          go_wp2_with (go_at_call 64; refine (Hin.out _).mono ?_; rintro e w ⟨rfl, rfl⟩)
          go_ret2
          exact ⟨by rw [HA.out]; rfl, ((Below.refl _ _).alloc (Nat.le_refl _) _).alloc (by simp) _⟩
        · have e0 : ((k : Int) == 0) = false := by rw [beq_eq_false_iff_ne]; omega
          have e1 : ¬ (16 : Int) < (k : Int) := by omega
          have e2 : ¬ (1 : Int) < (k : Int) := by omega
          (try have Rr := hide r); (try have Qq := hide q); (try clear r); (try clear q)
          have HL := hide (Hyes.out k hK.out ho)
          have hde := drop_eq s k hk
          have hsl : k ≤ s.size := hk
          clear hK Hno Hyes ho
          generalize s.data.toList.drop k = R at *
          generalize valD s k = v at *
          go_wp2_with (go_at_call 64; refine (Hin.out _).mono ?_; rintro e w ⟨rfl, rfl⟩)
          go_loopw [8] (fun i wr => ∃ j : Nat, j ≤ 8 ∧ i = .int .i64 j ∧ Below w.heap.size w wr ∧ Hid (∀ q, q < 8 → wr.cell? ⟨w.heap.size, q, none⟩ = some (.string (nmV q)) ∧ wr.cell? ⟨w.heap.size + 1, q, none⟩ = some (.int .i64 (szV q))) ∧ Hid (amtLook R v (amtV.drop j) = A)) (fun i _ => 8 - (intOf i).toNat)
          case atStart => exact ⟨0, Nat.zero_le _, rfl, ((Below.refl _ _).alloc (Nat.le_refl _) _).alloc (by simp) _, (fun q hq => by rcases eight hq with rfl | rfl | rfl | rfl | rfl | rfl | rfl | rfl <;> exact ⟨by simp [go_sem]; rfl, by simp [go_sem]; rfl⟩), HL⟩
          case round =>
            clear HL
            obtain ⟨j, hj, rfl, hbw, Hcl, HL⟩ := hrel
            by_cases hlt : j < 8
            · obtain ⟨c0, c1⟩ := Hcl.out j hlt
              have hst := look_step R v j hlt
              have hsz := szV_bd j hlt
              have hq := hde (nmV j)
              rw [HL.out] at hst
              clear HL hde
              by_cases hm : R = (nmV j).data.toList
              · rw [if_pos hm] at hst
                rw [decide_eq_true hm] at hq
                have HA := hide hst
                have hz0 : (0 : Int) < (szV j : Int) := by omega
                clear hst hm Hcl
                generalize nmV j = u at *
                generalize szV j = z at *
                by_cases hbig : v > 1000000000000000 / z
                · have HB : Hid (amtIn v z = (0, false)) := by show _ = _; unfold amtIn; rw [if_pos hbig]
                  have g1 : (1000000000000000 : Int) / (z : Int) < (v : Int) := by
                    have : ((1000000000000000 / z : Nat) : Int) = (1000000000000000 : Int) / (z : Int) := Int.natCast_ediv _ _
                    omega
                  clear hbig
                  go_wp2
                  go_quiet (fail)
                  go_wp2
                  go_ret2
                  exact ⟨by rw [HA.out, HB.out]; rfl, by repeat (first | with_reducible exact hbw | with_reducible refine Below.drew ?_ | with_reducible refine below_drewN ?_ _)⟩
                · have HB : Hid (amtIn v z = (v * z, true)) := by show _ = _; unfold amtIn; rw [if_neg hbig]
                  have g1 : ¬ (1000000000000000 : Int) / (z : Int) < (v : Int) := by
                    have : ((1000000000000000 / z : Nat) : Int) = (1000000000000000 : Int) / (z : Int) := Int.natCast_ediv _ _
                    omega
                  have h2 : v * z ≤ 1000000000000000 := (Nat.le_div_iff_mul_le hsz.1).1 (by omega)
                  have h3 : wrap64 ((v : Int) * (z : Int)) = ((v * z : Nat) : Int) := by
                    simp only [wrap64]
                    have : ((v * z : Nat) : Int) = (v : Int) * (z : Int) := Int.natCast_mul _ _
                    omega
                  clear hbig h2
                  go_wp2
                  go_quiet (fail)
                  go_wp2
                  go_ret2
                  exact ⟨by rw [HA.out, HB.out]; first | rfl | (rw [← h3]; rfl), by repeat (first | with_reducible exact hbw | with_reducible refine Below.drew ?_ | with_reducible refine below_drewN ?_ _)⟩
              · rw [if_neg hm] at hst
                rw [decide_eq_false hm] at hq
                have HN := hide hst.symm
                clear hst hm
                generalize nmV j = u at *
                go_wp2
                go_quiet (fail)
                go_wp2
                go_roundw
                case rel => exact ⟨j + 1, by omega, by go_num, (by repeat (first | with_reducible exact hbw | with_reducible refine Below.drew ?_ | with_reducible refine below_drewN ?_ _)), Hcl, HN⟩
                case measure => simp [intOf]; omega
            · have e : j = 8 := by omega
              subst e
              have HA : Hid ((0, false) = A) := HL.out
              clear HL hde Hcl
              go_wp2
              go_ret2
              exact ⟨by rw [← HA.out]; rfl, hbw⟩
        · have e0 : ((k : Int) == 0) = false := by rw [beq_eq_false_iff_ne]; omega
          have e1 : ¬ (16 : Int) < (k : Int) := by omega
          have e2 : (1 : Int) < (k : Int) := by omega
          (try have Rr := hide r); (try have Qq := hide q); (try clear r); (try clear q)
          have HL := hide (Hyes.out k hK.out ho)
          have hde := drop_eq s k hk
          have hsl : k ≤ s.size := hk
          clear hK Hno Hyes ho
          generalize s.data.toList.drop k = R at *
          generalize valD s k = v at *
          go_wp2_with (go_at_call 64; refine (Hin.out _).mono ?_; rintro e w ⟨rfl, rfl⟩)
          go_loopw [8] (fun i wr => ∃ j : Nat, j ≤ 8 ∧ i = .int .i64 j ∧ Below w.heap.size w wr ∧ Hid (∀ q, q < 8 → wr.cell? ⟨w.heap.size, q, none⟩ = some (.string (nmV q)) ∧ wr.cell? ⟨w.heap.size + 1, q, none⟩ = some (.int .i64 (szV q))) ∧ Hid (amtLook R v (amtV.drop j) = A)) (fun i _ => 8 - (intOf i).toNat)
          case atStart => exact ⟨0, Nat.zero_le _, rfl, ((Below.refl _ _).alloc (Nat.le_refl _) _).alloc (by simp) _, (fun q hq => by rcases eight hq with rfl | rfl | rfl | rfl | rfl | rfl | rfl | rfl <;> exact ⟨by simp [go_sem]; rfl, by simp [go_sem]; rfl⟩), HL⟩
          case round =>
            clear HL
            obtain ⟨j, hj, rfl, hbw, Hcl, HL⟩ := hrel
            by_cases hlt : j < 8
            · obtain ⟨c0, c1⟩ := Hcl.out j hlt
              have hst := look_step R v j hlt
              have hsz := szV_bd j hlt
              have hq := hde (nmV j)
              rw [HL.out] at hst
              clear HL hde
              by_cases hm : R = (nmV j).data.toList
              · rw [if_pos hm] at hst
                rw [decide_eq_true hm] at hq
                have HA := hide hst
                have hz0 : (0 : Int) < (szV j : Int) := by omega
                clear hst hm Hcl
                generalize nmV j = u at *
                generalize szV j = z at *
                by_cases hbig : v > 1000000000000000 / z
                · have HB : Hid (amtIn v z = (0, false)) := by show _ = _; unfold amtIn; rw [if_pos hbig]
                  have g1 : (1000000000000000 : Int) / (z : Int) < (v : Int) := by
                    have : ((1000000000000000 / z : Nat) : Int) = (1000000000000000 : Int) / (z : Int) := Int.natCast_ediv _ _
                    omega
                  clear hbig
                  go_wp2
                  go_quiet (fail)
                  go_wp2
                  go_ret2
                  exact ⟨by rw [HA.out, HB.out]; rfl, by repeat (first | with_reducible exact hbw | with_reducible refine Below.drew ?_ | with_reducible refine below_drewN ?_ _)⟩
                · have HB : Hid (amtIn v z = (v * z, true)) := by show _ = _; unfold amtIn; rw [if_neg hbig]
                  have g1 : ¬ (1000000000000000 : Int) / (z : Int) < (v : Int) := by
                    have : ((1000000000000000 / z : Nat) : Int) = (1000000000000000 : Int) / (z : Int) := Int.natCast_ediv _ _
                    omega
                  have h2 : v * z ≤ 1000000000000000 := (Nat.le_div_iff_mul_le hsz.1).1 (by omega)
                  have h3 : wrap64 ((v : Int) * (z : Int)) = ((v * z : Nat) : Int) := by
                    simp only [wrap64]
                    have : ((v * z : Nat) : Int) = (v : Int) * (z : Int) := Int.natCast_mul _ _
                    omega
                  clear hbig h2
                  go_wp2
                  go_quiet (fail)
                  go_wp2
                  go_ret2
                  exact ⟨by rw [HA.out, HB.out]; first | rfl | (rw [← h3]; rfl), by repeat (first | with_reducible exact hbw | with_reducible refine Below.drew ?_ | with_reducible refine below_drewN ?_ _)⟩
              · rw [if_neg hm] at hst
                rw [decide_eq_false hm] at hq
                have HN := hide hst.symm
                clear hst hm
                generalize nmV j = u at *
                go_wp2
                go_quiet (fail)
                go_wp2
                go_roundw
                case rel => exact ⟨j + 1, by omega, by go_num, (by repeat (first | with_reducible exact hbw | with_reducible refine Below.drew ?_ | with_reducible refine below_drewN ?_ _)), Hcl, HN⟩
                case measure => simp [intOf]; omega
            · have e : j = 8 := by omega
              subst e
              have HA : Hid ((0, false) = A) := HL.out
              clear HL hde Hcl
              go_wp2
              go_ret2
              exact ⟨by rw [← HA.out]; rfl, hbw⟩
end Go.Proofs.YtlbpfcchaobgjaaDoor
