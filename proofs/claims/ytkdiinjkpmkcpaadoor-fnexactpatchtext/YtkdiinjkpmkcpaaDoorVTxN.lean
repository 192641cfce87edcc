/- The texts of values, by the spec: numbers. -/
import Derived.Test.YtkdiinjkpmkcpaaDoorVTxS
import Derived.Lib.ItoaMem
namespace Go.Proofs.YtkdiinjkpmkcpaaDoor
open Go.RowKit Go.BigFrame
set_option linter.unusedVariables false

theorem vconv_one (w : World) (x : Int) : (convert 65 9 (.slice (some ⟨w.heap.size, 0, none⟩) 1 1)).run Tryd.prog (w.alloc (.cells #[.int .u8 x] 5)) =
    .ok (.string ([x].foldl (fun r n => r.push (UInt8.ofNat n.toNat)) ByteArray.empty)) (w.alloc (.cells #[.int .u8 x] 5)) := by
  rw [run_convert_bytes_string _ _ _ _ _ _ _ Tryd.underlying65 Tryd.underlying5 Tryd.underlying9, run_bytesToString _ _ 1 1 [x]]
  simp [loadCells, go_sem]
theorem bs_nil (a : ByteArray) : ⟨#[]⟩ ++ a = a := bs_ext' (by rw [bs_app]; simp)
def vdecB (m : Nat) : ByteArray := ⟨(Lib.decDigits m).toArray⟩
def digB (d : Nat) : ByteArray := ByteArray.empty.push (48 + UInt8.ofNat d)
theorem digB_is (d : Nat) : digB d = ⟨#[UInt8.ofNat (48 + d)]⟩ := by
  have h : UInt8.ofNat (48 + d) = 48 + UInt8.ofNat d := UInt8.ofNat_add 48 d
  rw [h]; rfl
theorem vdec_step {x : Nat} (h : ¬ x < 10) (D : ByteArray) : vdecB (x / 10) ++ (digB (x % 10) ++ D) = vdecB x ++ D := by
  rw [digB_is, ← bs_assoc]
  congr 1
  apply bs_ext'
  rw [bs_app]
  unfold vdecB
  conv => rhs; rw [Lib.decDigits, dif_neg h]
theorem vdec_last {x : Nat} (h : x < 10) : digB x = vdecB x := by
  rw [digB_is]; unfold vdecB; rw [Lib.decDigits_one h]
theorem vdec_size {m : Nat} (hm : m ≤ 9223372036854775808) : (vdecB m).size ≤ 21 := by
  show (Lib.decDigits m).toArray.size ≤ 21
  have := Lib.itoa_length_le (-(m : Int)) (by omega) (by omega)
  by_cases h : 1 ≤ m
  · rw [Lib.itoa_neg m h] at this; simp at this ⊢; omega
  · have : m = 0 := by omega
    subst this; rw [Lib.decDigits_one (by omega)]; decide
set_option maxRecDepth 100000 in
set_option maxHeartbeats 1600000 in
theorem l4Int_any (n : Int) (w : World) (h0 : -9223372036854775808 ≤ n) (h1 : n ≤ 9223372036854775807) : Calls Tryd.prog 23 #[.int .i64 n] w fun e w' => e = .returned (.string (numB n)) ∧ Below w.heap.size w w' := by
  have hcv := vconv_one
  by_cases hn : n < 0
  · obtain ⟨M, hM⟩ : ∃ M : Nat, n = -(M : Int) := ⟨n.natAbs, by omega⟩
    subst hM
    have hM1 : M ≤ 9223372036854775808 := by omega
    have hM0 : 1 ≤ M := by omega
    have hN : Hid (numB (-(M : Int)) = ⟨#[45]⟩ ++ vdecB M) := by
      show _ = _
      unfold numB; rw [Lib.itoa_neg M hM0]
      apply bs_ext'; rw [bs_app]; rfl
    have hsz := vdec_size hM1
    go_enter Tryd.func23, Tryd.ntmps23
    go_wp2
    go_loopw [3, 5] (fun x d wr => ∃ (X : Nat) (D : ByteArray), x = .int .u64 X ∧ d = .string D ∧ X ≤ M ∧ D.size ≤ 21 ∧ Hid (vdecB X ++ D = vdecB M) ∧ Below w.heap.size w wr) (fun x _ _ => (intOf x).toNat)
    case atStart => exact ⟨M, ⟨#[]⟩, by congr 1; omega, rfl, Nat.le_refl _, by decide, bs_none _, Below.refl _ _⟩
    case round =>
      obtain ⟨X, D, rfl, rfl, hX, hD, HD, hbw⟩ := hrel
      by_cases h10 : 10 ≤ X
      · have HN : Hid (vdecB (X / 10) ++ (digB (X % 10) ++ D) = vdecB M) := by show _ = _; rw [vdec_step (by omega)]; exact HD.out
        have hD2 : (digB (X % 10) ++ D).size ≤ 21 := by
          have h := congrArg ByteArray.size HN.out
          rw [ByteArray.size_append] at h
          omega
        have HD2 := hide hD2
        clear hD2 hsz
        go_wp2
        go_roundw
        case rel => exact ⟨X / 10, digB (X % 10) ++ D, by congr 1, rfl, by omega, HD2.out, HN, hbw.alloc hbw.size _⟩
        case measure => simp [intOf]; omega
      · have HN : Hid (((⟨#[45]⟩ : ByteArray) ++ digB X) ++ D = numB (-(M : Int))) := by
          show _ = _
          rw [hN.out, vdec_last (by omega), bs_assoc, HD.out]
        clear hsz hN
        go_wp2
        go_ret
        exact ⟨ret_str (by rw [← HN.out]; rfl), hbw.alloc hbw.size _⟩
  · obtain ⟨M, hM⟩ : ∃ M : Nat, n = (M : Int) := ⟨n.natAbs, by omega⟩
    subst hM
    have hM1 : M ≤ 9223372036854775808 := by omega
    have hM2 : M ≤ 9223372036854775807 := by omega
    have hN : Hid (numB (M : Int) = vdecB M) := by
      show _ = _
      unfold numB; rw [Lib.itoa_nonneg]; rfl
    have hsz := vdec_size hM1
    go_enter Tryd.func23, Tryd.ntmps23
    go_wp2
    go_loopw [3, 5] (fun x d wr => ∃ (X : Nat) (D : ByteArray), x = .int .u64 X ∧ d = .string D ∧ X ≤ M ∧ D.size ≤ 21 ∧ Hid (vdecB X ++ D = vdecB M) ∧ Below w.heap.size w wr) (fun x _ _ => (intOf x).toNat)
    case atStart => exact ⟨M, ⟨#[]⟩, rfl, rfl, Nat.le_refl _, by decide, bs_none _, Below.refl _ _⟩
    case round =>
      obtain ⟨X, D, rfl, rfl, hX, hD, HD, hbw⟩ := hrel
      by_cases h10 : 10 ≤ X
      · have HN : Hid (vdecB (X / 10) ++ (digB (X % 10) ++ D) = vdecB M) := by show _ = _; rw [vdec_step (by omega)]; exact HD.out
        have hD2 : (digB (X % 10) ++ D).size ≤ 21 := by
          have h := congrArg ByteArray.size HN.out
          rw [ByteArray.size_append] at h
          omega
        have HD2 := hide hD2
        clear hD2 hsz
        go_wp2
        go_roundw
        case rel => exact ⟨X / 10, digB (X % 10) ++ D, by congr 1, rfl, by omega, HD2.out, HN, hbw.alloc hbw.size _⟩
        case measure => simp [intOf]; omega
      · have HN : Hid ((⟨#[]⟩ ++ digB X) ++ D = numB (M : Int)) := by
          show _ = _
          rw [hN.out, vdec_last (by omega), bs_nil, HD.out]
        clear hsz hN
        go_wp2
        go_ret
        exact ⟨ret_str (by rw [← HN.out]; try rfl), hbw.alloc hbw.size _⟩
end Go.Proofs.YtkdiinjkpmkcpaaDoor
