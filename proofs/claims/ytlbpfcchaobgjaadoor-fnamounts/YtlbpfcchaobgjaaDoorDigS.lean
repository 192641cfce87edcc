import Derived.Test.YtlbpfcchaobgjaaDoorAmt
import Derived.Handy
import Derived.LoopN
import Derived.Deep.RegionWith
import Derived.Lib.ItoaMem
import Derived.Lib.ItoaLen
namespace Go.Proofs.YtlbpfcchaobgjaaDoor
open Go.RowKit Go.BigFrame
set_option linter.unusedVariables false
theorem conv_at (w : World) (b : Nat) (c : UInt8) (h : w.cell? ⟨b, 0, none⟩ = some (.int .u8 c.toNat)) : (convert 22 9 (.slice (some ⟨b, 0, none⟩) 1 1)).run Tryd.prog w = .ok (.string ⟨#[c]⟩) w :=
  run_convert_bytes_back (P := Tryd.prog) w 22 9 5 ⟨b, 0, none⟩ 1 [c] Tryd.underlying22 Tryd.underlying5 Tryd.underlying9 (fun j hj => by
    have : j = 0 := by simpa using hj
    subst this
    exact h)
def digC (d : Nat) : UInt8 := UInt8.ofNat (48 + d)
theorem digC_nat {d : Nat} (hd : d < 10) : ((digC d).toNat : Int) = 48 + (d : Int) := by
  have : (digC d).toNat = 48 + d := by unfold digC; rw [UInt8.toNat_ofNat']; omega
  rw [this]; norm_cast
theorem conv_dig {x : Int} (d : Nat) (hd : d < 10) (hx : x = 48 + (d : Int)) : ∀ (wx : World) (b : Nat), wx.cell? ⟨b, 0, none⟩ = some (.int .u8 x) → (convert 22 9 (.slice (some ⟨b, 0, none⟩) 1 1)).run Tryd.prog wx = .ok (.string ⟨#[digC d]⟩) wx := fun wx b h => by
  refine conv_at wx b _ ?_
  rw [digC_nat hd, h, hx]
theorem dig_q (m : Nat) (hm : m < 9223372036854775808) : IntKind.i64.wrap ((m : Int) / 10) = ((m / 10 : Nat) : Int) := by
  rw [IntKind.wrap_i64]; omega
theorem dig_r (m : Nat) : IntKind.u8.wrap (IntKind.i64.wrap (48 + (m : Int).tmod 10)) = 48 + ((m % 10 : Nat) : Int) := by
  rw [Int.tmod_eq_emod_of_nonneg (by omega), IntKind.wrap_i64, IntKind.wrap_u8]; omega
theorem cell_drewAlloc {w w1 : World} {x : Value} {t : TypeId} (hb : Below (w.alloc (.cells #[x] t)).drew.heap.size (w.alloc (.cells #[x] t)).drew w1) : w1.cell? ⟨w.heap.size, 0, none⟩ = some x := (hb.cell (p := ⟨w.heap.size, 0, none⟩) (by simp)).trans (by simp [go_sem])
theorem below_drewAlloc {w w1 : World} {o : Obj} (hb : Below (w.alloc o).drew.heap.size (w.alloc o).drew w1) : Below w.heap.size w w1 := (Below.drew ((Below.refl _ _).alloc (Nat.le_refl _) o)).trans (hb.mono (by simp))
theorem below_drew1 {w w1 : World} (hb : Below w.drew.heap.size w.drew w1) : Below w.heap.size w w1 := (Below.drew (Below.refl _ _)).trans hb
def decB (m : Nat) : ByteArray := ⟨(Lib.decDigits m).toArray⟩
set_option maxRecDepth 100000 in
set_option maxHeartbeats 1600000 in
theorem l3Digits_any : ∀ (m : Nat) (w : World), m < 9223372036854775808 →
    Calls Tryd.prog 65 #[.int .i64 m] w fun e w' => e = .returned (.string (decB m)) ∧ Below w.heap.size w w' := by
  intro m
  induction m using Nat.strongRecOn with
  | _ m ih =>
  intro w hm
  go_enter Tryd.func65, Tryd.ntmps65
  by_cases h : m < 10
  · have h0 : ¬ (m : Int) < 0 := by omega
    have h1 : (m : Int) < 10 := by omega
    have hc := conv_dig m h rfl
    have HR : Hid (decB m = ⟨#[digC m]⟩) := by show _ = _; unfold decB digC; rw [Lib.decDigits_one h]
    clear ih h
    go_wp2_with fail
    go_ret
    exact ⟨by rw [HR.out]; rfl, (Below.refl _ _).alloc (Nat.le_refl _) _⟩
  · have h0 : ¬ (m : Int) < 0 := by omega
    have h1 : ¬ (m : Int) < 10 := by omega
    have hi := fun wx => ih (m / 10) (by omega) wx (by omega)
    rw [← dig_q m hm] at hi
    have HI := hide hi
    have hc := conv_dig (m % 10) (by omega) (dig_r m)
    have hsz : (decB (m / 10)).size ≤ 21 := by
      show (Lib.decDigits (m / 10)).length ≤ 21
      have := Lib.itoa_length_le ((m / 10 : Nat) : Int) (by omega) (by omega)
      rw [Lib.itoa_nonneg] at this
      exact this
    have HR : Hid (decB (m / 10) ++ ⟨#[digC (m % 10)]⟩ = decB m) := by
      show _ = _
      unfold decB digC
      conv => rhs; rw [Lib.decDigits, dif_neg h]
      apply ByteArray.ext
      simp
    clear ih hi hm
    generalize decB m = V at *
    generalize decB (m / 10) = U at *
    go_wp2_with fail
    go_region_with (go_at_call 65; refine (HI.out _).mono ?_; rintro e w1 ⟨rfl, hb⟩; (first | (have hcell := cell_drewAlloc hb) | skip); (first | (have T1 := hide (below_drewAlloc hb)) | (have T1 := hide (below_drew1 hb))); clear hb)
    all_goals
      go_wp2
      go_ret
      exact ⟨by rw [← HR.out]; rfl, by first | exact T1.out | exact T1.out.alloc T1.out.size _⟩
end Go.Proofs.YtlbpfcchaobgjaaDoor
