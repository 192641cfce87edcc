/- The marks that the laws write: laws.markText. -/
import Derived.Test.YtbadjopaocindaaDoorLabs
import Derived.Laws.BytesString
namespace Go.Proofs.YtbadjopaocindaaDoor
open Go.RowKit
set_option linter.unusedVariables false

def mtStep (k : Nat) : ByteArray := ([48 + (k : Int) % 10]).foldl (fun r n => r.push (UInt8.ofNat n.toNat)) ByteArray.empty
def mtTo : Nat → Nat → ByteArray → ByteArray
  | 0, _, s => s
  | f + 1, k, s => if k = 0 then s else mtTo f (k / 10) (mtStep k ++ s)
def mtx (n : Nat) : ByteArray := ⟨#[109]⟩ ++ mtTo n n ⟨#[]⟩
theorem mtTo_zero (f : Nat) (s : ByteArray) : mtTo f 0 s = s := by cases f <;> simp [mtTo]
theorem mtStep_size (k : Nat) : (mtStep k).size = 1 := by simp [mtStep, List.foldl]
theorem conv_one (w : World) (x : Int) : (convert 22 9 (.slice (some ⟨w.heap.size, 0, none⟩) 1 1)).run Tryd.prog (w.alloc (.cells #[.int .u8 x] 5)) =
    .ok (.string ([x].foldl (fun r n => r.push (UInt8.ofNat n.toNat)) ByteArray.empty)) (w.alloc (.cells #[.int .u8 x] 5)) := by
  rw [run_convert_bytes_string _ _ _ _ _ _ _ Tryd.underlying22 Tryd.underlying5 Tryd.underlying9, run_bytesToString _ _ 1 1 [x]]
  simp [loadCells, go_sem]

set_option maxHeartbeats 400000 in
theorem markText_any (n : Nat) (w : World) (hn : n ≤ 1000000000) (h1 : 1 ≤ n) :
    Calls Tryd.prog 49 #[.int .i64 n] w fun e w' => e = .returned (.string (mtx n)) ∧ Below w.heap.size w w' := by
  have hpos : ¬ (n : Int) ≤ 0 := by omega
  have HT : Hid (mtx n = ⟨#[109]⟩ ++ mtTo n n ⟨#[]⟩) := rfl
  go_enter Tryd.func49, Tryd.ntmps49
  go_wp2
  go_loopw [0, 3] (fun i v wr => ∃ (k : Nat) (s : ByteArray), k ≤ n ∧ i = .int .i64 k ∧ v = .string s ∧ s.size ≤ n - k ∧ Hid (∃ f, k ≤ f ∧ mtTo f k s = mtTo n n ⟨#[]⟩) ∧ Below w.heap.size w wr) (fun i _ _ => (intOf i).toNat)
  case atStart => exact ⟨n, _, by omega, rfl, rfl, Nat.zero_le _, ⟨n, Nat.le_refl _, rfl⟩, Below.refl _ _⟩
  case round =>
    obtain ⟨k, s, hk, rfl, rfl, hs, Hx, hbw⟩ := hrel
    by_cases hlt : 0 < k
    · have hlt' : (0 : Int) < (k : Int) := by omega
      have hcv := conv_one wr (48 + (k : Int) % 10)
      have hd : ([48 + (k : Int) % 10]).foldl (fun r n => r.push (UInt8.ofNat n.toNat)) ByteArray.empty = mtStep k := rfl
      rw [hd] at hcv
      have hds := mtStep_size k
      have Hn : Hid (∃ f, k / 10 ≤ f ∧ mtTo f (k / 10) (mtStep k ++ s) = mtTo n n ⟨#[]⟩) := by
        obtain ⟨f, hf, he⟩ := Hx.out
        cases f with
        | zero => omega
        | succ f => exact ⟨f, by omega, by rw [← he, mtTo, if_neg (by omega)]⟩
      clear hd Hx
      generalize mtStep k = D at *
      have hsz : (D ++ s).size ≤ n - k / 10 := by rw [ByteArray.size_append, hds]; omega
      have hds' : D.size ≤ 1 := by omega
      clear hds
      go_wp2
      go_roundw
      case rel => exact ⟨k / 10, _, by omega, by go_num, rfl, hsz, Hn, hbw.alloc hbw.size _⟩
      case measure => simp [intOf]; omega
    · have e : k = 0 := by omega
      subst e
      have Hs : Hid (mtTo n n ⟨#[]⟩ = s) := by obtain ⟨f, _, he⟩ := Hx.out; show _ = _; rw [← he, mtTo_zero]
      clear Hx
      go_wp2
      go_ret
      exact ⟨by rw [HT.out, Hs.out]; rfl, hbw⟩

end Go.Proofs.YtbadjopaocindaaDoor
