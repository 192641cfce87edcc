/- Right values: both SizeOf and both ValueOk. -/
import Derived.Test.YtdnodaoeflbfkaaValK
namespace Go.Proofs.Ytdnodaoeflbfkaa
open Go.RowKit Go.BigFrame
set_option linter.unusedVariables false

def sizB (n : Nat) (v : VT n) : Nat := upTo (tsz n 6 v) 300
def vokB (n : Nat) (v : VT n) : Bool := decide ((0 : Int) < (sizB n v : Nat))
theorem sValueOk_any {n : Nat} (v : VT n) (x : Value) (w : World) (hok : okVT n v) (hx : valArg w 0 n x v) : Calls Try.prog 163 #[x] w fun e w' => e = .returned (.bool (vokB n v)) ∧ Below w.heap.size w w' := by
  cases n with
  | zero => exact hx.elim
  | succ n =>
  obtain ⟨kd, tx, nm, ks, kids, rfl⟩ := VT.parts v
  obtain ⟨a, cap, a', cap', rfl, hx1, hx2⟩ := hx
  have HC : Hid (∀ wx, Below w.heap.size w wx → Calls Try.prog 207 #[.agg #[.int .i64 kd, .string tx, .int .i64 nm, .slice a ks.length cap, .slice a' kids.length cap'], .int .i64 6] wx fun e w' => e = .returned (.int .i64 (upTo (tsz (n + 1) 6 (VT.mk ⟨kd, tx, nm, ks⟩ kids)) 300 : Nat)) ∧ Below w.heap.size w w') :=
    fun wx hb => (look_any (n + 1) (VT.mk ⟨kd, tx, nm, ks⟩ kids) _ 6 wx hok (valArg.below (n := n + 1) (v := VT.mk ⟨kd, tx, nm, ks⟩ kids) ⟨_, _, _, _, rfl, hx1, hx2⟩ hb) (by omega)).mono fun e w' h => ⟨h.1, hb.trans (h.2.mono hb.size)⟩
  clear hok hx1 hx2
  unfold vokB sizB
  generalize upTo (tsz (n + 1) 6 (VT.mk ⟨kd, tx, nm, ks⟩ kids)) 300 = N at *
  go_enter Try.func163, Try.ntmps163
  go_wp2_with fail
  refine (HC.out _ (by repeat (first | exact Below.refl _ _ | refine Below.alloc ?_ (Nat.le_refl _) _))).mono ?_
  rintro e w1 ⟨rfl, hb1⟩
  go_wp2
  go_ret
  exact ⟨ret_bool (by simp), hb1⟩
theorem iSizeOf_any {n : Nat} (v : VT n) (x : Value) (w : World) (hok : okVT n v) (hx : valArg w 0 n x v) : Calls Try.prog 242 #[x] w fun e w' => e = .returned (.int .i64 (sizB n v : Nat)) ∧ Below w.heap.size w w' := by
  cases n with
  | zero => exact hx.elim
  | succ n =>
  obtain ⟨kd, tx, nm, ks, kids, rfl⟩ := VT.parts v
  obtain ⟨a, cap, a', cap', rfl, hx1, hx2⟩ := hx
  have HC : Hid (∀ wx, Below w.heap.size w wx → Calls Try.prog 261 #[.agg #[.int .i64 kd, .string tx, .int .i64 nm, .slice a ks.length cap, .slice a' kids.length cap'], .int .i64 6, .int .i64 300] wx fun e w' => e = .returned (.int .i64 (upTo (tsz (n + 1) 6 (VT.mk ⟨kd, tx, nm, ks⟩ kids)) 300 : Nat)) ∧ Below w.heap.size w w') :=
    fun wx hb => (within_any (n + 1) (VT.mk ⟨kd, tx, nm, ks⟩ kids) _ 6 300 wx hok (valArg.below (n := n + 1) (v := VT.mk ⟨kd, tx, nm, ks⟩ kids) ⟨_, _, _, _, rfl, hx1, hx2⟩ hb) (by omega) (by omega)).mono fun e w' h => ⟨h.1, hb.trans (h.2.mono hb.size)⟩
  clear hok hx1 hx2
  unfold sizB
  generalize upTo (tsz (n + 1) 6 (VT.mk ⟨kd, tx, nm, ks⟩ kids)) 300 = N at *
  go_enter Try.func242, Try.ntmps242
  go_wp2_with fail
  refine (HC.out _ (by repeat (first | exact Below.refl _ _ | refine Below.alloc ?_ (Nat.le_refl _) _))).mono ?_
  rintro e w1 ⟨rfl, hb1⟩
  go_wp2
  go_ret
  exact ⟨rfl, hb1⟩
theorem iValueOk_any {n : Nat} (v : VT n) (x : Value) (w : World) (hok : okVT n v) (hx : valArg w 0 n x v) : Calls Try.prog 214 #[x] w fun e w' => e = .returned (.bool (vokB n v)) ∧ Below w.heap.size w w' := by
  cases n with
  | zero => exact hx.elim
  | succ n =>
  obtain ⟨kd, tx, nm, ks, kids, rfl⟩ := VT.parts v
  obtain ⟨a, cap, a', cap', rfl, hx1, hx2⟩ := hx
  have HC : Hid (∀ wx, Below w.heap.size w wx → Calls Try.prog 242 #[.agg #[.int .i64 kd, .string tx, .int .i64 nm, .slice a ks.length cap, .slice a' kids.length cap']] wx fun e w' => e = .returned (.int .i64 (sizB (n + 1) (VT.mk ⟨kd, tx, nm, ks⟩ kids) : Nat)) ∧ Below w.heap.size w w') :=
    fun wx hb => (iSizeOf_any (VT.mk ⟨kd, tx, nm, ks⟩ kids) _ wx hok (valArg.below (n := n + 1) (v := VT.mk ⟨kd, tx, nm, ks⟩ kids) ⟨_, _, _, _, rfl, hx1, hx2⟩ hb)).mono fun e w' h => ⟨h.1, hb.trans (h.2.mono hb.size)⟩
  clear hok hx1 hx2
  unfold vokB
  generalize sizB (n + 1) (VT.mk ⟨kd, tx, nm, ks⟩ kids) = N at *
  go_enter Try.func214, Try.ntmps214
  go_wp2_with fail
  refine (HC.out _ (by repeat (first | exact Below.refl _ _ | refine Below.alloc ?_ (Nat.le_refl _) _))).mono ?_
  rintro e w1 ⟨rfl, hb1⟩
  go_wp2
  go_ret
  exact ⟨ret_bool (by simp), hb1⟩
end Go.Proofs.Ytdnodaoeflbfkaa
