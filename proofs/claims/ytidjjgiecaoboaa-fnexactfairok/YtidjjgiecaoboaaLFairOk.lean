/- FnExactFairOk holds: at any arguments impl.FairOk answers what spec.FairOk answers. No conditions. -/
import Derived.Test.YtidjjgiecaoboaaRows
import Derived.Test.YtidjjgiecaoboaaShrI
import Derived.Test.YtidjjgiecaoboaaU3
import Derived.WalkKit
import Derived.ProofKit
import Derived.OpenShut
import Derived.ShutString
import Derived.ChangeOld
import Derived.Below
namespace Go.Proofs.Ytidjjgiecaoboaa
open Go.ChangeShapes Go.WideShapes Go.ChangeAt Go.RowKit Go.BigFrame
open Go.ChangeMaps (open_string shut_string)
set_option linter.unusedVariables false
theorem fairOk_both (iA0 : Int) (nA1 : Nat) (csA1 : UD) (nA2 : Nat) (csA2 : UD) (nA3 : Nat) (csA3 : UD) (hsA0 : inK .i64 iA0) (htA1 : tyS 1 nA1 csA1 1) (hsA1 : nA1 ≤ 1048576) (htA2 : tyS 1 nA2 csA2 1) (hsA2 : nA2 ≤ 1048576) (htA3 : tyS 1 nA3 csA3 1) (hsA3 : nA3 ≤ 1048576) (hw : 0 ≤ 1048576) :
    ∃ (bR0 : Bool), (∀ (w : World) (loA1 hiA1 : Nat) (cA1 : Value) (loA2 hiA2 : Nat) (cA2 : Value) (loA3 hiA3 : Nat) (cA3 : Value), uS w loA1 hiA1 1 nA1 csA1 cA1 → uS w loA2 hiA2 1 nA2 csA2 cA2 → uS w loA3 hiA3 1 nA3 csA3 cA3 → Calls Try.prog 15 #[.int .i64 iA0, cA1, cA2, cA3] w fun e w' => e = .returned (.bool bR0) ∧ Below w.heap.size w w') ∧
    (∀ (w : World) (loA1 hiA1 : Nat) (cA1 : Value) (loA2 hiA2 : Nat) (cA2 : Value) (loA3 hiA3 : Nat) (cA3 : Value), uS w loA1 hiA1 1 nA1 csA1 cA1 → uS w loA2 hiA2 1 nA2 csA2 cA2 → uS w loA3 hiA3 1 nA3 csA3 cA3 → Calls Try.prog 14 #[.int .i64 iA0, cA1, cA2, cA3] w fun e w' => e = .returned (.bool bR0) ∧ Below w.heap.size w w') := by
  obtain ⟨r, hr⟩ := bool_iff (fairP iA0 (intL csA1) (intL csA2) (intL csA3))
  exact ⟨r, fun w lo hi c lo' hi' c' lo2 hi2 c2 h1 h2 h3 => sFair_any iA0 nA1 nA2 nA3 csA1 csA2 csA3 c c' c2 lo hi lo' hi' lo2 hi2 w r htA1 htA2 htA3 h1 h2 h3 hr, fun w lo hi c lo' hi' c' lo2 hi2 c2 h1 h2 h3 => iFair_any iA0 nA1 nA2 nA3 csA1 csA2 csA3 c c' c2 lo hi lo' hi' lo2 hi2 w r hsA0 htA1 htA2 htA3 h1 h2 h3 hr⟩
namespace LFairOk
theorem laidOut : laidOutB Try.prog = true := by kernel_rfl
theorem own : ownKnob Try.prog.godebug = none := by kernel_rfl
def TYU : Nat → TypeId
  | 1 => 3
  | _ => 0
def GU (n : Nat) : Prop := n = 1
theorem flatU : ∀ n, GU n → Flat Try.prog TYU GU (TYU n) (uE n) := by
  intro n h
  unfold GU at h
  rcases h with rfl
  · exact (Flat.i64 Try.underlying3)
set_option maxRecDepth 20000 in
set_option maxHeartbeats 3200000 in
theorem walk (iA0 : Int) (nA1 : Nat) (csA1 : UD) (cA1 : Value) (nA2 : Nat) (csA2 : UD) (cA2 : Value) (nA3 : Nat) (csA3 : UD) (cA3 : Value) (w : World) (hsA0 : inK .i64 iA0) (htA1 : tyS 1 nA1 csA1 1) (hxA1 : uS w 0 w.heap.size 1 nA1 csA1 cA1) (htA2 : tyS 1 nA2 csA2 1) (hxA2 : uS w 0 w.heap.size 1 nA2 csA2 cA2) (htA3 : tyS 1 nA3 csA3 1) (hxA3 : uS w 0 w.heap.size 1 nA3 csA3 cA3) :
    Calls Try.prog 7 #[.int .i64 iA0, cA1, cA2, cA3] w fun e w' => e = .returned (.bool true) ∧ Below w.heap.size w w' := by
  obtain ⟨aA1, pA1, rfl, hx2A1⟩ := hxA1
  have OXA1 : Hid (uS w 0 w.heap.size 1 nA1 csA1 (.slice aA1 nA1 pA1)) := ⟨_, _, rfl, hx2A1⟩
  have HtA1 := uhide htA1
  clear hx2A1
  obtain ⟨aA2, pA2, rfl, hx2A2⟩ := hxA2
  have OXA2 : Hid (uS w 0 w.heap.size 1 nA2 csA2 (.slice aA2 nA2 pA2)) := ⟨_, _, rfl, hx2A2⟩
  have HtA2 := uhide htA2
  clear hx2A2
  obtain ⟨aA3, pA3, rfl, hx2A3⟩ := hxA3
  have OXA3 : Hid (uS w 0 w.heap.size 1 nA3 csA3 (.slice aA3 nA3 pA3)) := ⟨_, _, rfl, hx2A3⟩
  have HtA3 := uhide htA3
  clear hx2A3
  by_cases hbA1 : (1048576 : Int) < (nA1 : Int)
  · go_enter Try.func7, Try.ntmps7
    go_wp2
    go_ret
    exact ⟨rfl, by repeat (first | exact Below.refl _ _ | refine Below.alloc ?_ (by simp <;> omega) _)⟩
  by_cases hbA2 : (1048576 : Int) < (nA2 : Int)
  · go_enter Try.func7, Try.ntmps7
    go_wp2
    go_ret
    exact ⟨rfl, by repeat (first | exact Below.refl _ _ | refine Below.alloc ?_ (by simp <;> omega) _)⟩
  by_cases hbA3 : (1048576 : Int) < (nA3 : Int)
  · go_enter Try.func7, Try.ntmps7
    go_wp2
    go_ret
    exact ⟨rfl, by repeat (first | exact Below.refl _ _ | refine Below.alloc ?_ (by simp <;> omega) _)⟩
  obtain ⟨bR0, HSP, HIM⟩ := fairOk_both iA0 nA1 csA1 nA2 csA2 nA3 csA3 hsA0 HtA1.out (by omega) HtA2.out (by omega) HtA3.out (by omega) (by omega)
  replace HSP := uhide HSP
  replace HIM := uhide HIM
  have HSQ : Hid (∀ (wx : World) (loA1 hiA1 : Nat) (cA1 : Value) (loA2 hiA2 : Nat) (cA2 : Value) (loA3 hiA3 : Nat) (cA3 : Value), uS wx loA1 hiA1 1 nA1 csA1 cA1 → uS wx loA2 hiA2 1 nA2 csA2 cA2 → uS wx loA3 hiA3 1 nA3 csA3 cA3 → Calls Try.prog 15 #[.int .i64 iA0, cA1, cA2, cA3] wx fun e w' => e = .returned (.bool bR0) ∧ Hid (Below wx.heap.size wx w')) := fun wx loA1 hiA1 cA1 loA2 hiA2 cA2 loA3 hiA3 cA3 hA1 hA2 hA3 => (HSP.out _ _ _ _ _ _ _ _ _ _ hA1 hA2 hA3).mono fun e w' ⟨h1, hb⟩ => by
    exact ⟨h1, hb⟩
  have HIQ : Hid (∀ (wx : World) (loA1 hiA1 : Nat) (cA1 : Value) (loA2 hiA2 : Nat) (cA2 : Value) (loA3 hiA3 : Nat) (cA3 : Value), uS wx loA1 hiA1 1 nA1 csA1 cA1 → uS wx loA2 hiA2 1 nA2 csA2 cA2 → uS wx loA3 hiA3 1 nA3 csA3 cA3 → Calls Try.prog 14 #[.int .i64 iA0, cA1, cA2, cA3] wx fun e w' => e = .returned (.bool bR0) ∧ Hid (Below wx.heap.size wx w')) := fun wx loA1 hiA1 cA1 loA2 hiA2 cA2 loA3 hiA3 cA3 hA1 hA2 hA3 => (HIM.out _ _ _ _ _ _ _ _ _ _ hA1 hA2 hA3).mono fun e w' ⟨h1, hb⟩ => by
    exact ⟨h1, hb⟩
  clear HSP HIM
  have hctA1 : cnt csA1 ≤ 42000000 := by rw [cnt_int HtA1.out]; omega
  have hctA2 : cnt csA2 ≤ 42000000 := by rw [cnt_int HtA2.out]; omega
  have hctA3 : cnt csA3 ≤ 42000000 := by rw [cnt_int HtA3.out]; omega
  have HtoA1 : Hid (∀ wx, Below w.heap.size w wx → Calls Try.prog 18 #[.slice aA1 nA1 pA1] wx fun e w' => ∃ aA1r pA1r S, e = .returned (.slice aA1r nA1 pA1r) ∧ Hid (oS w' 1 nA1 csA1 (.slice aA1r nA1 pA1r) S) ∧ Hid (own2 S wx.heap.size w'.heap.size) ∧ Hid (Below wx.heap.size wx w')) := fun wx hb => (utoIntS_any (lo := 0) (hi := w.heap.size) nA1 csA1 _ wx HtA1.out (by omega) (OXA1.out.below hb)).mono fun e w' ⟨c, S, h1, h2, h3, h4, h5⟩ => by
    obtain ⟨a, p, rfl⟩ := h2.slice
    exact ⟨a, p, S, h1, h2, ⟨h3, fun s hs => ⟨h4 s hs, h2.lt s hs⟩⟩, h5⟩
  have HtoA2 : Hid (∀ wx, Below w.heap.size w wx → Calls Try.prog 18 #[.slice aA2 nA2 pA2] wx fun e w' => ∃ aA2r pA2r S, e = .returned (.slice aA2r nA2 pA2r) ∧ Hid (oS w' 1 nA2 csA2 (.slice aA2r nA2 pA2r) S) ∧ Hid (own2 S wx.heap.size w'.heap.size) ∧ Hid (Below wx.heap.size wx w')) := fun wx hb => (utoIntS_any (lo := 0) (hi := w.heap.size) nA2 csA2 _ wx HtA2.out (by omega) (OXA2.out.below hb)).mono fun e w' ⟨c, S, h1, h2, h3, h4, h5⟩ => by
    obtain ⟨a, p, rfl⟩ := h2.slice
    exact ⟨a, p, S, h1, h2, ⟨h3, fun s hs => ⟨h4 s hs, h2.lt s hs⟩⟩, h5⟩
  have HtoA3 : Hid (∀ wx, Below w.heap.size w wx → Calls Try.prog 18 #[.slice aA3 nA3 pA3] wx fun e w' => ∃ aA3r pA3r S, e = .returned (.slice aA3r nA3 pA3r) ∧ Hid (oS w' 1 nA3 csA3 (.slice aA3r nA3 pA3r) S) ∧ Hid (own2 S wx.heap.size w'.heap.size) ∧ Hid (Below wx.heap.size wx w')) := fun wx hb => (utoIntS_any (lo := 0) (hi := w.heap.size) nA3 csA3 _ wx HtA3.out (by omega) (OXA3.out.below hb)).mono fun e w' ⟨c, S, h1, h2, h3, h4, h5⟩ => by
    obtain ⟨a, p, rfl⟩ := h2.slice
    exact ⟨a, p, S, h1, h2, ⟨h3, fun s hs => ⟨h4 s hs, h2.lt s hs⟩⟩, h5⟩
  have HeqA1 : Hid (∀ (wx : World) (lo hi lo' hi' : Nat) (y y' : Value), uS wx lo hi 1 nA1 csA1 y → uS wx lo' hi' 1 nA1 csA1 y' → Calls Try.prog 19 #[y, y'] wx fun e w' => e = .returned (.bool true) ∧ Hid (Below wx.heap.size wx w')) := fun wx lo hi lo' hi' y y' h1 h2 => ueqIntS_any (lo := lo) (hi := hi) (lo' := lo') (hi' := hi') _ _ _ _ wx HtA1.out h1 h2
  have HeqA2 : Hid (∀ (wx : World) (lo hi lo' hi' : Nat) (y y' : Value), uS wx lo hi 1 nA2 csA2 y → uS wx lo' hi' 1 nA2 csA2 y' → Calls Try.prog 19 #[y, y'] wx fun e w' => e = .returned (.bool true) ∧ Hid (Below wx.heap.size wx w')) := fun wx lo hi lo' hi' y y' h1 h2 => ueqIntS_any (lo := lo) (hi := hi) (lo' := lo') (hi' := hi') _ _ _ _ wx HtA2.out h1 h2
  have HeqA3 : Hid (∀ (wx : World) (lo hi lo' hi' : Nat) (y y' : Value), uS wx lo hi 1 nA3 csA3 y → uS wx lo' hi' 1 nA3 csA3 y' → Calls Try.prog 19 #[y, y'] wx fun e w' => e = .returned (.bool true) ∧ Hid (Below wx.heap.size wx w')) := fun wx lo hi lo' hi' y y' h1 h2 => ueqIntS_any (lo := lo) (hi := hi) (lo' := lo') (hi' := hi') _ _ _ _ wx HtA3.out h1 h2
  clear htA1 htA2 htA3
  have hqR0 : (bR0 != bR0) = false := by simp
  go_enter Try.func7, Try.ntmps7
  have B0 : Hid (Below w.heap.size w w) := Below.refl _ _
  go_wp2_with fail
  refine (HtoA1.out _ (by repeat (first | with_reducible exact B0.out | with_reducible refine Below.alloc ?_ (by have := B0.out.size; (try simp) <;> omega) _ | with_reducible refine Below.drew ?_ | with_reducible refine below_drewN ?_ _))).mono ?_
  rintro e w1 ⟨aA1y, pA1y, SYA1, rfl, YA1, YA1w, hb1⟩
  have HB1 : Hid (Below w.heap.size w w1) := Below.trans (by repeat (first | with_reducible exact Below.refl _ _ | with_reducible refine Below.alloc ?_ (by simp <;> omega) _ | with_reducible refine Below.drew ?_ | with_reducible refine below_drewN ?_ _)) (hb1.out.mono (by simp <;> omega))
  have Z1 : Hid (w.heap.size + 0 ≤ w1.heap.size) := by have h := hb1.out.size; (try simp at h); show _ ≤ _; omega
  replace YA1w := uhide (YA1w.out.mono (a' := w.heap.size + 0) (by (try simp) <;> omega) (Nat.le_refl _))
  replace OXA1 := uhide (OXA1.out.below HB1.out)
  replace OXA2 := uhide (OXA2.out.below HB1.out)
  replace OXA3 := uhide (OXA3.out.below HB1.out)
  have B1 : Hid (Below w.heap.size w w1) := B0.out.trans (HB1.out.mono B0.out.size)
  clear hb1 HB1
  go_wp2_with fail
  refine (HtoA2.out _ (by repeat (first | with_reducible exact B1.out | with_reducible refine Below.alloc ?_ (by have := B1.out.size; (try simp) <;> omega) _ | with_reducible refine Below.drew ?_ | with_reducible refine below_drewN ?_ _))).mono ?_
  rintro e w2 ⟨aA2y, pA2y, SYA2, rfl, YA2, YA2w, hb2⟩
  have HB2 : Hid (Below w1.heap.size w1 w2) := Below.trans (by repeat (first | with_reducible exact Below.refl _ _ | with_reducible refine Below.alloc ?_ (by simp <;> omega) _ | with_reducible refine Below.drew ?_ | with_reducible refine below_drewN ?_ _)) (hb2.out.mono (by simp <;> omega))
  have Z2 : Hid (w1.heap.size + 0 ≤ w2.heap.size) := by have h := hb2.out.size; (try simp at h); show _ ≤ _; omega
  replace YA2w := uhide (YA2w.out.mono (a' := w1.heap.size + 0) (by (try simp) <;> omega) (Nat.le_refl _))
  replace OXA1 := uhide (OXA1.out.below HB2.out)
  replace OXA2 := uhide (OXA2.out.below HB2.out)
  replace OXA3 := uhide (OXA3.out.below HB2.out)
  replace YA1 := uhide (YA1.out.below HB2.out)
  have B2 : Hid (Below w.heap.size w w2) := B1.out.trans (HB2.out.mono B1.out.size)
  clear hb2 HB2
  go_wp2_with fail
  refine (HtoA3.out _ (by repeat (first | with_reducible exact B2.out | with_reducible refine Below.alloc ?_ (by have := B2.out.size; (try simp) <;> omega) _ | with_reducible refine Below.drew ?_ | with_reducible refine below_drewN ?_ _))).mono ?_
  rintro e w3 ⟨aA3y, pA3y, SYA3, rfl, YA3, YA3w, hb3⟩
  have HB3 : Hid (Below w2.heap.size w2 w3) := Below.trans (by repeat (first | with_reducible exact Below.refl _ _ | with_reducible refine Below.alloc ?_ (by simp <;> omega) _ | with_reducible refine Below.drew ?_ | with_reducible refine below_drewN ?_ _)) (hb3.out.mono (by simp <;> omega))
  have Z3 : Hid (w2.heap.size + 0 ≤ w3.heap.size) := by have h := hb3.out.size; (try simp at h); show _ ≤ _; omega
  replace YA3w := uhide (YA3w.out.mono (a' := w2.heap.size + 0) (by (try simp) <;> omega) (Nat.le_refl _))
  replace OXA1 := uhide (OXA1.out.below HB3.out)
  replace OXA2 := uhide (OXA2.out.below HB3.out)
  replace OXA3 := uhide (OXA3.out.below HB3.out)
  replace YA1 := uhide (YA1.out.below HB3.out)
  replace YA2 := uhide (YA2.out.below HB3.out)
  have B3 : Hid (Below w.heap.size w w3) := B2.out.trans (HB3.out.mono B2.out.size)
  clear hb3 HB3
  go_wp2_with fail
  refine (HSQ.out _ _ _ _ _ _ _ _ _ _ ((YA1.out.below (by repeat (first | with_reducible exact Below.refl _ _ | with_reducible refine Below.alloc ?_ (by simp <;> omega) _ | with_reducible refine Below.drew ?_ | with_reducible refine below_drewN ?_ _))).u YA1w.out.2) ((YA2.out.below (by repeat (first | with_reducible exact Below.refl _ _ | with_reducible refine Below.alloc ?_ (by simp <;> omega) _ | with_reducible refine Below.drew ?_ | with_reducible refine below_drewN ?_ _))).u YA2w.out.2) ((YA3.out.below (by repeat (first | with_reducible exact Below.refl _ _ | with_reducible refine Below.alloc ?_ (by simp <;> omega) _ | with_reducible refine Below.drew ?_ | with_reducible refine below_drewN ?_ _))).u YA3w.out.2)).mono ?_
  rintro e w4 ⟨rfl, hb4⟩
  have HB4 : Hid (Below w3.heap.size w3 w4) := Below.trans (by repeat (first | with_reducible exact Below.refl _ _ | with_reducible refine Below.alloc ?_ (by simp <;> omega) _ | with_reducible refine Below.drew ?_ | with_reducible refine below_drewN ?_ _)) (hb4.out.mono (by simp <;> omega))
  have Z4 : Hid (w3.heap.size + 0 ≤ w4.heap.size) := by have h := hb4.out.size; (try simp at h); show _ ≤ _; omega
  replace OXA1 := uhide (OXA1.out.below HB4.out)
  replace OXA2 := uhide (OXA2.out.below HB4.out)
  replace OXA3 := uhide (OXA3.out.below HB4.out)
  replace YA1 := uhide (YA1.out.below HB4.out)
  replace YA2 := uhide (YA2.out.below HB4.out)
  replace YA3 := uhide (YA3.out.below HB4.out)
  have B4 : Hid (Below w.heap.size w w4) := B3.out.trans (HB4.out.mono B3.out.size)
  clear hb4 HB4
  clear YA1 YA1w YA2 YA2w YA3 YA3w
  go_wp2_with fail
  refine (HtoA1.out _ (by repeat (first | with_reducible exact B4.out | with_reducible refine Below.alloc ?_ (by have := B4.out.size; (try simp) <;> omega) _ | with_reducible refine Below.drew ?_ | with_reducible refine below_drewN ?_ _))).mono ?_
  rintro e w5 ⟨aA1x, pA1x, SXA1, rfl, XA1, XA1w, hb5⟩
  have HB5 : Hid (Below w4.heap.size w4 w5) := Below.trans (by repeat (first | with_reducible exact Below.refl _ _ | with_reducible refine Below.alloc ?_ (by simp <;> omega) _ | with_reducible refine Below.drew ?_ | with_reducible refine below_drewN ?_ _)) (hb5.out.mono (by simp <;> omega))
  have Z5 : Hid (w4.heap.size + 0 ≤ w5.heap.size) := by have h := hb5.out.size; (try simp at h); show _ ≤ _; omega
  replace XA1w := uhide (XA1w.out.mono (a' := w4.heap.size + 0) (by (try simp) <;> omega) (Nat.le_refl _))
  replace OXA1 := uhide (OXA1.out.below HB5.out)
  replace OXA2 := uhide (OXA2.out.below HB5.out)
  replace OXA3 := uhide (OXA3.out.below HB5.out)
  have B5 : Hid (Below w.heap.size w w5) := B4.out.trans (HB5.out.mono B4.out.size)
  clear hb5 HB5
  go_wp2_with fail
  refine (HtoA2.out _ (by repeat (first | with_reducible exact B5.out | with_reducible refine Below.alloc ?_ (by have := B5.out.size; (try simp) <;> omega) _ | with_reducible refine Below.drew ?_ | with_reducible refine below_drewN ?_ _))).mono ?_
  rintro e w6 ⟨aA2x, pA2x, SXA2, rfl, XA2, XA2w, hb6⟩
  have HB6 : Hid (Below w5.heap.size w5 w6) := Below.trans (by repeat (first | with_reducible exact Below.refl _ _ | with_reducible refine Below.alloc ?_ (by simp <;> omega) _ | with_reducible refine Below.drew ?_ | with_reducible refine below_drewN ?_ _)) (hb6.out.mono (by simp <;> omega))
  have Z6 : Hid (w5.heap.size + 0 ≤ w6.heap.size) := by have h := hb6.out.size; (try simp at h); show _ ≤ _; omega
  replace XA2w := uhide (XA2w.out.mono (a' := w5.heap.size + 0) (by (try simp) <;> omega) (Nat.le_refl _))
  replace OXA1 := uhide (OXA1.out.below HB6.out)
  replace OXA2 := uhide (OXA2.out.below HB6.out)
  replace OXA3 := uhide (OXA3.out.below HB6.out)
  replace XA1 := uhide (XA1.out.below HB6.out)
  have B6 : Hid (Below w.heap.size w w6) := B5.out.trans (HB6.out.mono B5.out.size)
  clear hb6 HB6
  go_wp2_with fail
  refine (HtoA3.out _ (by repeat (first | with_reducible exact B6.out | with_reducible refine Below.alloc ?_ (by have := B6.out.size; (try simp) <;> omega) _ | with_reducible refine Below.drew ?_ | with_reducible refine below_drewN ?_ _))).mono ?_
  rintro e w7 ⟨aA3x, pA3x, SXA3, rfl, XA3, XA3w, hb7⟩
  have HB7 : Hid (Below w6.heap.size w6 w7) := Below.trans (by repeat (first | with_reducible exact Below.refl _ _ | with_reducible refine Below.alloc ?_ (by simp <;> omega) _ | with_reducible refine Below.drew ?_ | with_reducible refine below_drewN ?_ _)) (hb7.out.mono (by simp <;> omega))
  have Z7 : Hid (w6.heap.size + 0 ≤ w7.heap.size) := by have h := hb7.out.size; (try simp at h); show _ ≤ _; omega
  replace XA3w := uhide (XA3w.out.mono (a' := w6.heap.size + 0) (by (try simp) <;> omega) (Nat.le_refl _))
  replace OXA1 := uhide (OXA1.out.below HB7.out)
  replace OXA2 := uhide (OXA2.out.below HB7.out)
  replace OXA3 := uhide (OXA3.out.below HB7.out)
  replace XA1 := uhide (XA1.out.below HB7.out)
  replace XA2 := uhide (XA2.out.below HB7.out)
  have B7 : Hid (Below w.heap.size w w7) := B6.out.trans (HB7.out.mono B6.out.size)
  clear hb7 HB7
  go_wp2_with fail
  refine (HIQ.out _ _ _ _ _ _ _ _ _ _ ((XA1.out.below (by repeat (first | with_reducible exact Below.refl _ _ | with_reducible refine Below.alloc ?_ (by simp <;> omega) _ | with_reducible refine Below.drew ?_ | with_reducible refine below_drewN ?_ _))).u XA1w.out.2) ((XA2.out.below (by repeat (first | with_reducible exact Below.refl _ _ | with_reducible refine Below.alloc ?_ (by simp <;> omega) _ | with_reducible refine Below.drew ?_ | with_reducible refine below_drewN ?_ _))).u XA2w.out.2) ((XA3.out.below (by repeat (first | with_reducible exact Below.refl _ _ | with_reducible refine Below.alloc ?_ (by simp <;> omega) _ | with_reducible refine Below.drew ?_ | with_reducible refine below_drewN ?_ _))).u XA3w.out.2)).mono ?_
  rintro e w8 ⟨rfl, hb8⟩
  have HB8 : Hid (Below w7.heap.size w7 w8) := Below.trans (by repeat (first | with_reducible exact Below.refl _ _ | with_reducible refine Below.alloc ?_ (by simp <;> omega) _ | with_reducible refine Below.drew ?_ | with_reducible refine below_drewN ?_ _)) (hb8.out.mono (by simp <;> omega))
  have Z8 : Hid (w7.heap.size + 0 ≤ w8.heap.size) := by have h := hb8.out.size; (try simp at h); show _ ≤ _; omega
  replace OXA1 := uhide (OXA1.out.below HB8.out)
  replace OXA2 := uhide (OXA2.out.below HB8.out)
  replace OXA3 := uhide (OXA3.out.below HB8.out)
  replace XA1 := uhide (XA1.out.below HB8.out)
  replace XA2 := uhide (XA2.out.below HB8.out)
  replace XA3 := uhide (XA3.out.below HB8.out)
  have B8 : Hid (Below w.heap.size w w8) := B7.out.trans (HB8.out.mono B7.out.size)
  clear hb8 HB8
  go_wp2_with fail
  refine (HtoA1.out _ (by repeat (first | with_reducible exact B8.out | with_reducible refine Below.alloc ?_ (by have := B8.out.size; (try simp) <;> omega) _ | with_reducible refine Below.drew ?_ | with_reducible refine below_drewN ?_ _))).mono ?_
  rintro e w9 ⟨aA1v, pA1v, SVA1, rfl, VA1, VA1w, hb9⟩
  have HB9 : Hid (Below w8.heap.size w8 w9) := Below.trans (by repeat (first | with_reducible exact Below.refl _ _ | with_reducible refine Below.alloc ?_ (by simp <;> omega) _ | with_reducible refine Below.drew ?_ | with_reducible refine below_drewN ?_ _)) (hb9.out.mono (by simp <;> omega))
  have Z9 : Hid (w8.heap.size + 0 ≤ w9.heap.size) := by have h := hb9.out.size; (try simp at h); show _ ≤ _; omega
  replace VA1w := uhide (VA1w.out.mono (a' := w8.heap.size + 0) (by (try simp) <;> omega) (Nat.le_refl _))
  replace OXA1 := uhide (OXA1.out.below HB9.out)
  replace OXA2 := uhide (OXA2.out.below HB9.out)
  replace OXA3 := uhide (OXA3.out.below HB9.out)
  replace XA1 := uhide (XA1.out.below HB9.out)
  replace XA2 := uhide (XA2.out.below HB9.out)
  replace XA3 := uhide (XA3.out.below HB9.out)
  have B9 : Hid (Below w.heap.size w w9) := B8.out.trans (HB9.out.mono B8.out.size)
  clear hb9 HB9
  go_wp2_with fail
  refine (HeqA1.out _ _ _ _ _ _ _ ((XA1.out.below (by repeat (first | with_reducible exact Below.refl _ _ | with_reducible refine Below.alloc ?_ (by simp <;> omega) _ | with_reducible refine Below.drew ?_ | with_reducible refine below_drewN ?_ _))).u XA1w.out.2) ((VA1.out.below (by repeat (first | with_reducible exact Below.refl _ _ | with_reducible refine Below.alloc ?_ (by simp <;> omega) _ | with_reducible refine Below.drew ?_ | with_reducible refine below_drewN ?_ _))).u VA1w.out.2)).mono ?_
  rintro e w10 ⟨rfl, hb10⟩
  have HB10 : Hid (Below w9.heap.size w9 w10) := Below.trans (by repeat (first | with_reducible exact Below.refl _ _ | with_reducible refine Below.alloc ?_ (by simp <;> omega) _ | with_reducible refine Below.drew ?_ | with_reducible refine below_drewN ?_ _)) (hb10.out.mono (by simp <;> omega))
  have Z10 : Hid (w9.heap.size + 0 ≤ w10.heap.size) := by have h := hb10.out.size; (try simp at h); show _ ≤ _; omega
  replace OXA1 := uhide (OXA1.out.below HB10.out)
  replace OXA2 := uhide (OXA2.out.below HB10.out)
  replace OXA3 := uhide (OXA3.out.below HB10.out)
  replace XA1 := uhide (XA1.out.below HB10.out)
  replace XA2 := uhide (XA2.out.below HB10.out)
  replace XA3 := uhide (XA3.out.below HB10.out)
  replace VA1 := uhide (VA1.out.below HB10.out)
  have B10 : Hid (Below w.heap.size w w10) := B9.out.trans (HB10.out.mono B9.out.size)
  clear hb10 HB10
  go_wp2_with fail
  refine (HtoA2.out _ (by repeat (first | with_reducible exact B10.out | with_reducible refine Below.alloc ?_ (by have := B10.out.size; (try simp) <;> omega) _ | with_reducible refine Below.drew ?_ | with_reducible refine below_drewN ?_ _))).mono ?_
  rintro e w11 ⟨aA2v, pA2v, SVA2, rfl, VA2, VA2w, hb11⟩
  have HB11 : Hid (Below w10.heap.size w10 w11) := Below.trans (by repeat (first | with_reducible exact Below.refl _ _ | with_reducible refine Below.alloc ?_ (by simp <;> omega) _ | with_reducible refine Below.drew ?_ | with_reducible refine below_drewN ?_ _)) (hb11.out.mono (by simp <;> omega))
  have Z11 : Hid (w10.heap.size + 0 ≤ w11.heap.size) := by have h := hb11.out.size; (try simp at h); show _ ≤ _; omega
  replace VA2w := uhide (VA2w.out.mono (a' := w10.heap.size + 0) (by (try simp) <;> omega) (Nat.le_refl _))
  replace OXA1 := uhide (OXA1.out.below HB11.out)
  replace OXA2 := uhide (OXA2.out.below HB11.out)
  replace OXA3 := uhide (OXA3.out.below HB11.out)
  replace XA1 := uhide (XA1.out.below HB11.out)
  replace XA2 := uhide (XA2.out.below HB11.out)
  replace XA3 := uhide (XA3.out.below HB11.out)
  have B11 : Hid (Below w.heap.size w w11) := B10.out.trans (HB11.out.mono B10.out.size)
  clear hb11 HB11
  go_wp2_with fail
  refine (HeqA2.out _ _ _ _ _ _ _ ((XA2.out.below (by repeat (first | with_reducible exact Below.refl _ _ | with_reducible refine Below.alloc ?_ (by simp <;> omega) _ | with_reducible refine Below.drew ?_ | with_reducible refine below_drewN ?_ _))).u XA2w.out.2) ((VA2.out.below (by repeat (first | with_reducible exact Below.refl _ _ | with_reducible refine Below.alloc ?_ (by simp <;> omega) _ | with_reducible refine Below.drew ?_ | with_reducible refine below_drewN ?_ _))).u VA2w.out.2)).mono ?_
  rintro e w12 ⟨rfl, hb12⟩
  have HB12 : Hid (Below w11.heap.size w11 w12) := Below.trans (by repeat (first | with_reducible exact Below.refl _ _ | with_reducible refine Below.alloc ?_ (by simp <;> omega) _ | with_reducible refine Below.drew ?_ | with_reducible refine below_drewN ?_ _)) (hb12.out.mono (by simp <;> omega))
  have Z12 : Hid (w11.heap.size + 0 ≤ w12.heap.size) := by have h := hb12.out.size; (try simp at h); show _ ≤ _; omega
  replace OXA1 := uhide (OXA1.out.below HB12.out)
  replace OXA2 := uhide (OXA2.out.below HB12.out)
  replace OXA3 := uhide (OXA3.out.below HB12.out)
  replace XA1 := uhide (XA1.out.below HB12.out)
  replace XA2 := uhide (XA2.out.below HB12.out)
  replace XA3 := uhide (XA3.out.below HB12.out)
  replace VA2 := uhide (VA2.out.below HB12.out)
  have B12 : Hid (Below w.heap.size w w12) := B11.out.trans (HB12.out.mono B11.out.size)
  clear hb12 HB12
  go_wp2_with fail
  refine (HtoA3.out _ (by repeat (first | with_reducible exact B12.out | with_reducible refine Below.alloc ?_ (by have := B12.out.size; (try simp) <;> omega) _ | with_reducible refine Below.drew ?_ | with_reducible refine below_drewN ?_ _))).mono ?_
  rintro e w13 ⟨aA3v, pA3v, SVA3, rfl, VA3, VA3w, hb13⟩
  have HB13 : Hid (Below w12.heap.size w12 w13) := Below.trans (by repeat (first | with_reducible exact Below.refl _ _ | with_reducible refine Below.alloc ?_ (by simp <;> omega) _ | with_reducible refine Below.drew ?_ | with_reducible refine below_drewN ?_ _)) (hb13.out.mono (by simp <;> omega))
  have Z13 : Hid (w12.heap.size + 0 ≤ w13.heap.size) := by have h := hb13.out.size; (try simp at h); show _ ≤ _; omega
  replace VA3w := uhide (VA3w.out.mono (a' := w12.heap.size + 0) (by (try simp) <;> omega) (Nat.le_refl _))
  replace OXA1 := uhide (OXA1.out.below HB13.out)
  replace OXA2 := uhide (OXA2.out.below HB13.out)
  replace OXA3 := uhide (OXA3.out.below HB13.out)
  replace XA1 := uhide (XA1.out.below HB13.out)
  replace XA2 := uhide (XA2.out.below HB13.out)
  replace XA3 := uhide (XA3.out.below HB13.out)
  have B13 : Hid (Below w.heap.size w w13) := B12.out.trans (HB13.out.mono B12.out.size)
  clear hb13 HB13
  go_wp2_with fail
  refine (HeqA3.out _ _ _ _ _ _ _ ((XA3.out.below (by repeat (first | with_reducible exact Below.refl _ _ | with_reducible refine Below.alloc ?_ (by simp <;> omega) _ | with_reducible refine Below.drew ?_ | with_reducible refine below_drewN ?_ _))).u XA3w.out.2) ((VA3.out.below (by repeat (first | with_reducible exact Below.refl _ _ | with_reducible refine Below.alloc ?_ (by simp <;> omega) _ | with_reducible refine Below.drew ?_ | with_reducible refine below_drewN ?_ _))).u VA3w.out.2)).mono ?_
  rintro e w14 ⟨rfl, hb14⟩
  have HB14 : Hid (Below w13.heap.size w13 w14) := Below.trans (by repeat (first | with_reducible exact Below.refl _ _ | with_reducible refine Below.alloc ?_ (by simp <;> omega) _ | with_reducible refine Below.drew ?_ | with_reducible refine below_drewN ?_ _)) (hb14.out.mono (by simp <;> omega))
  have Z14 : Hid (w13.heap.size + 0 ≤ w14.heap.size) := by have h := hb14.out.size; (try simp at h); show _ ≤ _; omega
  replace OXA1 := uhide (OXA1.out.below HB14.out)
  replace OXA2 := uhide (OXA2.out.below HB14.out)
  replace OXA3 := uhide (OXA3.out.below HB14.out)
  replace XA1 := uhide (XA1.out.below HB14.out)
  replace XA2 := uhide (XA2.out.below HB14.out)
  replace XA3 := uhide (XA3.out.below HB14.out)
  replace VA3 := uhide (VA3.out.below HB14.out)
  have B14 : Hid (Below w.heap.size w w14) := B13.out.trans (HB14.out.mono B13.out.size)
  clear hb14 HB14
  go_wp2
  go_ret
  exact ⟨rfl, by repeat (first | with_reducible exact B14.out | with_reducible refine Below.drew ?_ | with_reducible refine below_drewN ?_ _)⟩
set_option maxRecDepth 100000 in
theorem lifted (os : Os) (started : os.Started) (H : Type) (enc : TypeId × Value → H) :
    ReturnsInHanded {} Try.checked os 7 .any (Rows.fnExactFairOkSpec.pre6 enc Try.prog Try.f7 Rows.fnExactFairOkRow.domain false) (Rows.fnExactFairOkSpec.post enc Try.prog Try.f7 false true false false) := by
  refine returnsInHanded_of_change (C := Try.checked) own started (by kernel_rfl) Try.func7
    (ChangeSpec.witness6 (enc := enc) (C := Try.checked) false ⟨#[], #[.int .i64 0, .slice none 0 0, .slice none 0 0, .slice none 0 0], []⟩ 12 (by kernel_rfl) (by kernel_rfl) (by kernel_rfl) (by kernel_rfl)) ?_
  intro W base args ds gs before hval0 hW hcnd _
  have hval : ∀ (j : Nat) t v, Try.f7.params[j]? = some t → args[j]? = some v → Value.okWide Try.prog W .any base t v := hval0
  have hW' := hW
  obtain ⟨p, q, hA0, hV, rfl, hfz, hnd⟩ := hW
  have hA : DataW.TrodAll enc Try.prog W 0 (fun _ => true) true Try.f7.params.toList args.toList ds p := hA0
  rw [Try.params7] at hA hval
  obtain ⟨v0, vs0, d0, ds0, p0, q0, hargs, rfl, rfl, h0, r0⟩ := trodAll_cons hA
  obtain ⟨v1, vs1, d1, ds1, p1, q1, rfl, rfl, rfl, h1, r1⟩ := trodAll_cons r0
  obtain ⟨v2, vs2, d2, ds2, p2, q2, rfl, rfl, rfl, h2, r2⟩ := trodAll_cons r1
  obtain ⟨v3, vs3, d3, ds3, p3, q3, rfl, rfl, rfl, h3, r3⟩ := trodAll_cons r2
  obtain ⟨rfl, rfl, rfl⟩ := trodAll_nil r3
  obtain rfl : args = #[v0, v1, v2, v3] := by cases args; simp_all
  obtain ⟨rfl, rfl⟩ := trodVars_none hV
  obtain ⟨n0, rfl, rfl, rfl, w0⟩ := open_int Try.underlying3 (hval 0 3 v0 rfl rfl) h0
  have wi0 : inK .i64 n0 := by have h := Go.Joins.in64_of_wf w0; unfold Go.Joins.In64 at h; exact ⟨by omega, by omega⟩
  obtain ⟨a1, len1, cap1, rfl⟩ := okWide_slice Try.underlying24 (hval 1 24 v1 rfl rfl)
  have k1 := h1
  have lt1 : ∀ x ∈ p1, x.block < W.heap.size := by obtain ⟨m, hm⟩ := k1; exact DataW.trod_lt m _ _ _ hm
  obtain ⟨fuel1, hf1⟩ := h1
  obtain ⟨dd1, hd1, hh1⟩ := openU (enc := enc) flatU fuel1 24 [.l 1 1] (Flat.slice 1 Try.underlying24 (by simp [GU]) (by kernel_rfl) (by decide)) [.slice a1 len1 cap1] _ rfl (by simpa [Value.cells] using hf1)
  obtain ⟨n1, ee1, rr1, rfl, ht1, hr1⟩ := tyL.l hd1
  obtain rfl := tyL.nil hr1
  obtain ⟨c1, ys1, hc1, hs1, -⟩ := hh1
  obtain ⟨rfl, -⟩ := List.cons.inj hc1
  obtain ⟨a2, len2, cap2, rfl⟩ := okWide_slice Try.underlying24 (hval 2 24 v2 rfl rfl)
  have k2 := h2
  have lt2 : ∀ x ∈ p2, x.block < W.heap.size := by obtain ⟨m, hm⟩ := k2; exact DataW.trod_lt m _ _ _ hm
  obtain ⟨fuel2, hf2⟩ := h2
  obtain ⟨dd2, hd2, hh2⟩ := openU (enc := enc) flatU fuel2 24 [.l 1 1] (Flat.slice 1 Try.underlying24 (by simp [GU]) (by kernel_rfl) (by decide)) [.slice a2 len2 cap2] _ rfl (by simpa [Value.cells] using hf2)
  obtain ⟨n2, ee2, rr2, rfl, ht2, hr2⟩ := tyL.l hd2
  obtain rfl := tyL.nil hr2
  obtain ⟨c2, ys2, hc2, hs2, -⟩ := hh2
  obtain ⟨rfl, -⟩ := List.cons.inj hc2
  obtain ⟨a3, len3, cap3, rfl⟩ := okWide_slice Try.underlying24 (hval 3 24 v3 rfl rfl)
  have k3 := h3
  have lt3 : ∀ x ∈ p3, x.block < W.heap.size := by obtain ⟨m, hm⟩ := k3; exact DataW.trod_lt m _ _ _ hm
  obtain ⟨fuel3, hf3⟩ := h3
  obtain ⟨dd3, hd3, hh3⟩ := openU (enc := enc) flatU fuel3 24 [.l 1 1] (Flat.slice 1 Try.underlying24 (by simp [GU]) (by kernel_rfl) (by decide)) [.slice a3 len3 cap3] _ rfl (by simpa [Value.cells] using hf3)
  obtain ⟨n3, ee3, rr3, rfl, ht3, hr3⟩ := tyL.l hd3
  obtain rfl := tyL.nil hr3
  obtain ⟨c3, ys3, hc3, hs3, -⟩ := hh3
  obtain ⟨rfl, -⟩ := List.cons.inj hc3
  clear hA0 hval0
  refine (walk n0 n1 ee1 _ n2 ee2 _ n3 ee3 _ W wi0 ht1 hs1 ht2 hs2 ht3 hs3).mono fun e W' ⟨he, bel⟩ => ?_
  subst he
  exact ⟨_, rfl, _, _, _, [], _, [], hW', trodAll_mk1 (shut_bool Try.underlying4 _), (trodAll_cons_mk (shut_int Try.underlying3 w0) (trodAll_cons_mk (Below.trod laidOut (by kernel_rfl) (of_decide_eq_true (by kernel_rfl)) k1 bel lt1) (trodAll_cons_mk (Below.trod laidOut (by kernel_rfl) (of_decide_eq_true (by kernel_rfl)) k2 bel lt2) (trodAll_cons_mk (Below.trod laidOut (by kernel_rfl) (of_decide_eq_true (by kernel_rfl)) k3 bel lt3) trodAll_mk0)))), rfl, bel.frame _, fun h => by cases h⟩
end LFairOk
theorem fairOk_holds : Rows.FnExactFairOkSaid :=
  OpenClaim.holds_of_wide 7 Try.f7 rfl rfl rfl rfl rfl rfl rfl ⟨rfl, rfl, rfl, rfl, rfl⟩ rfl rfl rfl rfl rfl (by kernel_rfl) Try.func7 (by kernel_rfl)
    (of_decide_eq_true (by kernel_rfl)) (by unfold Func.isWrapper; first | (rw [if_pos (by decide +kernel)]; kernel_rfl) | (rw [if_neg (by decide +kernel)]; exact ⟨rfl, rfl⟩))
    (fun os started H enc _ => LFairOk.lifted os started H enc)
#print axioms fairOk_holds
end Go.Proofs.Ytidjjgiecaoboaa
