/- FnExactDivide holds: at any arguments impl.Divide answers what spec.Divide answers. No conditions. -/
import Derived.Test.YtidjjgiecaoboaaRows
import Derived.Test.YtidjjgiecaoboaaDvdI
import Derived.Test.YtidjjgiecaoboaaU3
import Derived.WalkKit
import Derived.ProofKit
import Derived.OpenShut
import Derived.ShutString
import Derived.ChangeOld
import Derived.Below
namespace Go.Proofs.Ytidjjgiecaoboaa
open Go.ChangeShapes Go.WideShapes Go.ChangeAt Go.RowKit Go.BigFrame
open Go.ChangeMaps (open_string shut_string)
set_option linter.unusedVariables false
theorem divide_both (iA0 : Int) (nA1 : Nat) (csA1 : UD) (nA2 : Nat) (csA2 : UD) (hsA0 : inK .i64 iA0) (htA1 : tyS 1 nA1 csA1 1) (hsA1 : nA1 ≤ 1048576) (htA2 : tyS 1 nA2 csA2 1) (hsA2 : nA2 ≤ 1048576) (hw : 0 ≤ 1048576) :
    ∃ (nR0 : Nat) (csR0 : UD), tyS 1 nR0 csR0 1 ∧ cnt csR0 ≤ 50000000 ∧ (∀ (w : World) (loA1 hiA1 : Nat) (cA1 : Value) (loA2 hiA2 : Nat) (cA2 : Value), uS w loA1 hiA1 1 nA1 csA1 cA1 → uS w loA2 hiA2 1 nA2 csA2 cA2 → Calls Try.prog 17 #[.int .i64 iA0, cA1, cA2] w fun e w' => ∃ (cR0 : Value), e = .returned (cR0) ∧ uS w' 0 w'.heap.size 1 nR0 csR0 cR0 ∧ Below w.heap.size w w') ∧
    (∀ (w : World) (loA1 hiA1 : Nat) (cA1 : Value) (loA2 hiA2 : Nat) (cA2 : Value), uS w loA1 hiA1 1 nA1 csA1 cA1 → uS w loA2 hiA2 1 nA2 csA2 cA2 → Calls Try.prog 10 #[.int .i64 iA0, cA1, cA2] w fun e w' => ∃ (cR0 : Value) (SR0 : List Nat), e = .returned (cR0) ∧ oS w' 1 nR0 csR0 cR0 SR0 ∧ own2 SR0 w.heap.size w'.heap.size ∧ Below w.heap.size w w') := by
  obtain ⟨z, hz⟩ : ∃ z : List Int, (¬ rightP iA0 (intL csA1) (intL csA2) → z = []) ∧ (rightP iA0 (intL csA1) (intL csA2) → z = divL iA0 (intL csA1) (intL csA2)) := by
    by_cases h : rightP iA0 (intL csA1) (intL csA2)
    · exact ⟨_, fun h' => (h' h).elim, fun _ => rfl⟩
    · exact ⟨_, fun _ => rfl, fun h' => (h h').elim⟩
  obtain ⟨hzk, hzl⟩ := div_small hz
  exact ⟨z.length, ofInts z, ofInts_tyS hzk (by unfold maxLen; omega), by rw [cnt_ofInts]; omega, fun w lo hi c lo' hi' c' h1 h2 => sDivide_any iA0 nA1 nA2 csA1 csA2 c c' lo hi lo' hi' w htA1 htA2 h1 h2 z hz, fun w lo hi c lo' hi' c' h1 h2 => iDivide_any iA0 nA1 nA2 csA1 csA2 c c' lo hi lo' hi' w hsA0 htA1 htA2 h1 h2 z hz⟩
namespace LDivide
theorem laidOut : laidOutB Try.prog = true := by kernel_rfl
theorem own : ownKnob Try.prog.godebug = none := by kernel_rfl
def TYU : Nat → TypeId
  | 1 => 3
  | _ => 0
def GU (n : Nat) : Prop := n = 1
theorem flatU : ∀ n, GU n → Flat Try.prog TYU GU (TYU n) (uE n) := by
  intro n h
  unfold GU at h
  rcases h with rfl
  · exact (Flat.i64 Try.underlying3)
set_option maxRecDepth 20000 in
set_option maxHeartbeats 3200000 in
theorem walk (iA0 : Int) (nA1 : Nat) (csA1 : UD) (cA1 : Value) (nA2 : Nat) (csA2 : UD) (cA2 : Value) (w : World) (hsA0 : inK .i64 iA0) (htA1 : tyS 1 nA1 csA1 1) (hxA1 : uS w 0 w.heap.size 1 nA1 csA1 cA1) (htA2 : tyS 1 nA2 csA2 1) (hxA2 : uS w 0 w.heap.size 1 nA2 csA2 cA2) :
    Calls Try.prog 5 #[.int .i64 iA0, cA1, cA2] w fun e w' => e = .returned (.bool true) ∧ Below w.heap.size w w' := by
  obtain ⟨aA1, pA1, rfl, hx2A1⟩ := hxA1
  have OXA1 : Hid (uS w 0 w.heap.size 1 nA1 csA1 (.slice aA1 nA1 pA1)) := ⟨_, _, rfl, hx2A1⟩
  have HtA1 := uhide htA1
  clear hx2A1
  obtain ⟨aA2, pA2, rfl, hx2A2⟩ := hxA2
  have OXA2 : Hid (uS w 0 w.heap.size 1 nA2 csA2 (.slice aA2 nA2 pA2)) := ⟨_, _, rfl, hx2A2⟩
  have HtA2 := uhide htA2
  clear hx2A2
  by_cases hbA1 : (1048576 : Int) < (nA1 : Int)
  · go_enter Try.func5, Try.ntmps5
    go_wp2
    go_ret
    exact ⟨rfl, by repeat (first | exact Below.refl _ _ | refine Below.alloc ?_ (by simp <;> omega) _)⟩
  by_cases hbA2 : (1048576 : Int) < (nA2 : Int)
  · go_enter Try.func5, Try.ntmps5
    go_wp2
    go_ret
    exact ⟨rfl, by repeat (first | exact Below.refl _ _ | refine Below.alloc ?_ (by simp <;> omega) _)⟩
  obtain ⟨nR0, csR0, hrR0, hcR0, HSP, HIM⟩ := divide_both iA0 nA1 csA1 nA2 csA2 hsA0 HtA1.out (by omega) HtA2.out (by omega) (by omega)
  replace HSP := uhide HSP
  replace HIM := uhide HIM
  have HrR0 := uhide hrR0
  clear hrR0
  have HSQ : Hid (∀ (wx : World) (loA1 hiA1 : Nat) (cA1 : Value) (loA2 hiA2 : Nat) (cA2 : Value), uS wx loA1 hiA1 1 nA1 csA1 cA1 → uS wx loA2 hiA2 1 nA2 csA2 cA2 → Calls Try.prog 17 #[.int .i64 iA0, cA1, cA2] wx fun e w' => ∃ aR0 pR0, e = .returned (.slice aR0 nR0 pR0) ∧ Hid (uS w' 0 w'.heap.size 1 nR0 csR0 (.slice aR0 nR0 pR0)) ∧ Hid (Below wx.heap.size wx w')) := fun wx loA1 hiA1 cA1 loA2 hiA2 cA2 hA1 hA2 => (HSP.out _ _ _ _ _ _ _ hA1 hA2).mono fun e w' ⟨cR0, h1, kR0, hb⟩ => by
    obtain ⟨aR0, pR0, rfl⟩ := (show ∃ a p, cR0 = .slice a nR0 p from by obtain ⟨a, p, h, _⟩ := kR0; exact ⟨a, p, h⟩)
    exact ⟨aR0, pR0, h1, kR0, hb⟩
  have HIQ : Hid (∀ (wx : World) (loA1 hiA1 : Nat) (cA1 : Value) (loA2 hiA2 : Nat) (cA2 : Value), uS wx loA1 hiA1 1 nA1 csA1 cA1 → uS wx loA2 hiA2 1 nA2 csA2 cA2 → Calls Try.prog 10 #[.int .i64 iA0, cA1, cA2] wx fun e w' => ∃ aR0 pR0 SR0, e = .returned (.slice aR0 nR0 pR0) ∧ Hid (oS w' 1 nR0 csR0 (.slice aR0 nR0 pR0) SR0) ∧ Hid (own2 SR0 wx.heap.size w'.heap.size) ∧ Hid (Below wx.heap.size wx w')) := fun wx loA1 hiA1 cA1 loA2 hiA2 cA2 hA1 hA2 => (HIM.out _ _ _ _ _ _ _ hA1 hA2).mono fun e w' ⟨cR0, SR0, h1, kR0, oR0, hb⟩ => by
    obtain ⟨aR0, pR0, rfl⟩ := kR0.slice
    exact ⟨aR0, pR0, SR0, h1, kR0, oR0, hb⟩
  clear HSP HIM
  have hctA1 : cnt csA1 ≤ 42000000 := by rw [cnt_int HtA1.out]; omega
  have hctA2 : cnt csA2 ≤ 42000000 := by rw [cnt_int HtA2.out]; omega
  have hctR0 : cnt csR0 ≤ 50000000 := by exact hcR0
  have HtoA1 : Hid (∀ wx, Below w.heap.size w wx → Calls Try.prog 18 #[.slice aA1 nA1 pA1] wx fun e w' => ∃ aA1r pA1r S, e = .returned (.slice aA1r nA1 pA1r) ∧ Hid (oS w' 1 nA1 csA1 (.slice aA1r nA1 pA1r) S) ∧ Hid (own2 S wx.heap.size w'.heap.size) ∧ Hid (Below wx.heap.size wx w')) := fun wx hb => (utoIntS_any (lo := 0) (hi := w.heap.size) nA1 csA1 _ wx HtA1.out (by omega) (OXA1.out.below hb)).mono fun e w' ⟨c, S, h1, h2, h3, h4, h5⟩ => by
    obtain ⟨a, p, rfl⟩ := h2.slice
    exact ⟨a, p, S, h1, h2, ⟨h3, fun s hs => ⟨h4 s hs, h2.lt s hs⟩⟩, h5⟩
  have HtoA2 : Hid (∀ wx, Below w.heap.size w wx → Calls Try.prog 18 #[.slice aA2 nA2 pA2] wx fun e w' => ∃ aA2r pA2r S, e = .returned (.slice aA2r nA2 pA2r) ∧ Hid (oS w' 1 nA2 csA2 (.slice aA2r nA2 pA2r) S) ∧ Hid (own2 S wx.heap.size w'.heap.size) ∧ Hid (Below wx.heap.size wx w')) := fun wx hb => (utoIntS_any (lo := 0) (hi := w.heap.size) nA2 csA2 _ wx HtA2.out (by omega) (OXA2.out.below hb)).mono fun e w' ⟨c, S, h1, h2, h3, h4, h5⟩ => by
    obtain ⟨a, p, rfl⟩ := h2.slice
    exact ⟨a, p, S, h1, h2, ⟨h3, fun s hs => ⟨h4 s hs, h2.lt s hs⟩⟩, h5⟩
  have HeqA1 : Hid (∀ (wx : World) (lo hi lo' hi' : Nat) (y y' : Value), uS wx lo hi 1 nA1 csA1 y → uS wx lo' hi' 1 nA1 csA1 y' → Calls Try.prog 19 #[y, y'] wx fun e w' => e = .returned (.bool true) ∧ Hid (Below wx.heap.size wx w')) := fun wx lo hi lo' hi' y y' h1 h2 => ueqIntS_any (lo := lo) (hi := hi) (lo' := lo') (hi' := hi') _ _ _ _ wx HtA1.out h1 h2
  have HeqA2 : Hid (∀ (wx : World) (lo hi lo' hi' : Nat) (y y' : Value), uS wx lo hi 1 nA2 csA2 y → uS wx lo' hi' 1 nA2 csA2 y' → Calls Try.prog 19 #[y, y'] wx fun e w' => e = .returned (.bool true) ∧ Hid (Below wx.heap.size wx w')) := fun wx lo hi lo' hi' y y' h1 h2 => ueqIntS_any (lo := lo) (hi := hi) (lo' := lo') (hi' := hi') _ _ _ _ wx HtA2.out h1 h2
  have HeqR0 : Hid (∀ (wx : World) (lo hi lo' hi' : Nat) (y y' : Value), uS wx lo hi 1 nR0 csR0 y → uS wx lo' hi' 1 nR0 csR0 y' → Calls Try.prog 19 #[y, y'] wx fun e w' => e = .returned (.bool true) ∧ Hid (Below wx.heap.size wx w')) := fun wx lo hi lo' hi' y y' h1 h2 => ueqIntS_any (lo := lo) (hi := hi) (lo' := lo') (hi' := hi') _ _ _ _ wx HrR0.out h1 h2
  have HmkA1 : Hid (∀ (wx : World) (y : Value) (S : List Nat) (x : Int) (lo hi : Nat), oS wx 1 nA1 csA1 y S → own2 S lo hi → x = ((1 : Nat) : Int) → Calls Try.prog 20 #[y, .int .i64 x] wx fun e w' => e = .returned (.int .i64 ((1 + cnt csA1) : Nat)) ∧ OutS S wx w') := fun wx y S x lo hi h hO hx => by
    rw [hx]
    exact (umarkIntS_any nA1 1 csA1 _ S wx HtA1.out hO.1 (by omega) (by omega) h).mono fun e w' h => ⟨h.1, h.2.2⟩
  have HmkA2 : Hid (∀ (wx : World) (y : Value) (S : List Nat) (x : Int) (lo hi : Nat), oS wx 1 nA2 csA2 y S → own2 S lo hi → x = (((1 + cnt csA1) : Nat) : Int) → Calls Try.prog 20 #[y, .int .i64 x] wx fun e w' => e = .returned (.int .i64 (((1 + cnt csA1) + cnt csA2) : Nat)) ∧ OutS S wx w') := fun wx y S x lo hi h hO hx => by
    rw [hx]
    exact (umarkIntS_any nA2 (1 + cnt csA1) csA2 _ S wx HtA2.out hO.1 (by omega) (by omega) h).mono fun e w' h => ⟨h.1, h.2.2⟩
  have HmkR0 : Hid (∀ (wx : World) (y : Value) (S : List Nat) (x : Int) (lo hi : Nat), oS wx 1 nR0 csR0 y S → own2 S lo hi → x = ((1 : Nat) : Int) → Calls Try.prog 20 #[y, .int .i64 x] wx fun e w' => e = .returned (.int .i64 ((1 + cnt csR0) : Nat)) ∧ oS w' 1 nR0 (mk csR0 1) y S ∧ OutS S wx w') := fun wx y S x lo hi h hO hx => by
    rw [hx]
    exact umarkIntS_any nR0 1 csR0 _ S wx HrR0.out hO.1 (by omega) (by omega) h
  have HhdR0 : Hid (∀ (wx : World) (y : Value) (x : Int) (lo hi : Nat), uS wx lo hi 1 nR0 (mk csR0 1) y → x = ((1 : Nat) : Int) → Calls Try.prog 21 #[y, .int .i64 x] wx fun e w' => e = .returned (.int .i64 ((1 + cnt csR0) : Nat)) ∧ Hid (Below wx.heap.size wx w')) := fun wx y x lo hi h hx => by
    rw [hx]
    exact uheldIntS_any (lo := lo) (hi := hi) nR0 1 csR0 _ wx HrR0.out (by omega) (by omega) h
  clear htA1 htA2 hcR0
  go_enter Try.func5, Try.ntmps5
  generalize cnt csA1 = mA1 at *
  generalize cnt csA2 = mA2 at *
  generalize cnt csR0 = mR0 at *
  have B0 : Hid (Below w.heap.size w w) := Below.refl _ _
  go_wp2_with fail
  refine (HtoA1.out _ (by repeat (first | with_reducible exact B0.out | with_reducible refine Below.alloc ?_ (by have := B0.out.size; (try simp) <;> omega) _ | with_reducible refine Below.drew ?_ | with_reducible refine below_drewN ?_ _))).mono ?_
  rintro e w1 ⟨aA1y, pA1y, SYA1, rfl, YA1, YA1w, hb1⟩
  have HB1 : Hid (Below w.heap.size w w1) := Below.trans (by repeat (first | with_reducible exact Below.refl _ _ | with_reducible refine Below.alloc ?_ (by simp <;> omega) _ | with_reducible refine Below.drew ?_ | with_reducible refine below_drewN ?_ _)) (hb1.out.mono (by simp <;> omega))
  have Z1 : Hid (w.heap.size + 0 ≤ w1.heap.size) := by have h := hb1.out.size; (try simp at h); show _ ≤ _; omega
  replace YA1w := uhide (YA1w.out.mono (a' := w.heap.size + 0) (by (try simp) <;> omega) (Nat.le_refl _))
  replace OXA1 := uhide (OXA1.out.below HB1.out)
  replace OXA2 := uhide (OXA2.out.below HB1.out)
  have B1 : Hid (Below w.heap.size w w1) := B0.out.trans (HB1.out.mono B0.out.size)
  clear hb1 HB1
  go_wp2_with fail
  refine (HtoA2.out _ (by repeat (first | with_reducible exact B1.out | with_reducible refine Below.alloc ?_ (by have := B1.out.size; (try simp) <;> omega) _ | with_reducible refine Below.drew ?_ | with_reducible refine below_drewN ?_ _))).mono ?_
  rintro e w2 ⟨aA2y, pA2y, SYA2, rfl, YA2, YA2w, hb2⟩
  have HB2 : Hid (Below w1.heap.size w1 w2) := Below.trans (by repeat (first | with_reducible exact Below.refl _ _ | with_reducible refine Below.alloc ?_ (by simp <;> omega) _ | with_reducible refine Below.drew ?_ | with_reducible refine below_drewN ?_ _)) (hb2.out.mono (by simp <;> omega))
  have Z2 : Hid (w1.heap.size + 0 ≤ w2.heap.size) := by have h := hb2.out.size; (try simp at h); show _ ≤ _; omega
  replace YA2w := uhide (YA2w.out.mono (a' := w1.heap.size + 0) (by (try simp) <;> omega) (Nat.le_refl _))
  replace OXA1 := uhide (OXA1.out.below HB2.out)
  replace OXA2 := uhide (OXA2.out.below HB2.out)
  replace YA1 := uhide (YA1.out.below HB2.out)
  have B2 : Hid (Below w.heap.size w w2) := B1.out.trans (HB2.out.mono B1.out.size)
  clear hb2 HB2
  go_wp2_with fail
  refine (HSQ.out _ _ _ _ _ _ _ ((YA1.out.below (by repeat (first | with_reducible exact Below.refl _ _ | with_reducible refine Below.alloc ?_ (by simp <;> omega) _ | with_reducible refine Below.drew ?_ | with_reducible refine below_drewN ?_ _))).u YA1w.out.2) ((YA2.out.below (by repeat (first | with_reducible exact Below.refl _ _ | with_reducible refine Below.alloc ?_ (by simp <;> omega) _ | with_reducible refine Below.drew ?_ | with_reducible refine below_drewN ?_ _))).u YA2w.out.2)).mono ?_
  rintro e w3 ⟨aR0w, pR0w, rfl, WR0, hb3⟩
  have HB3 : Hid (Below w2.heap.size w2 w3) := Below.trans (by repeat (first | with_reducible exact Below.refl _ _ | with_reducible refine Below.alloc ?_ (by simp <;> omega) _ | with_reducible refine Below.drew ?_ | with_reducible refine below_drewN ?_ _)) (hb3.out.mono (by simp <;> omega))
  have Z3 : Hid (w2.heap.size + 0 ≤ w3.heap.size) := by have h := hb3.out.size; (try simp at h); show _ ≤ _; omega
  replace OXA1 := uhide (OXA1.out.below HB3.out)
  replace OXA2 := uhide (OXA2.out.below HB3.out)
  replace YA1 := uhide (YA1.out.below HB3.out)
  replace YA2 := uhide (YA2.out.below HB3.out)
  have B3 : Hid (Below w.heap.size w w3) := B2.out.trans (HB3.out.mono B2.out.size)
  clear hb3 HB3
  clear YA1 YA1w YA2 YA2w
  go_wp2_with fail
  refine (HtoA1.out _ (by repeat (first | with_reducible exact B3.out | with_reducible refine Below.alloc ?_ (by have := B3.out.size; (try simp) <;> omega) _ | with_reducible refine Below.drew ?_ | with_reducible refine below_drewN ?_ _))).mono ?_
  rintro e w4 ⟨aA1x, pA1x, SXA1, rfl, XA1, XA1w, hb4⟩
  have HB4 : Hid (Below w3.heap.size w3 w4) := Below.trans (by repeat (first | with_reducible exact Below.refl _ _ | with_reducible refine Below.alloc ?_ (by simp <;> omega) _ | with_reducible refine Below.drew ?_ | with_reducible refine below_drewN ?_ _)) (hb4.out.mono (by simp <;> omega))
  have Z4 : Hid (w3.heap.size + 0 ≤ w4.heap.size) := by have h := hb4.out.size; (try simp at h); show _ ≤ _; omega
  replace XA1w := uhide (XA1w.out.mono (a' := w3.heap.size + 0) (by (try simp) <;> omega) (Nat.le_refl _))
  replace OXA1 := uhide (OXA1.out.below HB4.out)
  replace OXA2 := uhide (OXA2.out.below HB4.out)
  replace WR0 := uhide (WR0.out.below HB4.out)
  have B4 : Hid (Below w.heap.size w w4) := B3.out.trans (HB4.out.mono B3.out.size)
  clear hb4 HB4
  go_wp2_with fail
  refine (HtoA2.out _ (by repeat (first | with_reducible exact B4.out | with_reducible refine Below.alloc ?_ (by have := B4.out.size; (try simp) <;> omega) _ | with_reducible refine Below.drew ?_ | with_reducible refine below_drewN ?_ _))).mono ?_
  rintro e w5 ⟨aA2x, pA2x, SXA2, rfl, XA2, XA2w, hb5⟩
  have HB5 : Hid (Below w4.heap.size w4 w5) := Below.trans (by repeat (first | with_reducible exact Below.refl _ _ | with_reducible refine Below.alloc ?_ (by simp <;> omega) _ | with_reducible refine Below.drew ?_ | with_reducible refine below_drewN ?_ _)) (hb5.out.mono (by simp <;> omega))
  have Z5 : Hid (w4.heap.size + 0 ≤ w5.heap.size) := by have h := hb5.out.size; (try simp at h); show _ ≤ _; omega
  replace XA2w := uhide (XA2w.out.mono (a' := w4.heap.size + 0) (by (try simp) <;> omega) (Nat.le_refl _))
  replace OXA1 := uhide (OXA1.out.below HB5.out)
  replace OXA2 := uhide (OXA2.out.below HB5.out)
  replace WR0 := uhide (WR0.out.below HB5.out)
  replace XA1 := uhide (XA1.out.below HB5.out)
  have B5 : Hid (Below w.heap.size w w5) := B4.out.trans (HB5.out.mono B4.out.size)
  clear hb5 HB5
  go_wp2_with fail
  refine (HIQ.out _ _ _ _ _ _ _ ((XA1.out.below (by repeat (first | with_reducible exact Below.refl _ _ | with_reducible refine Below.alloc ?_ (by simp <;> omega) _ | with_reducible refine Below.drew ?_ | with_reducible refine below_drewN ?_ _))).u XA1w.out.2) ((XA2.out.below (by repeat (first | with_reducible exact Below.refl _ _ | with_reducible refine Below.alloc ?_ (by simp <;> omega) _ | with_reducible refine Below.drew ?_ | with_reducible refine below_drewN ?_ _))).u XA2w.out.2)).mono ?_
  rintro e w6 ⟨aR0g, pR0g, SR0g, rfl, GR0, GR0w, hb6⟩
  have HB6 : Hid (Below w5.heap.size w5 w6) := Below.trans (by repeat (first | with_reducible exact Below.refl _ _ | with_reducible refine Below.alloc ?_ (by simp <;> omega) _ | with_reducible refine Below.drew ?_ | with_reducible refine below_drewN ?_ _)) (hb6.out.mono (by simp <;> omega))
  have Z6 : Hid (w5.heap.size + 0 ≤ w6.heap.size) := by have h := hb6.out.size; (try simp at h); show _ ≤ _; omega
  replace GR0w := uhide (GR0w.out.mono (a' := w5.heap.size + 0) (by (try simp) <;> omega) (Nat.le_refl _))
  replace OXA1 := uhide (OXA1.out.below HB6.out)
  replace OXA2 := uhide (OXA2.out.below HB6.out)
  replace WR0 := uhide (WR0.out.below HB6.out)
  replace XA1 := uhide (XA1.out.below HB6.out)
  replace XA2 := uhide (XA2.out.below HB6.out)
  have B6 : Hid (Below w.heap.size w w6) := B5.out.trans (HB6.out.mono B5.out.size)
  clear hb6 HB6
  go_wp2_with fail
  refine (HeqR0.out _ _ _ _ _ _ _ ((GR0.out.below (by repeat (first | with_reducible exact Below.refl _ _ | with_reducible refine Below.alloc ?_ (by simp <;> omega) _ | with_reducible refine Below.drew ?_ | with_reducible refine below_drewN ?_ _))).u GR0w.out.2) (WR0.out.below (by repeat (first | with_reducible exact Below.refl _ _ | with_reducible refine Below.alloc ?_ (by simp <;> omega) _ | with_reducible refine Below.drew ?_ | with_reducible refine below_drewN ?_ _)))).mono ?_
  rintro e w7 ⟨rfl, hb7⟩
  have HB7 : Hid (Below w6.heap.size w6 w7) := Below.trans (by repeat (first | with_reducible exact Below.refl _ _ | with_reducible refine Below.alloc ?_ (by simp <;> omega) _ | with_reducible refine Below.drew ?_ | with_reducible refine below_drewN ?_ _)) (hb7.out.mono (by simp <;> omega))
  have Z7 : Hid (w6.heap.size + 0 ≤ w7.heap.size) := by have h := hb7.out.size; (try simp at h); show _ ≤ _; omega
  replace OXA1 := uhide (OXA1.out.below HB7.out)
  replace OXA2 := uhide (OXA2.out.below HB7.out)
  replace WR0 := uhide (WR0.out.below HB7.out)
  replace XA1 := uhide (XA1.out.below HB7.out)
  replace XA2 := uhide (XA2.out.below HB7.out)
  replace GR0 := uhide (GR0.out.below HB7.out)
  have B7 : Hid (Below w.heap.size w w7) := B6.out.trans (HB7.out.mono B6.out.size)
  clear hb7 HB7
  go_wp2_with fail
  refine (HtoA1.out _ (by repeat (first | with_reducible exact B7.out | with_reducible refine Below.alloc ?_ (by have := B7.out.size; (try simp) <;> omega) _ | with_reducible refine Below.drew ?_ | with_reducible refine below_drewN ?_ _))).mono ?_
  rintro e w8 ⟨aA1v, pA1v, SVA1, rfl, VA1, VA1w, hb8⟩
  have HB8 : Hid (Below w7.heap.size w7 w8) := Below.trans (by repeat (first | with_reducible exact Below.refl _ _ | with_reducible refine Below.alloc ?_ (by simp <;> omega) _ | with_reducible refine Below.drew ?_ | with_reducible refine below_drewN ?_ _)) (hb8.out.mono (by simp <;> omega))
  have Z8 : Hid (w7.heap.size + 0 ≤ w8.heap.size) := by have h := hb8.out.size; (try simp at h); show _ ≤ _; omega
  replace VA1w := uhide (VA1w.out.mono (a' := w7.heap.size + 0) (by (try simp) <;> omega) (Nat.le_refl _))
  replace OXA1 := uhide (OXA1.out.below HB8.out)
  replace OXA2 := uhide (OXA2.out.below HB8.out)
  replace WR0 := uhide (WR0.out.below HB8.out)
  replace XA1 := uhide (XA1.out.below HB8.out)
  replace XA2 := uhide (XA2.out.below HB8.out)
  replace GR0 := uhide (GR0.out.below HB8.out)
  have B8 : Hid (Below w.heap.size w w8) := B7.out.trans (HB8.out.mono B7.out.size)
  clear hb8 HB8
  go_wp2_with fail
  refine (HeqA1.out _ _ _ _ _ _ _ ((XA1.out.below (by repeat (first | with_reducible exact Below.refl _ _ | with_reducible refine Below.alloc ?_ (by simp <;> omega) _ | with_reducible refine Below.drew ?_ | with_reducible refine below_drewN ?_ _))).u XA1w.out.2) ((VA1.out.below (by repeat (first | with_reducible exact Below.refl _ _ | with_reducible refine Below.alloc ?_ (by simp <;> omega) _ | with_reducible refine Below.drew ?_ | with_reducible refine below_drewN ?_ _))).u VA1w.out.2)).mono ?_
  rintro e w9 ⟨rfl, hb9⟩
  have HB9 : Hid (Below w8.heap.size w8 w9) := Below.trans (by repeat (first | with_reducible exact Below.refl _ _ | with_reducible refine Below.alloc ?_ (by simp <;> omega) _ | with_reducible refine Below.drew ?_ | with_reducible refine below_drewN ?_ _)) (hb9.out.mono (by simp <;> omega))
  have Z9 : Hid (w8.heap.size + 0 ≤ w9.heap.size) := by have h := hb9.out.size; (try simp at h); show _ ≤ _; omega
  replace OXA1 := uhide (OXA1.out.below HB9.out)
  replace OXA2 := uhide (OXA2.out.below HB9.out)
  replace WR0 := uhide (WR0.out.below HB9.out)
  replace XA1 := uhide (XA1.out.below HB9.out)
  replace XA2 := uhide (XA2.out.below HB9.out)
  replace GR0 := uhide (GR0.out.below HB9.out)
  replace VA1 := uhide (VA1.out.below HB9.out)
  have B9 : Hid (Below w.heap.size w w9) := B8.out.trans (HB9.out.mono B8.out.size)
  clear hb9 HB9
  go_wp2_with fail
  refine (HtoA2.out _ (by repeat (first | with_reducible exact B9.out | with_reducible refine Below.alloc ?_ (by have := B9.out.size; (try simp) <;> omega) _ | with_reducible refine Below.drew ?_ | with_reducible refine below_drewN ?_ _))).mono ?_
  rintro e w10 ⟨aA2v, pA2v, SVA2, rfl, VA2, VA2w, hb10⟩
  have HB10 : Hid (Below w9.heap.size w9 w10) := Below.trans (by repeat (first | with_reducible exact Below.refl _ _ | with_reducible refine Below.alloc ?_ (by simp <;> omega) _ | with_reducible refine Below.drew ?_ | with_reducible refine below_drewN ?_ _)) (hb10.out.mono (by simp <;> omega))
  have Z10 : Hid (w9.heap.size + 0 ≤ w10.heap.size) := by have h := hb10.out.size; (try simp at h); show _ ≤ _; omega
  replace VA2w := uhide (VA2w.out.mono (a' := w9.heap.size + 0) (by (try simp) <;> omega) (Nat.le_refl _))
  replace OXA1 := uhide (OXA1.out.below HB10.out)
  replace OXA2 := uhide (OXA2.out.below HB10.out)
  replace WR0 := uhide (WR0.out.below HB10.out)
  replace XA1 := uhide (XA1.out.below HB10.out)
  replace XA2 := uhide (XA2.out.below HB10.out)
  replace GR0 := uhide (GR0.out.below HB10.out)
  have B10 : Hid (Below w.heap.size w w10) := B9.out.trans (HB10.out.mono B9.out.size)
  clear hb10 HB10
  go_wp2_with fail
  refine (HeqA2.out _ _ _ _ _ _ _ ((XA2.out.below (by repeat (first | with_reducible exact Below.refl _ _ | with_reducible refine Below.alloc ?_ (by simp <;> omega) _ | with_reducible refine Below.drew ?_ | with_reducible refine below_drewN ?_ _))).u XA2w.out.2) ((VA2.out.below (by repeat (first | with_reducible exact Below.refl _ _ | with_reducible refine Below.alloc ?_ (by simp <;> omega) _ | with_reducible refine Below.drew ?_ | with_reducible refine below_drewN ?_ _))).u VA2w.out.2)).mono ?_
  rintro e w11 ⟨rfl, hb11⟩
  have HB11 : Hid (Below w10.heap.size w10 w11) := Below.trans (by repeat (first | with_reducible exact Below.refl _ _ | with_reducible refine Below.alloc ?_ (by simp <;> omega) _ | with_reducible refine Below.drew ?_ | with_reducible refine below_drewN ?_ _)) (hb11.out.mono (by simp <;> omega))
  have Z11 : Hid (w10.heap.size + 0 ≤ w11.heap.size) := by have h := hb11.out.size; (try simp at h); show _ ≤ _; omega
  replace OXA1 := uhide (OXA1.out.below HB11.out)
  replace OXA2 := uhide (OXA2.out.below HB11.out)
  replace WR0 := uhide (WR0.out.below HB11.out)
  replace XA1 := uhide (XA1.out.below HB11.out)
  replace XA2 := uhide (XA2.out.below HB11.out)
  replace GR0 := uhide (GR0.out.below HB11.out)
  replace VA2 := uhide (VA2.out.below HB11.out)
  have B11 : Hid (Below w.heap.size w w11) := B10.out.trans (HB11.out.mono B10.out.size)
  clear hb11 HB11
  go_wp2_with fail
  refine (HmkA1.out _ _ _ _ _ _ XA1.out XA1w.out (by omega)).mono ?_
  rintro e w12 ⟨rfl, ho12⟩
  replace OXA1 := uhide (OXA1.out.out (XA1w.out.out ho12) (by have := Z1.out; have := Z2.out; have := Z3.out; have := Z4.out; have := Z5.out; have := Z6.out; have := Z7.out; have := Z8.out; have := Z9.out; have := Z10.out; have := Z11.out; omega))
  replace OXA2 := uhide (OXA2.out.out (XA1w.out.out ho12) (by have := Z1.out; have := Z2.out; have := Z3.out; have := Z4.out; have := Z5.out; have := Z6.out; have := Z7.out; have := Z8.out; have := Z9.out; have := Z10.out; have := Z11.out; omega))
  replace WR0 := uhide (WR0.out.out (XA1w.out.out ho12) (by have := Z1.out; have := Z2.out; have := Z3.out; have := Z4.out; have := Z5.out; have := Z6.out; have := Z7.out; have := Z8.out; have := Z9.out; have := Z10.out; have := Z11.out; omega))
  replace XA2 := uhide (XA2.out.outs ho12 XA2w.out (fun x hx => by have := XA1w.out.2 x hx; have := Z1.out; have := Z2.out; have := Z3.out; have := Z4.out; have := Z5.out; have := Z6.out; have := Z7.out; have := Z8.out; have := Z9.out; have := Z10.out; have := Z11.out; omega))
  replace GR0 := uhide (GR0.out.outs ho12 GR0w.out (fun x hx => by have := XA1w.out.2 x hx; have := Z1.out; have := Z2.out; have := Z3.out; have := Z4.out; have := Z5.out; have := Z6.out; have := Z7.out; have := Z8.out; have := Z9.out; have := Z10.out; have := Z11.out; omega))
  have Z12 : Hid (w11.heap.size + 0 ≤ w12.heap.size) := ho12.size
  have B12 : Hid (Below w.heap.size w w12) := B11.out.trans (XA1w.out.below ho12 (by have := B0.out.size; have := Z1.out; have := Z2.out; have := Z3.out; have := Z4.out; have := Z5.out; have := Z6.out; have := Z7.out; have := Z8.out; have := Z9.out; have := Z10.out; have := Z11.out; omega) B11.out.size)
  clear ho12
  go_wp2_with fail
  refine (HmkA2.out _ _ _ _ _ _ XA2.out XA2w.out (by omega)).mono ?_
  rintro e w13 ⟨rfl, ho13⟩
  replace OXA1 := uhide (OXA1.out.out (XA2w.out.out ho13) (by have := Z1.out; have := Z2.out; have := Z3.out; have := Z4.out; have := Z5.out; have := Z6.out; have := Z7.out; have := Z8.out; have := Z9.out; have := Z10.out; have := Z11.out; have := Z12.out; omega))
  replace OXA2 := uhide (OXA2.out.out (XA2w.out.out ho13) (by have := Z1.out; have := Z2.out; have := Z3.out; have := Z4.out; have := Z5.out; have := Z6.out; have := Z7.out; have := Z8.out; have := Z9.out; have := Z10.out; have := Z11.out; have := Z12.out; omega))
  replace WR0 := uhide (WR0.out.out (XA2w.out.out ho13) (by have := Z1.out; have := Z2.out; have := Z3.out; have := Z4.out; have := Z5.out; have := Z6.out; have := Z7.out; have := Z8.out; have := Z9.out; have := Z10.out; have := Z11.out; have := Z12.out; omega))
  replace GR0 := uhide (GR0.out.outs ho13 GR0w.out (fun x hx => by have := XA2w.out.2 x hx; have := Z1.out; have := Z2.out; have := Z3.out; have := Z4.out; have := Z5.out; have := Z6.out; have := Z7.out; have := Z8.out; have := Z9.out; have := Z10.out; have := Z11.out; have := Z12.out; omega))
  have Z13 : Hid (w12.heap.size + 0 ≤ w13.heap.size) := ho13.size
  have B13 : Hid (Below w.heap.size w w13) := B12.out.trans (XA2w.out.below ho13 (by have := B0.out.size; have := Z1.out; have := Z2.out; have := Z3.out; have := Z4.out; have := Z5.out; have := Z6.out; have := Z7.out; have := Z8.out; have := Z9.out; have := Z10.out; have := Z11.out; have := Z12.out; omega) B12.out.size)
  clear ho13
  have hk0 : ¬ (((((1 + mA1) + mA2) : Nat) : Int) < 0) := by omega
  go_wp2_with fail
  refine (HeqR0.out _ _ _ _ _ _ _ ((GR0.out.below (by repeat (first | with_reducible exact Below.refl _ _ | with_reducible refine Below.alloc ?_ (by simp <;> omega) _ | with_reducible refine Below.drew ?_ | with_reducible refine below_drewN ?_ _))).u GR0w.out.2) (WR0.out.below (by repeat (first | with_reducible exact Below.refl _ _ | with_reducible refine Below.alloc ?_ (by simp <;> omega) _ | with_reducible refine Below.drew ?_ | with_reducible refine below_drewN ?_ _)))).mono ?_
  rintro e w14 ⟨rfl, hb14⟩
  have HB14 : Hid (Below w13.heap.size w13 w14) := Below.trans (by repeat (first | with_reducible exact Below.refl _ _ | with_reducible refine Below.alloc ?_ (by simp <;> omega) _ | with_reducible refine Below.drew ?_ | with_reducible refine below_drewN ?_ _)) (hb14.out.mono (by simp <;> omega))
  have Z14 : Hid (w13.heap.size + 0 ≤ w14.heap.size) := by have h := hb14.out.size; (try simp at h); show _ ≤ _; omega
  replace OXA1 := uhide (OXA1.out.below HB14.out)
  replace OXA2 := uhide (OXA2.out.below HB14.out)
  replace WR0 := uhide (WR0.out.below HB14.out)
  replace GR0 := uhide (GR0.out.below HB14.out)
  have B14 : Hid (Below w.heap.size w w14) := B13.out.trans (HB14.out.mono B13.out.size)
  clear hb14 HB14
  go_wp2_with fail
  refine (HmkR0.out _ _ _ _ _ _ GR0.out GR0w.out (by omega)).mono ?_
  rintro e w15 ⟨rfl, GMR0, ho15⟩
  replace OXA1 := uhide (OXA1.out.out (GR0w.out.out ho15) (by have := Z1.out; have := Z2.out; have := Z3.out; have := Z4.out; have := Z5.out; have := Z6.out; have := Z7.out; have := Z8.out; have := Z9.out; have := Z10.out; have := Z11.out; have := Z12.out; have := Z13.out; have := Z14.out; omega))
  replace OXA2 := uhide (OXA2.out.out (GR0w.out.out ho15) (by have := Z1.out; have := Z2.out; have := Z3.out; have := Z4.out; have := Z5.out; have := Z6.out; have := Z7.out; have := Z8.out; have := Z9.out; have := Z10.out; have := Z11.out; have := Z12.out; have := Z13.out; have := Z14.out; omega))
  replace WR0 := uhide (WR0.out.out (GR0w.out.out ho15) (by have := Z1.out; have := Z2.out; have := Z3.out; have := Z4.out; have := Z5.out; have := Z6.out; have := Z7.out; have := Z8.out; have := Z9.out; have := Z10.out; have := Z11.out; have := Z12.out; have := Z13.out; have := Z14.out; omega))
  have Z15 : Hid (w14.heap.size + 0 ≤ w15.heap.size) := ho15.size
  have B15 : Hid (Below w.heap.size w w15) := B14.out.trans (GR0w.out.below ho15 (by have := B0.out.size; have := Z1.out; have := Z2.out; have := Z3.out; have := Z4.out; have := Z5.out; have := Z6.out; have := Z7.out; have := Z8.out; have := Z9.out; have := Z10.out; have := Z11.out; have := Z12.out; have := Z13.out; have := Z14.out; omega) B14.out.size)
  clear ho15
  replace GMR0 := uhide GMR0
  have GMR0w := GR0w
  have hq0 : ¬ ((((1 + mR0) : Nat) : Int) < 0) := by omega
  have hq1 : (((((1 + mR0) : Nat) : Int)) != ((((1 + mR0) : Nat) : Int))) = false := by simp
  go_wp2_with fail
  refine (HhdR0.out _ _ _ _ _ ((GMR0.out.below (by repeat (first | with_reducible exact Below.refl _ _ | with_reducible refine Below.alloc ?_ (by simp <;> omega) _ | with_reducible refine Below.drew ?_ | with_reducible refine below_drewN ?_ _))).u GMR0w.out.2) (by omega)).mono ?_
  rintro e w16 ⟨rfl, hb16⟩
  have HB16 : Hid (Below w15.heap.size w15 w16) := Below.trans (by repeat (first | with_reducible exact Below.refl _ _ | with_reducible refine Below.alloc ?_ (by simp <;> omega) _ | with_reducible refine Below.drew ?_ | with_reducible refine below_drewN ?_ _)) (hb16.out.mono (by simp <;> omega))
  have Z16 : Hid (w15.heap.size + 0 ≤ w16.heap.size) := by have h := hb16.out.size; (try simp at h); show _ ≤ _; omega
  replace OXA1 := uhide (OXA1.out.below HB16.out)
  replace OXA2 := uhide (OXA2.out.below HB16.out)
  replace WR0 := uhide (WR0.out.below HB16.out)
  replace GMR0 := uhide (GMR0.out.below HB16.out)
  have B16 : Hid (Below w.heap.size w w16) := B15.out.trans (HB16.out.mono B15.out.size)
  clear hb16 HB16
  go_wp2_with fail
  refine (HtoA1.out _ (by repeat (first | with_reducible exact B16.out | with_reducible refine Below.alloc ?_ (by have := B16.out.size; (try simp) <;> omega) _ | with_reducible refine Below.drew ?_ | with_reducible refine below_drewN ?_ _))).mono ?_
  rintro e w17 ⟨aA1u, pA1u, SUA1, rfl, UA1, UA1w, hb17⟩
  have HB17 : Hid (Below w16.heap.size w16 w17) := Below.trans (by repeat (first | with_reducible exact Below.refl _ _ | with_reducible refine Below.alloc ?_ (by simp <;> omega) _ | with_reducible refine Below.drew ?_ | with_reducible refine below_drewN ?_ _)) (hb17.out.mono (by simp <;> omega))
  have Z17 : Hid (w16.heap.size + 0 ≤ w17.heap.size) := by have h := hb17.out.size; (try simp at h); show _ ≤ _; omega
  replace UA1w := uhide (UA1w.out.mono (a' := w16.heap.size + 0) (by (try simp) <;> omega) (Nat.le_refl _))
  replace OXA1 := uhide (OXA1.out.below HB17.out)
  replace OXA2 := uhide (OXA2.out.below HB17.out)
  replace WR0 := uhide (WR0.out.below HB17.out)
  replace GMR0 := uhide (GMR0.out.below HB17.out)
  have B17 : Hid (Below w.heap.size w w17) := B16.out.trans (HB17.out.mono B16.out.size)
  clear hb17 HB17
  go_wp2_with fail
  refine (HtoA2.out _ (by repeat (first | with_reducible exact B17.out | with_reducible refine Below.alloc ?_ (by have := B17.out.size; (try simp) <;> omega) _ | with_reducible refine Below.drew ?_ | with_reducible refine below_drewN ?_ _))).mono ?_
  rintro e w18 ⟨aA2u, pA2u, SUA2, rfl, UA2, UA2w, hb18⟩
  have HB18 : Hid (Below w17.heap.size w17 w18) := Below.trans (by repeat (first | with_reducible exact Below.refl _ _ | with_reducible refine Below.alloc ?_ (by simp <;> omega) _ | with_reducible refine Below.drew ?_ | with_reducible refine below_drewN ?_ _)) (hb18.out.mono (by simp <;> omega))
  have Z18 : Hid (w17.heap.size + 0 ≤ w18.heap.size) := by have h := hb18.out.size; (try simp at h); show _ ≤ _; omega
  replace UA2w := uhide (UA2w.out.mono (a' := w17.heap.size + 0) (by (try simp) <;> omega) (Nat.le_refl _))
  replace OXA1 := uhide (OXA1.out.below HB18.out)
  replace OXA2 := uhide (OXA2.out.below HB18.out)
  replace WR0 := uhide (WR0.out.below HB18.out)
  replace GMR0 := uhide (GMR0.out.below HB18.out)
  replace UA1 := uhide (UA1.out.below HB18.out)
  have B18 : Hid (Below w.heap.size w w18) := B17.out.trans (HB18.out.mono B17.out.size)
  clear hb18 HB18
  go_wp2_with fail
  refine (HIQ.out _ _ _ _ _ _ _ ((UA1.out.below (by repeat (first | with_reducible exact Below.refl _ _ | with_reducible refine Below.alloc ?_ (by simp <;> omega) _ | with_reducible refine Below.drew ?_ | with_reducible refine below_drewN ?_ _))).u UA1w.out.2) ((UA2.out.below (by repeat (first | with_reducible exact Below.refl _ _ | with_reducible refine Below.alloc ?_ (by simp <;> omega) _ | with_reducible refine Below.drew ?_ | with_reducible refine below_drewN ?_ _))).u UA2w.out.2)).mono ?_
  rintro e w19 ⟨aR0h, pR0h, SR0h, rfl, KR0, KR0w, hb19⟩
  have HB19 : Hid (Below w18.heap.size w18 w19) := Below.trans (by repeat (first | with_reducible exact Below.refl _ _ | with_reducible refine Below.alloc ?_ (by simp <;> omega) _ | with_reducible refine Below.drew ?_ | with_reducible refine below_drewN ?_ _)) (hb19.out.mono (by simp <;> omega))
  have Z19 : Hid (w18.heap.size + 0 ≤ w19.heap.size) := by have h := hb19.out.size; (try simp at h); show _ ≤ _; omega
  replace KR0w := uhide (KR0w.out.mono (a' := w18.heap.size + 0) (by (try simp) <;> omega) (Nat.le_refl _))
  replace OXA1 := uhide (OXA1.out.below HB19.out)
  replace OXA2 := uhide (OXA2.out.below HB19.out)
  replace WR0 := uhide (WR0.out.below HB19.out)
  replace GMR0 := uhide (GMR0.out.below HB19.out)
  replace UA1 := uhide (UA1.out.below HB19.out)
  replace UA2 := uhide (UA2.out.below HB19.out)
  have B19 : Hid (Below w.heap.size w w19) := B18.out.trans (HB19.out.mono B18.out.size)
  clear hb19 HB19
  go_wp2_with fail
  refine (HeqR0.out _ _ _ _ _ _ _ ((KR0.out.below (by repeat (first | with_reducible exact Below.refl _ _ | with_reducible refine Below.alloc ?_ (by simp <;> omega) _ | with_reducible refine Below.drew ?_ | with_reducible refine below_drewN ?_ _))).u KR0w.out.2) (WR0.out.below (by repeat (first | with_reducible exact Below.refl _ _ | with_reducible refine Below.alloc ?_ (by simp <;> omega) _ | with_reducible refine Below.drew ?_ | with_reducible refine below_drewN ?_ _)))).mono ?_
  rintro e w20 ⟨rfl, hb20⟩
  have HB20 : Hid (Below w19.heap.size w19 w20) := Below.trans (by repeat (first | with_reducible exact Below.refl _ _ | with_reducible refine Below.alloc ?_ (by simp <;> omega) _ | with_reducible refine Below.drew ?_ | with_reducible refine below_drewN ?_ _)) (hb20.out.mono (by simp <;> omega))
  have Z20 : Hid (w19.heap.size + 0 ≤ w20.heap.size) := by have h := hb20.out.size; (try simp at h); show _ ≤ _; omega
  replace OXA1 := uhide (OXA1.out.below HB20.out)
  replace OXA2 := uhide (OXA2.out.below HB20.out)
  replace WR0 := uhide (WR0.out.below HB20.out)
  replace GMR0 := uhide (GMR0.out.below HB20.out)
  replace UA1 := uhide (UA1.out.below HB20.out)
  replace UA2 := uhide (UA2.out.below HB20.out)
  replace KR0 := uhide (KR0.out.below HB20.out)
  have B20 : Hid (Below w.heap.size w w20) := B19.out.trans (HB20.out.mono B19.out.size)
  clear hb20 HB20
  go_wp2_with fail
  refine (HhdR0.out _ _ _ _ _ ((GMR0.out.below (by repeat (first | with_reducible exact Below.refl _ _ | with_reducible refine Below.alloc ?_ (by simp <;> omega) _ | with_reducible refine Below.drew ?_ | with_reducible refine below_drewN ?_ _))).u GMR0w.out.2) (by omega)).mono ?_
  rintro e w21 ⟨rfl, hb21⟩
  have HB21 : Hid (Below w20.heap.size w20 w21) := Below.trans (by repeat (first | with_reducible exact Below.refl _ _ | with_reducible refine Below.alloc ?_ (by simp <;> omega) _ | with_reducible refine Below.drew ?_ | with_reducible refine below_drewN ?_ _)) (hb21.out.mono (by simp <;> omega))
  have Z21 : Hid (w20.heap.size + 0 ≤ w21.heap.size) := by have h := hb21.out.size; (try simp at h); show _ ≤ _; omega
  replace OXA1 := uhide (OXA1.out.below HB21.out)
  replace OXA2 := uhide (OXA2.out.below HB21.out)
  replace WR0 := uhide (WR0.out.below HB21.out)
  replace GMR0 := uhide (GMR0.out.below HB21.out)
  replace UA1 := uhide (UA1.out.below HB21.out)
  replace UA2 := uhide (UA2.out.below HB21.out)
  replace KR0 := uhide (KR0.out.below HB21.out)
  have B21 : Hid (Below w.heap.size w w21) := B20.out.trans (HB21.out.mono B20.out.size)
  clear hb21 HB21
  go_wp2
  go_ret
  exact ⟨rfl, by repeat (first | with_reducible exact B21.out | with_reducible refine Below.drew ?_ | with_reducible refine below_drewN ?_ _)⟩
set_option maxRecDepth 100000 in
theorem lifted (os : Os) (started : os.Started) (H : Type) (enc : TypeId × Value → H) :
    ReturnsInHanded {} Try.checked os 5 .any (Rows.fnExactDivideSpec.pre6 enc Try.prog Try.f5 Rows.fnExactDivideRow.domain false) (Rows.fnExactDivideSpec.post enc Try.prog Try.f5 false true false false) := by
  refine returnsInHanded_of_change (C := Try.checked) own started (by kernel_rfl) Try.func5
    (ChangeSpec.witness6 (enc := enc) (C := Try.checked) false ⟨#[], #[.int .i64 0, .slice none 0 0, .slice none 0 0], []⟩ 12 (by kernel_rfl) (by kernel_rfl) (by kernel_rfl) (by kernel_rfl)) ?_
  intro W base args ds gs before hval0 hW hcnd _
  have hval : ∀ (j : Nat) t v, Try.f5.params[j]? = some t → args[j]? = some v → Value.okWide Try.prog W .any base t v := hval0
  have hW' := hW
  obtain ⟨p, q, hA0, hV, rfl, hfz, hnd⟩ := hW
  have hA : DataW.TrodAll enc Try.prog W 0 (fun _ => true) true Try.f5.params.toList args.toList ds p := hA0
  rw [Try.params5] at hA hval
  obtain ⟨v0, vs0, d0, ds0, p0, q0, hargs, rfl, rfl, h0, r0⟩ := trodAll_cons hA
  obtain ⟨v1, vs1, d1, ds1, p1, q1, rfl, rfl, rfl, h1, r1⟩ := trodAll_cons r0
  obtain ⟨v2, vs2, d2, ds2, p2, q2, rfl, rfl, rfl, h2, r2⟩ := trodAll_cons r1
  obtain ⟨rfl, rfl, rfl⟩ := trodAll_nil r2
  obtain rfl : args = #[v0, v1, v2] := by cases args; simp_all
  obtain ⟨rfl, rfl⟩ := trodVars_none hV
  obtain ⟨n0, rfl, rfl, rfl, w0⟩ := open_int Try.underlying3 (hval 0 3 v0 rfl rfl) h0
  have wi0 : inK .i64 n0 := by have h := Go.Joins.in64_of_wf w0; unfold Go.Joins.In64 at h; exact ⟨by omega, by omega⟩
  obtain ⟨a1, len1, cap1, rfl⟩ := okWide_slice Try.underlying24 (hval 1 24 v1 rfl rfl)
  have k1 := h1
  have lt1 : ∀ x ∈ p1, x.block < W.heap.size := by obtain ⟨m, hm⟩ := k1; exact DataW.trod_lt m _ _ _ hm
  obtain ⟨fuel1, hf1⟩ := h1
  obtain ⟨dd1, hd1, hh1⟩ := openU (enc := enc) flatU fuel1 24 [.l 1 1] (Flat.slice 1 Try.underlying24 (by simp [GU]) (by kernel_rfl) (by decide)) [.slice a1 len1 cap1] _ rfl (by simpa [Value.cells] using hf1)
  obtain ⟨n1, ee1, rr1, rfl, ht1, hr1⟩ := tyL.l hd1
  obtain rfl := tyL.nil hr1
  obtain ⟨c1, ys1, hc1, hs1, -⟩ := hh1
  obtain ⟨rfl, -⟩ := List.cons.inj hc1
  obtain ⟨a2, len2, cap2, rfl⟩ := okWide_slice Try.underlying24 (hval 2 24 v2 rfl rfl)
  have k2 := h2
  have lt2 : ∀ x ∈ p2, x.block < W.heap.size := by obtain ⟨m, hm⟩ := k2; exact DataW.trod_lt m _ _ _ hm
  obtain ⟨fuel2, hf2⟩ := h2
  obtain ⟨dd2, hd2, hh2⟩ := openU (enc := enc) flatU fuel2 24 [.l 1 1] (Flat.slice 1 Try.underlying24 (by simp [GU]) (by kernel_rfl) (by decide)) [.slice a2 len2 cap2] _ rfl (by simpa [Value.cells] using hf2)
  obtain ⟨n2, ee2, rr2, rfl, ht2, hr2⟩ := tyL.l hd2
  obtain rfl := tyL.nil hr2
  obtain ⟨c2, ys2, hc2, hs2, -⟩ := hh2
  obtain ⟨rfl, -⟩ := List.cons.inj hc2
  clear hA0 hval0
  refine (walk n0 n1 ee1 _ n2 ee2 _ W wi0 ht1 hs1 ht2 hs2).mono fun e W' ⟨he, bel⟩ => ?_
  subst he
  exact ⟨_, rfl, _, _, _, [], _, [], hW', trodAll_mk1 (shut_bool Try.underlying4 _), (trodAll_cons_mk (shut_int Try.underlying3 w0) (trodAll_cons_mk (Below.trod laidOut (by kernel_rfl) (of_decide_eq_true (by kernel_rfl)) k1 bel lt1) (trodAll_cons_mk (Below.trod laidOut (by kernel_rfl) (of_decide_eq_true (by kernel_rfl)) k2 bel lt2) trodAll_mk0))), rfl, bel.frame _, fun h => by cases h⟩
end LDivide
theorem divide_holds : Rows.FnExactDivideSaid :=
  OpenClaim.holds_of_wide 5 Try.f5 rfl rfl rfl rfl rfl rfl rfl ⟨rfl, rfl, rfl, rfl, rfl⟩ rfl rfl rfl rfl rfl (by kernel_rfl) Try.func5 (by kernel_rfl)
    (of_decide_eq_true (by kernel_rfl)) (by unfold Func.isWrapper; first | (rw [if_pos (by decide +kernel)]; kernel_rfl) | (rw [if_neg (by decide +kernel)]; exact ⟨rfl, rfl⟩))
    (fun os started H enc _ => LDivide.lifted os started H enc)
#print axioms divide_holds
end Go.Proofs.Ytidjjgiecaoboaa
