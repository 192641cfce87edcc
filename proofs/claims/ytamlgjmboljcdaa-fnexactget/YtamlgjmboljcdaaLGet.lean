/- FnExactGet holds: at every base, kind and name impl.Get answers what spec.Get answers, in memory of its own. No conditions. -/
import Derived.Test.YtamlgjmboljcdaaRows
import Derived.Test.YtamlgjmboljcdaaJ1
import Derived.Test.YtamlgjmboljcdaaJ5
import Derived.Test.YtamlgjmboljcdaaJ6
import Derived.Test.YtamlgjmboljcdaaJ3
import Derived.WalkKit
import Derived.ProofKit
import Derived.OpenShut
import Derived.ShutString
import Derived.ChangeOld
import Derived.Below
namespace Go.Proofs.Ytamlgjmboljcdaa
open Go.ChangeShapes Go.WideShapes Go.ChangeAt Go.RowKit Go.BigFrame
open Go.ChangeMaps (open_string shut_string)
set_option linter.unusedVariables false
namespace LGet
theorem laidOut : laidOutB Try.prog = true := by kernel_rfl
theorem own : ownKnob Try.prog.godebug = none := by kernel_rfl
def TYU : Nat → TypeId
  | 8 => 88
  | 0 => 9
  | 6 => 86
  | 9 => 91
  | _ => 0
def GU (n : Nat) : Prop := n = 8 ∨ n = 0 ∨ n = 6 ∨ n = 9
theorem flatBase : Flat Try.prog TYU GU 33 (uE 10) := by
  refine Flat.struct [[.l 17 8], [.i .i64], [.i .i64], [.l 19 9]] Try.underlying33 rfl (fun i f s hf hs => ?_) (fun i f s hf hs => ?_)
  · match i, hf, hs with
    | 0, hf, hs => cases hf; cases hs; exact (Flat.slice 8 Try.underlying30 (by simp [GU]) (by kernel_rfl) (by decide))
    | 1, hf, hs => cases hf; cases hs; exact (Flat.i64 Try.underlying3)
    | 2, hf, hs => cases hf; cases hs; exact (Flat.i64 Try.underlying3)
    | 3, hf, hs => cases hf; cases hs; exact (Flat.slice 9 Try.underlying31 (by simp [GU]) (by kernel_rfl) (by decide))
    | i + 4, hf, hs => simp at hs
  · match i, hf, hs with
    | 0, hf, hs => cases hf; cases hs; exact ⟨by kernel_rfl, rfl⟩
    | 1, hf, hs => cases hf; cases hs; exact ⟨by kernel_rfl, rfl⟩
    | 2, hf, hs => cases hf; cases hs; exact ⟨by kernel_rfl, rfl⟩
    | 3, hf, hs => cases hf; cases hs; exact ⟨by kernel_rfl, rfl⟩
    | i + 4, hf, hs => simp at hs
theorem flatValue : Flat Try.prog TYU GU 86 (uE 6) := by
  refine Flat.struct [[.i .i64], [.s], [.i .i64], [.l 1 0], [.l 5 6]] Try.underlying86 rfl (fun i f s hf hs => ?_) (fun i f s hf hs => ?_)
  · match i, hf, hs with
    | 0, hf, hs => cases hf; cases hs; exact (Flat.i64 Try.underlying3)
    | 1, hf, hs => cases hf; cases hs; exact (Flat.str Try.underlying9)
    | 2, hf, hs => cases hf; cases hs; exact (Flat.i64 Try.underlying3)
    | 3, hf, hs => cases hf; cases hs; exact (Flat.slice 0 Try.underlying38 (by simp [GU]) (by kernel_rfl) (by decide))
    | 4, hf, hs => cases hf; cases hs; exact (Flat.slice 6 Try.underlying84 (by simp [GU]) (by kernel_rfl) (by decide))
    | i + 5, hf, hs => simp at hs
  · match i, hf, hs with
    | 0, hf, hs => cases hf; cases hs; exact ⟨by kernel_rfl, rfl⟩
    | 1, hf, hs => cases hf; cases hs; exact ⟨by kernel_rfl, rfl⟩
    | 2, hf, hs => cases hf; cases hs; exact ⟨by kernel_rfl, rfl⟩
    | 3, hf, hs => cases hf; cases hs; exact ⟨by kernel_rfl, rfl⟩
    | 4, hf, hs => cases hf; cases hs; exact ⟨by kernel_rfl, rfl⟩
    | i + 5, hf, hs => simp at hs
theorem flatObj : Flat Try.prog TYU GU 88 (uE 8) := by
  refine Flat.struct [[.i .i64], [.s], [.i .i64], [.i .i64], [.i .i64], [.b], [.l 1 0], [.i .i64, .s, .i .i64, .l 1 0, .l 5 6], [.i .i64, .s, .i .i64, .l 1 0, .l 5 6]] Try.underlying88 rfl (fun i f s hf hs => ?_) (fun i f s hf hs => ?_)
  · match i, hf, hs with
    | 0, hf, hs => cases hf; cases hs; exact (Flat.i64 Try.underlying3)
    | 1, hf, hs => cases hf; cases hs; exact (Flat.str Try.underlying9)
    | 2, hf, hs => cases hf; cases hs; exact (Flat.i64 Try.underlying3)
    | 3, hf, hs => cases hf; cases hs; exact (Flat.i64 Try.underlying3)
    | 4, hf, hs => cases hf; cases hs; exact (Flat.i64 Try.underlying3)
    | 5, hf, hs => cases hf; cases hs; exact (Flat.bool Try.underlying4)
    | 6, hf, hs => cases hf; cases hs; exact (Flat.slice 0 Try.underlying38 (by simp [GU]) (by kernel_rfl) (by decide))
    | 7, hf, hs => cases hf; cases hs; exact flatValue
    | 8, hf, hs => cases hf; cases hs; exact flatValue
    | i + 9, hf, hs => simp at hs
  · match i, hf, hs with
    | 0, hf, hs => cases hf; cases hs; exact ⟨by kernel_rfl, rfl⟩
    | 1, hf, hs => cases hf; cases hs; exact ⟨by kernel_rfl, rfl⟩
    | 2, hf, hs => cases hf; cases hs; exact ⟨by kernel_rfl, rfl⟩
    | 3, hf, hs => cases hf; cases hs; exact ⟨by kernel_rfl, rfl⟩
    | 4, hf, hs => cases hf; cases hs; exact ⟨by kernel_rfl, rfl⟩
    | 5, hf, hs => cases hf; cases hs; exact ⟨by kernel_rfl, rfl⟩
    | 6, hf, hs => cases hf; cases hs; exact ⟨by kernel_rfl, rfl⟩
    | 7, hf, hs => cases hf; cases hs; exact ⟨by kernel_rfl, rfl⟩
    | 8, hf, hs => cases hf; cases hs; exact ⟨by kernel_rfl, rfl⟩
    | i + 9, hf, hs => simp at hs
theorem flatChange : Flat Try.prog TYU GU 91 (uE 9) := by
  refine Flat.struct [[.i .i64], [.b], [.i .i64, .s, .i .i64, .i .i64, .i .i64, .b, .l 1 0, .i .i64, .s, .i .i64, .l 1 0, .l 5 6, .i .i64, .s, .i .i64, .l 1 0, .l 5 6]] Try.underlying91 rfl (fun i f s hf hs => ?_) (fun i f s hf hs => ?_)
  · match i, hf, hs with
    | 0, hf, hs => cases hf; cases hs; exact (Flat.i64 Try.underlying3)
    | 1, hf, hs => cases hf; cases hs; exact (Flat.bool Try.underlying4)
    | 2, hf, hs => cases hf; cases hs; exact flatObj
    | i + 3, hf, hs => simp at hs
  · match i, hf, hs with
    | 0, hf, hs => cases hf; cases hs; exact ⟨by kernel_rfl, rfl⟩
    | 1, hf, hs => cases hf; cases hs; exact ⟨by kernel_rfl, rfl⟩
    | 2, hf, hs => cases hf; cases hs; exact ⟨by kernel_rfl, rfl⟩
    | i + 3, hf, hs => simp at hs
theorem flatU : ∀ n, GU n → Flat Try.prog TYU GU (TYU n) (uE n) := by
  intro n h
  unfold GU at h
  rcases h with rfl | rfl | rfl | rfl
  · exact flatObj
  · exact (Flat.str Try.underlying9)
  · exact flatValue
  · exact flatChange
set_option maxRecDepth 20000 in
set_option maxHeartbeats 3200000 in
set_option linter.unusedSimpArgs false in
theorem walk (dA0 : UD) (xsA0 : List Value) (iA1 : Int) (sA2 : ByteArray) (w : World) (htA0 : tyL dA0 (uE 10)) (hxA0 : uH w 0 w.heap.size dA0 xsA0) (hsA1 : inK .i64 iA1) (hsA2 : sA2.size ≤ maxLen) :
    Calls Try.prog 5 #[.agg xsA0.toArray, .int .i64 iA1, .string sA2] w fun e w' => e = .returned (.bool true) ∧ Below w.heap.size w w' := by
  by_cases hbA2 : (1048576 : Int) < (sA2.size : Int)
  · go_enter Try.func5, Try.ntmps5
    go_wp2
    go_ret
    exact ⟨rfl, by repeat (first | exact Below.refl _ _ | refine Below.alloc ?_ (by simp <;> omega) _)⟩
  obtain ⟨n0A0, c0A0, z1A0, z2A0, n3A0, c3A0, hdA0, g0A0, g1A0, g2A0, g3A0⟩ := partsBase htA0
  have SHA0 : Hid (∀ (wx : World) (lo hi : Nat) (ys : List Value), uH wx lo hi dA0 ys → ∃ a0A0 p0A0 a3A0 p3A0, ys = [.slice a0A0 n0A0 p0A0, .int .i64 z1A0, .int .i64 z2A0, .slice a3A0 n3A0 p3A0]) := by
    intro wx lo hi ys h
    rw [hdA0] at h
    obtain ⟨v0A0, _, rfl, s0, ⟨_, rfl, ⟨_, rfl, ⟨v3A0, _, rfl, s3, rfl⟩⟩⟩⟩ := h
    obtain ⟨a0A0, p0A0, rfl, t0A0⟩ := s0
    obtain ⟨a3A0, p3A0, rfl, t3A0⟩ := s3
    exact ⟨a0A0, p0A0, a3A0, p3A0, rfl⟩
  obtain ⟨a0A0, p0A0, a3A0, p3A0, rfl⟩ := SHA0.out w _ _ xsA0 hxA0
  have OXA0 : Hid (uH w 0 w.heap.size dA0 [.slice a0A0 n0A0 p0A0, .int .i64 z1A0, .int .i64 z2A0, .slice a3A0 n3A0 p3A0]) := hxA0
  have HtA0 := uhide htA0
  clear hxA0 hdA0 g0A0 g1A0 g2A0 g3A0
  obtain ⟨l1, hl1⟩ : ∃ l, leftI (1048576 : Int) (wt dA0) = l := ⟨_, rfl⟩
  have HsA0 : Hid (∀ wx, Below w.heap.size w wx → Calls Try.prog 13 #[.agg #[.slice a0A0 n0A0 p0A0, .int .i64 z1A0, .int .i64 z2A0, .slice a3A0 n3A0 p3A0], .int .i64 1048576] wx fun e w' => e = .returned (.int .i64 l1) ∧ Hid (Below wx.heap.size wx w')) := fun wx hb => hl1 ▸ uszBase_any (lo := 0) (hi := w.heap.size) dA0 [.slice a0A0 n0A0 p0A0, .int .i64 z1A0, .int .i64 z2A0, .slice a3A0 n3A0 p3A0] 1048576 wx HtA0.out (OXA0.out.below hb) (by decide) (by decide)
  have hle0 : l1 ≤ 1048576 := by rw [← hl1]; unfold leftI; split <;> omega
  by_cases hn0 : l1 < 0
  · go_enter Try.func5, Try.ntmps5
    go_wp2_with fail
    refine (HsA0.out _ (by repeat (first | with_reducible exact Below.refl _ _ | with_reducible refine Below.alloc ?_ (by simp <;> omega) _ | with_reducible refine Below.drew ?_ | with_reducible refine below_drewN ?_ _))).mono ?_
    rintro e w1 ⟨rfl, hb1⟩
    have HB1 : Hid (Below w.heap.size w w1) := Below.trans (by repeat (first | with_reducible exact Below.refl _ _ | with_reducible refine Below.alloc ?_ (by simp <;> omega) _ | with_reducible refine Below.drew ?_ | with_reducible refine below_drewN ?_ _)) (hb1.out.mono (by simp <;> omega))
    have BXA0_1 : Hid (objU w1 (w.heap.size) 33 [.slice a0A0 n0A0 p0A0, .int .i64 z1A0, .int .i64 z2A0, .slice a3A0 n3A0 p3A0]) := objU.below (by repeat (first | with_reducible exact objU.new2 _ _ (by simp) | with_reducible refine objU.old ?_ _)) hb1.out
    have B1 : Hid (Below w.heap.size w w1) := HB1
    clear hb1
    go_wp2
    go_ret
    exact ⟨rfl, B1.out⟩
  have Hw0 : Hid (l1 = 1048576 - ((wt dA0) : Nat)) := by show _ = _; rw [← hl1]; exact (leftI_pos 0 (by rw [hl1]; exact hn0)).2.1
  have hw0 := Hw0.out
  obtain ⟨dR0, bR1, hrR0, hcR0, HSP, HIM⟩ := get_both dA0 iA1 sA2 HtA0.out hsA1 (by omega) (by omega)
  replace HSP := uhide HSP
  replace HIM := uhide HIM
  have HrR0 := uhide hrR0
  clear hrR0
  have HSQ : Hid (∀ (wx : World) (loA0 hiA0 : Nat) (xsA0 : List Value), uH wx loA0 hiA0 dA0 xsA0 → Calls Try.prog 17 #[.agg xsA0.toArray, .int .i64 iA1, .string sA2] wx fun e w' => ∃ ysR0, e = .returned (.tuple #[.agg ysR0.toArray, .bool bR1]) ∧ Hid (uH w' 0 w'.heap.size dR0 ysR0) ∧ Hid (Below wx.heap.size wx w')) := fun wx loA0 hiA0 xsA0 hA0 => (HSP.out _ _ _ _ hA0).mono fun e w' ⟨ysR0, h1, kR0, hb⟩ => by
    exact ⟨ysR0, h1, kR0, hb⟩
  have HIQ : Hid (∀ (wx : World) (loA0 hiA0 : Nat) (xsA0 : List Value) (SA0 : List Nat), oH wx dA0 xsA0 SA0 → own2 SA0 loA0 hiA0 → Calls Try.prog 18 #[.agg xsA0.toArray, .int .i64 iA1, .string sA2] wx fun e w' => ∃ ysR0 SR0, e = .returned (.tuple #[.agg ysR0.toArray, .bool bR1]) ∧ Hid (oH w' dR0 ysR0 SR0) ∧ Hid (own2 SR0 wx.heap.size w'.heap.size) ∧ Hid (Below wx.heap.size wx w')) := fun wx loA0 hiA0 xsA0 SA0 hA0 oA0 => (HIM.out _ _ _ _ _ hA0 oA0).mono fun e w' ⟨ysR0, SR0, h1, kR0, oR0, hb⟩ => by
    exact ⟨ysR0, SR0, h1, kR0, oR0, hb⟩
  clear HSP HIM
  have hctA0 : cntT dA0 ≤ 42000000 := by have := cntT_wt HtA0.out; omega
  have hctR0 : cntT dR0 ≤ 50000000 := by have := cntT_le dR0; omega
  have HtoA0 : Hid (∀ wx, Below w.heap.size w wx → Calls Try.prog 15 #[.agg #[.slice a0A0 n0A0 p0A0, .int .i64 z1A0, .int .i64 z2A0, .slice a3A0 n3A0 p3A0]] wx fun e w' => ∃ a0rA0 p0rA0 a3rA0 p3rA0 S, e = .returned (.agg #[.slice a0rA0 n0A0 p0rA0, .int .i64 z1A0, .int .i64 z2A0, .slice a3rA0 n3A0 p3rA0]) ∧ Hid (oH w' dA0 [.slice a0rA0 n0A0 p0rA0, .int .i64 z1A0, .int .i64 z2A0, .slice a3rA0 n3A0 p3rA0] S) ∧ Hid (own2 S wx.heap.size w'.heap.size) ∧ Hid (Below wx.heap.size wx w')) := fun wx hb => (utoBase_any (lo := 0) (hi := w.heap.size) dA0 [.slice a0A0 n0A0 p0A0, .int .i64 z1A0, .int .i64 z2A0, .slice a3A0 n3A0 p3A0] wx HtA0.out (by omega) (OXA0.out.below hb)).mono fun e w' ⟨ys, S, h1, h2, h3, h4, h5⟩ => by
    have hO : own2 S wx.heap.size w'.heap.size := ⟨h3, fun s hs => ⟨h4 s hs, h2.lt _ _ _ s hs⟩⟩
    obtain ⟨a0A0, p0A0, a3A0, p3A0, rfl⟩ := SHA0.out w' _ _ ys (h2.hand hO.2)
    exact ⟨a0A0, p0A0, a3A0, p3A0, S, h1, h2, hO, h5⟩
  have HeqA0 : Hid (∀ (wx : World) (lo hi lo' hi' : Nat) (ys ys' : List Value), uH wx lo hi dA0 ys → uH wx lo' hi' dA0 ys' → Calls Try.prog 10 #[.agg ys.toArray, .agg ys'.toArray] wx fun e w' => e = .returned (.bool true) ∧ Hid (Below wx.heap.size wx w')) := fun wx lo hi lo' hi' ys ys' h1 h2 => ueqBase_any (lo := lo) (hi := hi) (lo' := lo') (hi' := hi') _ _ _ wx HtA0.out h1 h2
  have HeqR0 : Hid (∀ (wx : World) (lo hi lo' hi' : Nat) (ys ys' : List Value), uH wx lo hi dR0 ys → uH wx lo' hi' dR0 ys' → Calls Try.prog 19 #[.agg ys.toArray, .agg ys'.toArray] wx fun e w' => e = .returned (.bool true) ∧ Hid (Below wx.heap.size wx w')) := fun wx lo hi lo' hi' ys ys' h1 h2 => ueqObj_any (lo := lo) (hi := hi) (lo' := lo') (hi' := hi') _ _ _ wx HrR0.out h1 h2
  have HmkA0 : Hid (∀ (wx : World) (ys : List Value) (S : List Nat) (x : Int) (lo hi : Nat), oH wx dA0 ys S → own2 S lo hi → x = ((1 : Nat) : Int) → Calls Try.prog 11 #[.agg ys.toArray, .int .i64 x] wx fun e w' => e = .returned (.int .i64 ((1 + cntT dA0) : Nat)) ∧ OutS S wx w') := fun wx y S x lo hi h hO hx => by
    rw [hx]
    exact (umarkBase_any dA0 1 _ S wx HtA0.out hO.1 (by omega) (by omega) h).mono fun e w' h => ⟨h.1, h.2.2⟩
  have HmkR0 : Hid (∀ (wx : World) (ys : List Value) (S : List Nat) (x : Int) (lo hi : Nat), oH wx dR0 ys S → own2 S lo hi → x = ((1 : Nat) : Int) → Calls Try.prog 20 #[.agg ys.toArray, .int .i64 x] wx fun e w' => e = .returned (.int .i64 ((1 + cntT dR0) : Nat)) ∧ oH w' (mkT dR0 1) ys S ∧ OutS S wx w') := fun wx y S x lo hi h hO hx => by
    rw [hx]
    exact umarkObj_any dR0 1 _ S wx HrR0.out hO.1 (by omega) (by omega) h
  have HhdR0 : Hid (∀ (wx : World) (ys : List Value) (x : Int) (lo hi : Nat), uH wx lo hi (mkT dR0 1) ys → x = ((1 : Nat) : Int) → Calls Try.prog 21 #[.agg ys.toArray, .int .i64 x] wx fun e w' => e = .returned (.int .i64 ((1 + cntT dR0) : Nat)) ∧ Hid (Below wx.heap.size wx w')) := fun wx y x lo hi h hx => by
    rw [hx]
    exact uheldObj_any (lo := lo) (hi := hi) dR0 1 _ wx HrR0.out (by omega) (by omega) h
  clear hw0 hle0 hl1 htA0 hcR0
  have hqR1 : (bR1 != bR1) = false := by simp
  go_enter Try.func5, Try.ntmps5
  generalize cntT dA0 = mA0 at *
  generalize cntT dR0 = mR0 at *
  go_wp2_with fail
  refine (HsA0.out _ (by repeat (first | with_reducible exact Below.refl _ _ | with_reducible refine Below.alloc ?_ (by simp <;> omega) _ | with_reducible refine Below.drew ?_ | with_reducible refine below_drewN ?_ _))).mono ?_
  rintro e w1 ⟨rfl, hb1⟩
  have HB1 : Hid (Below w.heap.size w w1) := Below.trans (by repeat (first | with_reducible exact Below.refl _ _ | with_reducible refine Below.alloc ?_ (by simp <;> omega) _ | with_reducible refine Below.drew ?_ | with_reducible refine below_drewN ?_ _)) (hb1.out.mono (by simp <;> omega))
  have BXA0_1 : Hid (objU w1 (w.heap.size) 33 [.slice a0A0 n0A0 p0A0, .int .i64 z1A0, .int .i64 z2A0, .slice a3A0 n3A0 p3A0]) := objU.below (by repeat (first | with_reducible exact objU.new2 _ _ (by simp) | with_reducible refine objU.old ?_ _)) hb1.out
  have B1 : Hid (Below w.heap.size w w1) := HB1
  clear hb1
  have BXA0 := BXA0_1
  clear BXA0_1
  replace OXA0 := uhide (OXA0.out.below B1.out)
  have Zb : Hid (w.heap.size + 1 ≤ w1.heap.size) := BXA0.out.lt
  have qBXA00 := BXA0.out.cell 0 _ rfl
  have qBXA01 := BXA0.out.cell 1 _ rfl
  have qBXA02 := BXA0.out.cell 2 _ rfl
  have qBXA03 := BXA0.out.cell 3 _ rfl
  go_wp2_with fail
  refine (HtoA0.out _ (by repeat (first | with_reducible exact B1.out | with_reducible refine Below.alloc ?_ (by have := B1.out.size; (try simp) <;> omega) _ | with_reducible refine Below.drew ?_ | with_reducible refine below_drewN ?_ _))).mono ?_
  rintro e w2 ⟨a0A0y, p0A0y, a3A0y, p3A0y, SYA0, rfl, YA0, YA0w, hb2⟩
  clear qBXA00 qBXA01 qBXA02 qBXA03
  have HB2 : Hid (Below w1.heap.size w1 w2) := Below.trans (by repeat (first | with_reducible exact Below.refl _ _ | with_reducible refine Below.alloc ?_ (by simp <;> omega) _ | with_reducible refine Below.drew ?_ | with_reducible refine below_drewN ?_ _)) (hb2.out.mono (by simp <;> omega))
  have Z2 : Hid (w1.heap.size + 0 ≤ w2.heap.size) := by have h := hb2.out.size; (try simp at h); show _ ≤ _; omega
  replace YA0w := uhide (YA0w.out.mono (a' := w1.heap.size + 0) (by (try simp) <;> omega) (Nat.le_refl _))
  replace BXA0 := uhide (BXA0.out.below HB2.out)
  replace OXA0 := uhide (OXA0.out.below HB2.out)
  have B2 : Hid (Below w.heap.size w w2) := B1.out.trans (HB2.out.mono B1.out.size)
  clear hb2 HB2
  go_wp2_with fail
  refine (HSQ.out _ _ _ _ ((YA0.out.below (by repeat (first | with_reducible exact Below.refl _ _ | with_reducible refine Below.alloc ?_ (by simp <;> omega) _ | with_reducible refine Below.drew ?_ | with_reducible refine below_drewN ?_ _))).hand YA0w.out.2)).mono ?_
  rintro e w3 ⟨ysR0w, rfl, WR0, hb3⟩
  have HB3 : Hid (Below w2.heap.size w2 w3) := Below.trans (by repeat (first | with_reducible exact Below.refl _ _ | with_reducible refine Below.alloc ?_ (by simp <;> omega) _ | with_reducible refine Below.drew ?_ | with_reducible refine below_drewN ?_ _)) (hb3.out.mono (by simp <;> omega))
  have Z3 : Hid (w2.heap.size + 0 ≤ w3.heap.size) := by have h := hb3.out.size; (try simp at h); show _ ≤ _; omega
  replace BXA0 := uhide (BXA0.out.below HB3.out)
  replace OXA0 := uhide (OXA0.out.below HB3.out)
  replace YA0 := uhide (YA0.out.below HB3.out)
  have B3 : Hid (Below w.heap.size w w3) := B2.out.trans (HB3.out.mono B2.out.size)
  clear hb3 HB3
  clear YA0 YA0w
  simp only
  have HLBWR0 : Hid (ysR0w.length = 17) := WR0.out.len.trans (tyL.len HrR0.out)
  have ONBWR0 : Hid (∀ u ∈ ysR0w, u.oneCell' = true) := ones_u HrR0.out WR0.out
  have FZBWR0 : Hid ((Try.prog.info? 43).map (·.size) = some ysR0w.length) := by show _ = _; rw [HLBWR0.out]; exact Try.zObj_impl_Obj
  have THBWR0 : Hid ((w3.alloc (.cells ([.int .i64 0, .string ⟨#[]⟩, .int .i64 0, .int .i64 0, .int .i64 0, .bool false, .slice none 0 0, .int .i64 0, .string ⟨#[]⟩, .int .i64 0, .slice none 0 0, .slice none 0 0, .int .i64 0, .string ⟨#[]⟩, .int .i64 0, .slice none 0 0, .slice none 0 0] : List Value).toArray 43)).there w3.heap.size 0 ysR0w.length) := by show World.there _ _ _ _; rw [HLBWR0.out]; exact (objU.new w3 43 [.int .i64 0, .string ⟨#[]⟩, .int .i64 0, .int .i64 0, .int .i64 0, .bool false, .slice none 0 0, .int .i64 0, .string ⟨#[]⟩, .int .i64 0, .slice none 0 0, .slice none 0 0, .int .i64 0, .string ⟨#[]⟩, .int .i64 0, .slice none 0 0, .slice none 0 0]).there 0 17 (by decide)
  go_wp2_with (first | ((with_reducible refine wpList_store_cells ?qqgr1 43 ?qqxr1 ?qqyr1 ?qqor1 ?qqdr1 w3.heap.size 0 ?qqhr1 (.agg ysR0w.toArray) ?qqvr1 ysR0w cells_agg ONBWR0.out FZBWR0.out THBWR0.out ?_); (case qqgr1 => rfl); (case qqor1 => rfl); (case qqdr1 => rfl); (case qqhr1 => simp [Act.eval, Act.put]); (case qqvr1 => simp [Act.eval, Act.put])))
  intro w4 ey
  have OY := rowBox w3 43 ysR0w [.int .i64 0, .string ⟨#[]⟩, .int .i64 0, .int .i64 0, .int .i64 0, .bool false, .slice none 0 0, .int .i64 0, .string ⟨#[]⟩, .int .i64 0, .slice none 0 0, .slice none 0 0, .int .i64 0, .string ⟨#[]⟩, .int .i64 0, .slice none 0 0, .slice none 0 0] (by rw [HLBWR0.out]; rfl) w4 ey
  clear ey THBWR0 ONBWR0
  have BWR0 : Hid (objU w4 (w3.heap.size) 43 ysR0w) := OY.1
  have HB4 : Hid (Below w3.heap.size w3 w4) := OY.2
  clear OY
  have Z4 : Hid (w3.heap.size + 1 ≤ w4.heap.size) := BWR0.out.lt
  replace BXA0 := uhide (BXA0.out.below HB4.out)
  replace OXA0 := uhide (OXA0.out.below HB4.out)
  replace WR0 := uhide (WR0.out.below HB4.out)
  have B4 : Hid (Below w.heap.size w w4) := B3.out.trans (HB4.out.mono B3.out.size)
  clear HB4
  have qBXA00 := BXA0.out.cell 0 _ rfl
  have qBXA01 := BXA0.out.cell 1 _ rfl
  have qBXA02 := BXA0.out.cell 2 _ rfl
  have qBXA03 := BXA0.out.cell 3 _ rfl
  go_wp2_with fail
  refine (HtoA0.out _ (by repeat (first | with_reducible exact B4.out | with_reducible refine Below.alloc ?_ (by have := B4.out.size; (try simp) <;> omega) _ | with_reducible refine Below.drew ?_ | with_reducible refine below_drewN ?_ _))).mono ?_
  rintro e w5 ⟨a0A0x, p0A0x, a3A0x, p3A0x, SXA0, rfl, XA0, XA0w, hb5⟩
  clear qBXA00 qBXA01 qBXA02 qBXA03
  have HB5 : Hid (Below w4.heap.size w4 w5) := Below.trans (by repeat (first | with_reducible exact Below.refl _ _ | with_reducible refine Below.alloc ?_ (by simp <;> omega) _ | with_reducible refine Below.drew ?_ | with_reducible refine below_drewN ?_ _)) (hb5.out.mono (by simp <;> omega))
  have Z5 : Hid (w4.heap.size + 0 ≤ w5.heap.size) := by have h := hb5.out.size; (try simp at h); show _ ≤ _; omega
  replace XA0w := uhide (XA0w.out.mono (a' := w4.heap.size + 0) (by (try simp) <;> omega) (Nat.le_refl _))
  replace BXA0 := uhide (BXA0.out.below HB5.out)
  replace OXA0 := uhide (OXA0.out.below HB5.out)
  replace WR0 := uhide (WR0.out.below HB5.out)
  replace BWR0 := uhide (BWR0.out.below HB5.out)
  have B5 : Hid (Below w.heap.size w w5) := B4.out.trans (HB5.out.mono B4.out.size)
  clear hb5 HB5
  go_wp2_with fail
  refine (HIQ.out _ _ _ _ _ (XA0.out.below (by repeat (first | with_reducible exact Below.refl _ _ | with_reducible refine Below.alloc ?_ (by simp <;> omega) _ | with_reducible refine Below.drew ?_ | with_reducible refine below_drewN ?_ _))) XA0w.out).mono ?_
  rintro e w6 ⟨ysR0g, SR0g, rfl, GR0, GR0w, hb6⟩
  have HB6 : Hid (Below w5.heap.size w5 w6) := Below.trans (by repeat (first | with_reducible exact Below.refl _ _ | with_reducible refine Below.alloc ?_ (by simp <;> omega) _ | with_reducible refine Below.drew ?_ | with_reducible refine below_drewN ?_ _)) (hb6.out.mono (by simp <;> omega))
  have BYA0 : Hid (objU w6 (w5.heap.size) 25 [.slice a0A0x n0A0 p0A0x, .int .i64 z1A0, .int .i64 z2A0, .slice a3A0x n3A0 p3A0x]) := objU.below (by repeat (first | with_reducible exact objU.new2 _ _ (by simp) | with_reducible refine objU.old ?_ _)) hb6.out
  have Z6 : Hid (w5.heap.size + 1 ≤ w6.heap.size) := by have h := hb6.out.size; (try simp at h); show _ ≤ _; omega
  replace GR0w := uhide (GR0w.out.mono (a' := w5.heap.size + 1) (by (try simp) <;> omega) (Nat.le_refl _))
  replace BXA0 := uhide (BXA0.out.below HB6.out)
  replace OXA0 := uhide (OXA0.out.below HB6.out)
  replace WR0 := uhide (WR0.out.below HB6.out)
  replace BWR0 := uhide (BWR0.out.below HB6.out)
  replace XA0 := uhide (XA0.out.below HB6.out)
  have B6 : Hid (Below w.heap.size w w6) := B5.out.trans (HB6.out.mono B5.out.size)
  clear hb6 HB6
  simp only
  have HLBGR0 : Hid (ysR0g.length = 17) := GR0.out.len.trans (tyL.len HrR0.out)
  have ONBGR0 : Hid (∀ u ∈ ysR0g, u.oneCell' = true) := ones_own HrR0.out GR0.out
  have FZBGR0 : Hid ((Try.prog.info? 43).map (·.size) = some ysR0g.length) := by show _ = _; rw [HLBGR0.out]; exact Try.zObj_impl_Obj
  have THBGR0 : Hid ((w6.alloc (.cells ([.int .i64 0, .string ⟨#[]⟩, .int .i64 0, .int .i64 0, .int .i64 0, .bool false, .slice none 0 0, .int .i64 0, .string ⟨#[]⟩, .int .i64 0, .slice none 0 0, .slice none 0 0, .int .i64 0, .string ⟨#[]⟩, .int .i64 0, .slice none 0 0, .slice none 0 0] : List Value).toArray 43)).there w6.heap.size 0 ysR0g.length) := by show World.there _ _ _ _; rw [HLBGR0.out]; exact (objU.new w6 43 [.int .i64 0, .string ⟨#[]⟩, .int .i64 0, .int .i64 0, .int .i64 0, .bool false, .slice none 0 0, .int .i64 0, .string ⟨#[]⟩, .int .i64 0, .slice none 0 0, .slice none 0 0, .int .i64 0, .string ⟨#[]⟩, .int .i64 0, .slice none 0 0, .slice none 0 0]).there 0 17 (by decide)
  go_wp2_with (first | ((with_reducible refine wpList_store_cells ?qqgr2 43 ?qqxr2 ?qqyr2 ?qqor2 ?qqdr2 w6.heap.size 0 ?qqhr2 (.agg ysR0g.toArray) ?qqvr2 ysR0g cells_agg ONBGR0.out FZBGR0.out THBGR0.out ?_); (case qqgr2 => rfl); (case qqor2 => rfl); (case qqdr2 => rfl); (case qqhr2 => simp [Act.eval, Act.put]); (case qqvr2 => simp [Act.eval, Act.put])))
  intro w7 ey
  have OY := rowBox w6 43 ysR0g [.int .i64 0, .string ⟨#[]⟩, .int .i64 0, .int .i64 0, .int .i64 0, .bool false, .slice none 0 0, .int .i64 0, .string ⟨#[]⟩, .int .i64 0, .slice none 0 0, .slice none 0 0, .int .i64 0, .string ⟨#[]⟩, .int .i64 0, .slice none 0 0, .slice none 0 0] (by rw [HLBGR0.out]; rfl) w7 ey
  clear ey THBGR0 ONBGR0
  have BGR0 : Hid (objU w7 (w6.heap.size) 43 ysR0g) := OY.1
  have HB7 : Hid (Below w6.heap.size w6 w7) := OY.2
  clear OY
  have Z7 : Hid (w6.heap.size + 1 ≤ w7.heap.size) := BGR0.out.lt
  replace BXA0 := uhide (BXA0.out.below HB7.out)
  replace OXA0 := uhide (OXA0.out.below HB7.out)
  replace WR0 := uhide (WR0.out.below HB7.out)
  replace BWR0 := uhide (BWR0.out.below HB7.out)
  replace XA0 := uhide (XA0.out.below HB7.out)
  replace BYA0 := uhide (BYA0.out.below HB7.out)
  replace GR0 := uhide (GR0.out.below HB7.out)
  have B7 : Hid (Below w.heap.size w w7) := B6.out.trans (HB7.out.mono B6.out.size)
  clear HB7
  have RBGR0 : Hid (w7.rangeAt (w6.heap.size) 0 ysR0g) := BGR0.out.whole
  have RBWR0 : Hid (w7.rangeAt (w3.heap.size) 0 ysR0w) := BWR0.out.whole
  go_wp2_with (first | ((with_reducible refine wpList_load_rowG ?qqgr3 43 ?qqxr3 ?qqor3 (w6.heap.size) 0 ?qqhr3 ysR0g Try.rObj_impl_Obj FZBGR0.out RBGR0.out ?_); (case qqgr3 => first | (go_simp; done) | (go_simp; omega)); (case qqor3 => rfl); (case qqhr3 => simp [Act.eval, Act.put])) | ((with_reducible refine wpList_load_rowG ?qqgr4 43 ?qqxr4 ?qqor4 (w3.heap.size) 0 ?qqhr4 ysR0w Try.rObj_impl_Obj FZBWR0.out RBWR0.out ?_); (case qqgr4 => first | (go_simp; done) | (go_simp; omega)); (case qqor4 => rfl); (case qqhr4 => simp [Act.eval, Act.put])))
  refine (HeqR0.out _ _ _ _ _ _ _ ((GR0.out.below (by repeat (first | with_reducible exact Below.refl _ _ | with_reducible refine Below.alloc ?_ (by simp <;> omega) _ | with_reducible refine Below.drew ?_ | with_reducible refine below_drewN ?_ _))).hand GR0w.out.2) (WR0.out.below (by repeat (first | with_reducible exact Below.refl _ _ | with_reducible refine Below.alloc ?_ (by simp <;> omega) _ | with_reducible refine Below.drew ?_ | with_reducible refine below_drewN ?_ _)))).mono ?_
  rintro e w8 ⟨rfl, hb8⟩
  clear RBGR0 RBWR0
  have HB8 : Hid (Below w7.heap.size w7 w8) := Below.trans (by repeat (first | with_reducible exact Below.refl _ _ | with_reducible refine Below.alloc ?_ (by simp <;> omega) _ | with_reducible refine Below.drew ?_ | with_reducible refine below_drewN ?_ _)) (hb8.out.mono (by simp <;> omega))
  have Z8 : Hid (w7.heap.size + 0 ≤ w8.heap.size) := by have h := hb8.out.size; (try simp at h); show _ ≤ _; omega
  replace BXA0 := uhide (BXA0.out.below HB8.out)
  replace OXA0 := uhide (OXA0.out.below HB8.out)
  replace WR0 := uhide (WR0.out.below HB8.out)
  replace BWR0 := uhide (BWR0.out.below HB8.out)
  replace XA0 := uhide (XA0.out.below HB8.out)
  replace BYA0 := uhide (BYA0.out.below HB8.out)
  replace GR0 := uhide (GR0.out.below HB8.out)
  replace BGR0 := uhide (BGR0.out.below HB8.out)
  have B8 : Hid (Below w.heap.size w w8) := B7.out.trans (HB8.out.mono B7.out.size)
  clear hb8 HB8
  have qBYA00 := BYA0.out.cell 0 _ rfl
  have qBYA01 := BYA0.out.cell 1 _ rfl
  have qBYA02 := BYA0.out.cell 2 _ rfl
  have qBYA03 := BYA0.out.cell 3 _ rfl
  have qBXA00 := BXA0.out.cell 0 _ rfl
  have qBXA01 := BXA0.out.cell 1 _ rfl
  have qBXA02 := BXA0.out.cell 2 _ rfl
  have qBXA03 := BXA0.out.cell 3 _ rfl
  have RT : Hid (∀ wx, Below w8.heap.size w8 wx → Calls Try.prog 15 #[.agg #[.slice a0A0 n0A0 p0A0, .int .i64 z1A0, .int .i64 z2A0, .slice a3A0 n3A0 p3A0]] wx fun e w' => ∃ a0rA0 p0rA0 a3rA0 p3rA0, e = .returned (.agg #[.slice a0rA0 n0A0 p0rA0, .int .i64 z1A0, .int .i64 z2A0, .slice a3rA0 n3A0 p3rA0]) ∧ Hid (uH w' 0 w'.heap.size dA0 [.slice a0rA0 n0A0 p0rA0, .int .i64 z1A0, .int .i64 z2A0, .slice a3rA0 n3A0 p3rA0]) ∧ Hid (Below w8.heap.size w8 w')) := fun wx hb => (HtoA0.out wx (B8.out.trans (hb.mono B8.out.size))).mono fun e w' ⟨a0rA0, p0rA0, a3rA0, p3rA0, S, h1, h2, h3, h4⟩ => ⟨a0rA0, p0rA0, a3rA0, p3rA0, h1, h2.out.hand (lo := 0) (hi := w'.heap.size) (fun g hg => ⟨Nat.zero_le _, (h3.out.2 g hg).2⟩), hb.trans (h4.out.mono hb.size)⟩
  have RE : Hid (∀ (wx : World) (ys : List Value) (lo hi : Nat), Below w8.heap.size w8 wx → uH wx lo hi dA0 ys → Calls Try.prog 10 #[.agg #[.slice a0A0x n0A0 p0A0x, .int .i64 z1A0, .int .i64 z2A0, .slice a3A0x n3A0 p3A0x], .agg ys.toArray] wx fun e w' => e = .returned (.bool true) ∧ Hid (Below w8.heap.size w8 w')) := fun wx ys lo hi hb h => (HeqA0.out wx _ _ lo hi _ ys ((XA0.out.below hb).hand XA0w.out.2) h).mono fun e w' h => ⟨h.1, hb.trans (h.2.out.mono hb.size)⟩
  have hb9r : Hid (Below w8.heap.size w8 w8) := Below.refl _ _
  go_wp2
  have hbr := hb9r
  go_region_with (first
    | (go_at_call 15; refine (RT.out _ (by repeat (first | with_reducible exact Below.refl _ _ | with_reducible exact hbr.out | with_reducible refine Below.drew ?_ | with_reducible refine below_drewN ?_ _))).mono ?_; rintro e wt ⟨a0A0t, p0A0t, a3A0t, p3A0t, rfl, XT, hbt⟩; replace hbr := hbt; have qBYA00r := (BYA0.out.below hbr.out).cell 0 _ rfl; have qBYA01r := (BYA0.out.below hbr.out).cell 1 _ rfl; have qBYA02r := (BYA0.out.below hbr.out).cell 2 _ rfl; have qBYA03r := (BYA0.out.below hbr.out).cell 3 _ rfl)
    | (go_at_call 10; refine (RE.out _ _ _ _ (by repeat (first | with_reducible exact Below.refl _ _ | with_reducible exact hbr.out | with_reducible refine Below.drew ?_ | with_reducible refine below_drewN ?_ _)) (by first | exact XT.out | exact XT.out.below (by repeat (first | with_reducible exact Below.refl _ _ | with_reducible refine Below.drew ?_ | with_reducible refine below_drewN ?_ _)))).mono ?_; rintro e w9 ⟨rfl, hb9⟩))
  all_goals (
    have HB9 := hb9
    have Z9 : Hid (w8.heap.size + 0 ≤ w9.heap.size) := HB9.out.size
    replace BXA0 := uhide (BXA0.out.below HB9.out)
    replace OXA0 := uhide (OXA0.out.below HB9.out)
    replace WR0 := uhide (WR0.out.below HB9.out)
    replace BWR0 := uhide (BWR0.out.below HB9.out)
    replace XA0 := uhide (XA0.out.below HB9.out)
    replace BYA0 := uhide (BYA0.out.below HB9.out)
    replace GR0 := uhide (GR0.out.below HB9.out)
    replace BGR0 := uhide (BGR0.out.below HB9.out)
    have B9 : Hid (Below w.heap.size w w9) := B8.out.trans (HB9.out.mono B8.out.size)
    clear hb9 HB9
    have qBYA00 := BYA0.out.cell 0 _ rfl
    have qBYA01 := BYA0.out.cell 1 _ rfl
    have qBYA02 := BYA0.out.cell 2 _ rfl
    have qBYA03 := BYA0.out.cell 3 _ rfl
    go_wp2_with fail
    refine (HmkA0.out _ _ _ _ _ _ XA0.out XA0w.out (by omega)).mono ?_
    rintro e w10 ⟨rfl, ho10⟩
    clear qBYA00 qBYA01 qBYA02 qBYA03
    replace BXA0 := uhide (BXA0.out.outS ho10 (XA0w.out.not (by have := Zb.out; have := Z2.out; have := Z3.out; have := Z4.out; have := Z5.out; have := Z6.out; have := Z7.out; have := Z8.out; have := Z9.out; omega)))
    replace OXA0 := uhide (OXA0.out.out (XA0w.out.out ho10) (by have := Zb.out; have := Z2.out; have := Z3.out; have := Z4.out; have := Z5.out; have := Z6.out; have := Z7.out; have := Z8.out; have := Z9.out; omega))
    replace WR0 := uhide (WR0.out.out (XA0w.out.out ho10) (by have := Zb.out; have := Z2.out; have := Z3.out; have := Z4.out; have := Z5.out; have := Z6.out; have := Z7.out; have := Z8.out; have := Z9.out; omega))
    replace BWR0 := uhide (BWR0.out.outS ho10 (XA0w.out.not (by have := Zb.out; have := Z2.out; have := Z3.out; have := Z4.out; have := Z5.out; have := Z6.out; have := Z7.out; have := Z8.out; have := Z9.out; omega)))
    replace BYA0 := uhide (BYA0.out.outS ho10 (XA0w.out.not (by have := Zb.out; have := Z2.out; have := Z3.out; have := Z4.out; have := Z5.out; have := Z6.out; have := Z7.out; have := Z8.out; have := Z9.out; omega)))
    replace GR0 := uhide (GR0.out.outs ho10 GR0w.out (fun x hx => by have := XA0w.out.2 x hx; have := Zb.out; have := Z2.out; have := Z3.out; have := Z4.out; have := Z5.out; have := Z6.out; have := Z7.out; have := Z8.out; have := Z9.out; omega))
    replace BGR0 := uhide (BGR0.out.outS ho10 (XA0w.out.not (by have := Zb.out; have := Z2.out; have := Z3.out; have := Z4.out; have := Z5.out; have := Z6.out; have := Z7.out; have := Z8.out; have := Z9.out; omega)))
    have Z10 : Hid (w9.heap.size + 0 ≤ w10.heap.size) := ho10.size
    have B10 : Hid (Below w.heap.size w w10) := B9.out.trans (XA0w.out.below ho10 (by have := B1.out.size; have := Zb.out; have := Z2.out; have := Z3.out; have := Z4.out; have := Z5.out; have := Z6.out; have := Z7.out; have := Z8.out; have := Z9.out; omega) B9.out.size)
    clear ho10
    have hk0 : ¬ ((((1 + mA0) : Nat) : Int) < 0) := by omega
    have RBGR0 : Hid (w10.rangeAt (w6.heap.size) 0 ysR0g) := BGR0.out.whole
    have RBWR0 : Hid (w10.rangeAt (w3.heap.size) 0 ysR0w) := BWR0.out.whole
    go_wp2_with (first | ((with_reducible refine wpList_load_rowG ?qqgr5 43 ?qqxr5 ?qqor5 (w6.heap.size) 0 ?qqhr5 ysR0g Try.rObj_impl_Obj FZBGR0.out RBGR0.out ?_); (case qqgr5 => first | (go_simp; done) | (go_simp; omega)); (case qqor5 => rfl); (case qqhr5 => simp [Act.eval, Act.put])) | ((with_reducible refine wpList_load_rowG ?qqgr6 43 ?qqxr6 ?qqor6 (w3.heap.size) 0 ?qqhr6 ysR0w Try.rObj_impl_Obj FZBWR0.out RBWR0.out ?_); (case qqgr6 => first | (go_simp; done) | (go_simp; omega)); (case qqor6 => rfl); (case qqhr6 => simp [Act.eval, Act.put])))
    refine (HeqR0.out _ _ _ _ _ _ _ ((GR0.out.below (by repeat (first | with_reducible exact Below.refl _ _ | with_reducible refine Below.alloc ?_ (by simp <;> omega) _ | with_reducible refine Below.drew ?_ | with_reducible refine below_drewN ?_ _))).hand GR0w.out.2) (WR0.out.below (by repeat (first | with_reducible exact Below.refl _ _ | with_reducible refine Below.alloc ?_ (by simp <;> omega) _ | with_reducible refine Below.drew ?_ | with_reducible refine below_drewN ?_ _)))).mono ?_
    rintro e w11 ⟨rfl, hb11⟩
    clear RBGR0 RBWR0
    have HB11 : Hid (Below w10.heap.size w10 w11) := Below.trans (by repeat (first | with_reducible exact Below.refl _ _ | with_reducible refine Below.alloc ?_ (by simp <;> omega) _ | with_reducible refine Below.drew ?_ | with_reducible refine below_drewN ?_ _)) (hb11.out.mono (by simp <;> omega))
    have Z11 : Hid (w10.heap.size + 0 ≤ w11.heap.size) := by have h := hb11.out.size; (try simp at h); show _ ≤ _; omega
    replace BXA0 := uhide (BXA0.out.below HB11.out)
    replace OXA0 := uhide (OXA0.out.below HB11.out)
    replace WR0 := uhide (WR0.out.below HB11.out)
    replace BWR0 := uhide (BWR0.out.below HB11.out)
    replace BYA0 := uhide (BYA0.out.below HB11.out)
    replace GR0 := uhide (GR0.out.below HB11.out)
    replace BGR0 := uhide (BGR0.out.below HB11.out)
    have B11 : Hid (Below w.heap.size w w11) := B10.out.trans (HB11.out.mono B10.out.size)
    clear hb11 HB11
    have RBGR0 : Hid (w11.rangeAt (w6.heap.size) 0 ysR0g) := BGR0.out.whole
    go_wp2_with (first | ((with_reducible refine wpList_load_rowG ?qqgr7 43 ?qqxr7 ?qqor7 (w6.heap.size) 0 ?qqhr7 ysR0g Try.rObj_impl_Obj FZBGR0.out RBGR0.out ?_); (case qqgr7 => first | (go_simp; done) | (go_simp; omega)); (case qqor7 => rfl); (case qqhr7 => simp [Act.eval, Act.put])))
    refine (HmkR0.out _ _ _ _ _ _ GR0.out GR0w.out (by omega)).mono ?_
    rintro e w12 ⟨rfl, GMR0, ho12⟩
    clear RBGR0
    replace BXA0 := uhide (BXA0.out.outS ho12 (GR0w.out.not (by have := Zb.out; have := Z2.out; have := Z3.out; have := Z4.out; have := Z5.out; have := Z6.out; have := Z7.out; have := Z8.out; have := Z9.out; have := Z10.out; have := Z11.out; omega)))
    replace OXA0 := uhide (OXA0.out.out (GR0w.out.out ho12) (by have := Zb.out; have := Z2.out; have := Z3.out; have := Z4.out; have := Z5.out; have := Z6.out; have := Z7.out; have := Z8.out; have := Z9.out; have := Z10.out; have := Z11.out; omega))
    replace WR0 := uhide (WR0.out.out (GR0w.out.out ho12) (by have := Zb.out; have := Z2.out; have := Z3.out; have := Z4.out; have := Z5.out; have := Z6.out; have := Z7.out; have := Z8.out; have := Z9.out; have := Z10.out; have := Z11.out; omega))
    replace BWR0 := uhide (BWR0.out.outS ho12 (GR0w.out.not (by have := Zb.out; have := Z2.out; have := Z3.out; have := Z4.out; have := Z5.out; have := Z6.out; have := Z7.out; have := Z8.out; have := Z9.out; have := Z10.out; have := Z11.out; omega)))
    replace BYA0 := uhide (BYA0.out.outS ho12 (GR0w.out.not (by have := Zb.out; have := Z2.out; have := Z3.out; have := Z4.out; have := Z5.out; have := Z6.out; have := Z7.out; have := Z8.out; have := Z9.out; have := Z10.out; have := Z11.out; omega)))
    replace BGR0 := uhide (BGR0.out.outS ho12 (GR0w.out.not (by have := Zb.out; have := Z2.out; have := Z3.out; have := Z4.out; have := Z5.out; have := Z6.out; have := Z7.out; have := Z8.out; have := Z9.out; have := Z10.out; have := Z11.out; omega)))
    have Z12 : Hid (w11.heap.size + 0 ≤ w12.heap.size) := ho12.size
    have B12 : Hid (Below w.heap.size w w12) := B11.out.trans (GR0w.out.below ho12 (by have := B1.out.size; have := Zb.out; have := Z2.out; have := Z3.out; have := Z4.out; have := Z5.out; have := Z6.out; have := Z7.out; have := Z8.out; have := Z9.out; have := Z10.out; have := Z11.out; omega) B11.out.size)
    clear ho12
    replace GMR0 := uhide GMR0
    have GMR0w := GR0w
    have hq0 : ¬ ((((1 + mR0) : Nat) : Int) < 0) := by omega
    have hq1 : (((((1 + mR0) : Nat) : Int)) != ((((1 + mR0) : Nat) : Int))) = false := by simp
    have RBGR0 : Hid (w12.rangeAt (w6.heap.size) 0 ysR0g) := BGR0.out.whole
    go_wp2_with (first | ((with_reducible refine wpList_load_rowG ?qqgr8 43 ?qqxr8 ?qqor8 (w6.heap.size) 0 ?qqhr8 ysR0g Try.rObj_impl_Obj FZBGR0.out RBGR0.out ?_); (case qqgr8 => first | (go_simp; done) | (go_simp; omega)); (case qqor8 => rfl); (case qqhr8 => simp [Act.eval, Act.put])))
    refine (HhdR0.out _ _ _ _ _ ((GMR0.out.below (by repeat (first | with_reducible exact Below.refl _ _ | with_reducible refine Below.alloc ?_ (by simp <;> omega) _ | with_reducible refine Below.drew ?_ | with_reducible refine below_drewN ?_ _))).hand GMR0w.out.2) (by omega)).mono ?_
    rintro e w13 ⟨rfl, hb13⟩
    clear RBGR0
    have HB13 : Hid (Below w12.heap.size w12 w13) := Below.trans (by repeat (first | with_reducible exact Below.refl _ _ | with_reducible refine Below.alloc ?_ (by simp <;> omega) _ | with_reducible refine Below.drew ?_ | with_reducible refine below_drewN ?_ _)) (hb13.out.mono (by simp <;> omega))
    have Z13 : Hid (w12.heap.size + 0 ≤ w13.heap.size) := by have h := hb13.out.size; (try simp at h); show _ ≤ _; omega
    replace BXA0 := uhide (BXA0.out.below HB13.out)
    replace OXA0 := uhide (OXA0.out.below HB13.out)
    replace WR0 := uhide (WR0.out.below HB13.out)
    replace BWR0 := uhide (BWR0.out.below HB13.out)
    replace BYA0 := uhide (BYA0.out.below HB13.out)
    replace BGR0 := uhide (BGR0.out.below HB13.out)
    replace GMR0 := uhide (GMR0.out.below HB13.out)
    have B13 : Hid (Below w.heap.size w w13) := B12.out.trans (HB13.out.mono B12.out.size)
    clear hb13 HB13
    have qBXA00 := BXA0.out.cell 0 _ rfl
    have qBXA01 := BXA0.out.cell 1 _ rfl
    have qBXA02 := BXA0.out.cell 2 _ rfl
    have qBXA03 := BXA0.out.cell 3 _ rfl
    go_wp2_with fail
    refine (HtoA0.out _ (by repeat (first | with_reducible exact B13.out | with_reducible refine Below.alloc ?_ (by have := B13.out.size; (try simp) <;> omega) _ | with_reducible refine Below.drew ?_ | with_reducible refine below_drewN ?_ _))).mono ?_
    rintro e w14 ⟨a0A0u, p0A0u, a3A0u, p3A0u, SUA0, rfl, UA0, UA0w, hb14⟩
    clear qBXA00 qBXA01 qBXA02 qBXA03
    have HB14 : Hid (Below w13.heap.size w13 w14) := Below.trans (by repeat (first | with_reducible exact Below.refl _ _ | with_reducible refine Below.alloc ?_ (by simp <;> omega) _ | with_reducible refine Below.drew ?_ | with_reducible refine below_drewN ?_ _)) (hb14.out.mono (by simp <;> omega))
    have Z14 : Hid (w13.heap.size + 0 ≤ w14.heap.size) := by have h := hb14.out.size; (try simp at h); show _ ≤ _; omega
    replace UA0w := uhide (UA0w.out.mono (a' := w13.heap.size + 0) (by (try simp) <;> omega) (Nat.le_refl _))
    replace BXA0 := uhide (BXA0.out.below HB14.out)
    replace OXA0 := uhide (OXA0.out.below HB14.out)
    replace WR0 := uhide (WR0.out.below HB14.out)
    replace BWR0 := uhide (BWR0.out.below HB14.out)
    replace BYA0 := uhide (BYA0.out.below HB14.out)
    replace BGR0 := uhide (BGR0.out.below HB14.out)
    replace GMR0 := uhide (GMR0.out.below HB14.out)
    have B14 : Hid (Below w.heap.size w w14) := B13.out.trans (HB14.out.mono B13.out.size)
    clear hb14 HB14
    go_wp2_with fail
    refine (HIQ.out _ _ _ _ _ (UA0.out.below (by repeat (first | with_reducible exact Below.refl _ _ | with_reducible refine Below.alloc ?_ (by simp <;> omega) _ | with_reducible refine Below.drew ?_ | with_reducible refine below_drewN ?_ _))) UA0w.out).mono ?_
    rintro e w15 ⟨ysR0h, SR0h, rfl, KR0, KR0w, hb15⟩
    have HB15 : Hid (Below w14.heap.size w14 w15) := Below.trans (by repeat (first | with_reducible exact Below.refl _ _ | with_reducible refine Below.alloc ?_ (by simp <;> omega) _ | with_reducible refine Below.drew ?_ | with_reducible refine below_drewN ?_ _)) (hb15.out.mono (by simp <;> omega))
    have Z15 : Hid (w14.heap.size + 0 ≤ w15.heap.size) := by have h := hb15.out.size; (try simp at h); show _ ≤ _; omega
    replace KR0w := uhide (KR0w.out.mono (a' := w14.heap.size + 0) (by (try simp) <;> omega) (Nat.le_refl _))
    replace BXA0 := uhide (BXA0.out.below HB15.out)
    replace OXA0 := uhide (OXA0.out.below HB15.out)
    replace WR0 := uhide (WR0.out.below HB15.out)
    replace BWR0 := uhide (BWR0.out.below HB15.out)
    replace BYA0 := uhide (BYA0.out.below HB15.out)
    replace BGR0 := uhide (BGR0.out.below HB15.out)
    replace GMR0 := uhide (GMR0.out.below HB15.out)
    replace UA0 := uhide (UA0.out.below HB15.out)
    have B15 : Hid (Below w.heap.size w w15) := B14.out.trans (HB15.out.mono B14.out.size)
    clear hb15 HB15
    simp only
    have HLBHR0 : Hid (ysR0h.length = 17) := KR0.out.len.trans (tyL.len HrR0.out)
    have ONBHR0 : Hid (∀ u ∈ ysR0h, u.oneCell' = true) := ones_own HrR0.out KR0.out
    have FZBHR0 : Hid ((Try.prog.info? 43).map (·.size) = some ysR0h.length) := by show _ = _; rw [HLBHR0.out]; exact Try.zObj_impl_Obj
    have THBHR0 : Hid ((w15.alloc (.cells ([.int .i64 0, .string ⟨#[]⟩, .int .i64 0, .int .i64 0, .int .i64 0, .bool false, .slice none 0 0, .int .i64 0, .string ⟨#[]⟩, .int .i64 0, .slice none 0 0, .slice none 0 0, .int .i64 0, .string ⟨#[]⟩, .int .i64 0, .slice none 0 0, .slice none 0 0] : List Value).toArray 43)).there w15.heap.size 0 ysR0h.length) := by show World.there _ _ _ _; rw [HLBHR0.out]; exact (objU.new w15 43 [.int .i64 0, .string ⟨#[]⟩, .int .i64 0, .int .i64 0, .int .i64 0, .bool false, .slice none 0 0, .int .i64 0, .string ⟨#[]⟩, .int .i64 0, .slice none 0 0, .slice none 0 0, .int .i64 0, .string ⟨#[]⟩, .int .i64 0, .slice none 0 0, .slice none 0 0]).there 0 17 (by decide)
    go_wp2_with (first | ((with_reducible refine wpList_store_cells ?qqgr9 43 ?qqxr9 ?qqyr9 ?qqor9 ?qqdr9 w15.heap.size 0 ?qqhr9 (.agg ysR0h.toArray) ?qqvr9 ysR0h cells_agg ONBHR0.out FZBHR0.out THBHR0.out ?_); (case qqgr9 => rfl); (case qqor9 => rfl); (case qqdr9 => rfl); (case qqhr9 => simp [Act.eval, Act.put]); (case qqvr9 => simp [Act.eval, Act.put])))
    intro w16 ey
    have OY := rowBox w15 43 ysR0h [.int .i64 0, .string ⟨#[]⟩, .int .i64 0, .int .i64 0, .int .i64 0, .bool false, .slice none 0 0, .int .i64 0, .string ⟨#[]⟩, .int .i64 0, .slice none 0 0, .slice none 0 0, .int .i64 0, .string ⟨#[]⟩, .int .i64 0, .slice none 0 0, .slice none 0 0] (by rw [HLBHR0.out]; rfl) w16 ey
    clear ey THBHR0 ONBHR0
    have BHR0 : Hid (objU w16 (w15.heap.size) 43 ysR0h) := OY.1
    have HB16 : Hid (Below w15.heap.size w15 w16) := OY.2
    clear OY
    have Z16 : Hid (w15.heap.size + 1 ≤ w16.heap.size) := BHR0.out.lt
    replace BXA0 := uhide (BXA0.out.below HB16.out)
    replace OXA0 := uhide (OXA0.out.below HB16.out)
    replace WR0 := uhide (WR0.out.below HB16.out)
    replace BWR0 := uhide (BWR0.out.below HB16.out)
    replace BYA0 := uhide (BYA0.out.below HB16.out)
    replace BGR0 := uhide (BGR0.out.below HB16.out)
    replace GMR0 := uhide (GMR0.out.below HB16.out)
    replace UA0 := uhide (UA0.out.below HB16.out)
    replace KR0 := uhide (KR0.out.below HB16.out)
    have B16 : Hid (Below w.heap.size w w16) := B15.out.trans (HB16.out.mono B15.out.size)
    clear HB16
    have RBHR0 : Hid (w16.rangeAt (w15.heap.size) 0 ysR0h) := BHR0.out.whole
    have RBWR0 : Hid (w16.rangeAt (w3.heap.size) 0 ysR0w) := BWR0.out.whole
    go_wp2_with (first | ((with_reducible refine wpList_load_rowG ?qqgr10 43 ?qqxr10 ?qqor10 (w15.heap.size) 0 ?qqhr10 ysR0h Try.rObj_impl_Obj FZBHR0.out RBHR0.out ?_); (case qqgr10 => first | (go_simp; done) | (go_simp; omega)); (case qqor10 => rfl); (case qqhr10 => simp [Act.eval, Act.put])) | ((with_reducible refine wpList_load_rowG ?qqgr11 43 ?qqxr11 ?qqor11 (w3.heap.size) 0 ?qqhr11 ysR0w Try.rObj_impl_Obj FZBWR0.out RBWR0.out ?_); (case qqgr11 => first | (go_simp; done) | (go_simp; omega)); (case qqor11 => rfl); (case qqhr11 => simp [Act.eval, Act.put])))
    refine (HeqR0.out _ _ _ _ _ _ _ ((KR0.out.below (by repeat (first | with_reducible exact Below.refl _ _ | with_reducible refine Below.alloc ?_ (by simp <;> omega) _ | with_reducible refine Below.drew ?_ | with_reducible refine below_drewN ?_ _))).hand KR0w.out.2) (WR0.out.below (by repeat (first | with_reducible exact Below.refl _ _ | with_reducible refine Below.alloc ?_ (by simp <;> omega) _ | with_reducible refine Below.drew ?_ | with_reducible refine below_drewN ?_ _)))).mono ?_
    rintro e w17 ⟨rfl, hb17⟩
    clear RBHR0 RBWR0
    have HB17 : Hid (Below w16.heap.size w16 w17) := Below.trans (by repeat (first | with_reducible exact Below.refl _ _ | with_reducible refine Below.alloc ?_ (by simp <;> omega) _ | with_reducible refine Below.drew ?_ | with_reducible refine below_drewN ?_ _)) (hb17.out.mono (by simp <;> omega))
    have Z17 : Hid (w16.heap.size + 0 ≤ w17.heap.size) := by have h := hb17.out.size; (try simp at h); show _ ≤ _; omega
    replace BXA0 := uhide (BXA0.out.below HB17.out)
    replace OXA0 := uhide (OXA0.out.below HB17.out)
    replace WR0 := uhide (WR0.out.below HB17.out)
    replace BWR0 := uhide (BWR0.out.below HB17.out)
    replace BYA0 := uhide (BYA0.out.below HB17.out)
    replace BGR0 := uhide (BGR0.out.below HB17.out)
    replace GMR0 := uhide (GMR0.out.below HB17.out)
    replace UA0 := uhide (UA0.out.below HB17.out)
    replace KR0 := uhide (KR0.out.below HB17.out)
    replace BHR0 := uhide (BHR0.out.below HB17.out)
    have B17 : Hid (Below w.heap.size w w17) := B16.out.trans (HB17.out.mono B16.out.size)
    clear hb17 HB17
    have RBGR0 : Hid (w17.rangeAt (w6.heap.size) 0 ysR0g) := BGR0.out.whole
    go_wp2_with (first | ((with_reducible refine wpList_load_rowG ?qqgr12 43 ?qqxr12 ?qqor12 (w6.heap.size) 0 ?qqhr12 ysR0g Try.rObj_impl_Obj FZBGR0.out RBGR0.out ?_); (case qqgr12 => first | (go_simp; done) | (go_simp; omega)); (case qqor12 => rfl); (case qqhr12 => simp [Act.eval, Act.put])))
    refine (HhdR0.out _ _ _ _ _ ((GMR0.out.below (by repeat (first | with_reducible exact Below.refl _ _ | with_reducible refine Below.alloc ?_ (by simp <;> omega) _ | with_reducible refine Below.drew ?_ | with_reducible refine below_drewN ?_ _))).hand GMR0w.out.2) (by omega)).mono ?_
    rintro e w18 ⟨rfl, hb18⟩
    clear RBGR0
    have HB18 : Hid (Below w17.heap.size w17 w18) := Below.trans (by repeat (first | with_reducible exact Below.refl _ _ | with_reducible refine Below.alloc ?_ (by simp <;> omega) _ | with_reducible refine Below.drew ?_ | with_reducible refine below_drewN ?_ _)) (hb18.out.mono (by simp <;> omega))
    have Z18 : Hid (w17.heap.size + 0 ≤ w18.heap.size) := by have h := hb18.out.size; (try simp at h); show _ ≤ _; omega
    replace BXA0 := uhide (BXA0.out.below HB18.out)
    replace OXA0 := uhide (OXA0.out.below HB18.out)
    replace WR0 := uhide (WR0.out.below HB18.out)
    replace BWR0 := uhide (BWR0.out.below HB18.out)
    replace BYA0 := uhide (BYA0.out.below HB18.out)
    replace BGR0 := uhide (BGR0.out.below HB18.out)
    replace GMR0 := uhide (GMR0.out.below HB18.out)
    replace UA0 := uhide (UA0.out.below HB18.out)
    replace KR0 := uhide (KR0.out.below HB18.out)
    replace BHR0 := uhide (BHR0.out.below HB18.out)
    have B18 : Hid (Below w.heap.size w w18) := B17.out.trans (HB18.out.mono B17.out.size)
    clear hb18 HB18
    go_wp2
    go_ret
    exact ⟨rfl, by repeat (first | with_reducible exact B18.out | with_reducible refine Below.drew ?_ | with_reducible refine below_drewN ?_ _)⟩)
set_option maxRecDepth 100000 in
theorem lifted (os : Os) (started : os.Started) (H : Type) (enc : TypeId × Value → H) :
    ReturnsInHanded {} Try.checked os 5 .any (Rows.fnExactGetSpec.pre6 enc Try.prog Try.f5 Rows.fnExactGetRow.domain false) (Rows.fnExactGetSpec.post enc Try.prog Try.f5 false true false false) := by
  refine returnsInHanded_of_change (C := Try.checked) own started (by kernel_rfl) Try.func5
    (ChangeSpec.witness6 (enc := enc) (C := Try.checked) false ⟨#[], #[.agg #[.slice none 0 0, .int .i64 0, .int .i64 0, .slice none 0 0], .int .i64 0, .string ByteArray.empty], []⟩ 12 (by kernel_rfl) (by kernel_rfl) (by kernel_rfl) (by kernel_rfl)) ?_
  intro W base args ds gs before hval0 hW hcnd _
  have hval : ∀ (j : Nat) t v, Try.f5.params[j]? = some t → args[j]? = some v → Value.okWide Try.prog W .any base t v := hval0
  have hW' := hW
  obtain ⟨p, q, hA0, hV, rfl, hfz, hnd⟩ := hW
  have hA : DataW.TrodAll enc Try.prog W 0 (fun _ => true) true Try.f5.params.toList args.toList ds p := hA0
  rw [Try.params5] at hA hval
  obtain ⟨v0, vs0, d0, ds0, p0, q0, hargs, rfl, rfl, h0, r0⟩ := trodAll_cons hA
  obtain ⟨v1, vs1, d1, ds1, p1, q1, rfl, rfl, rfl, h1, r1⟩ := trodAll_cons r0
  obtain ⟨v2, vs2, d2, ds2, p2, q2, rfl, rfl, rfl, h2, r2⟩ := trodAll_cons r1
  obtain ⟨rfl, rfl, rfl⟩ := trodAll_nil r2
  obtain rfl : args = #[v0, v1, v2] := by cases args; simp_all
  obtain ⟨rfl, rfl⟩ := trodVars_none hV
  obtain ⟨cs0, rfl, hsz0⟩ := okWide_struct Try.underlying33 (hval 0 33 v0 rfl rfl)
  have k0 := h0
  have lt0 : ∀ x ∈ p0, x.block < W.heap.size := by obtain ⟨m, hm⟩ := k0; exact DataW.trod_lt m _ _ _ hm
  obtain ⟨fuel0, hf0⟩ := h0
  obtain ⟨xs0, rfl⟩ : ∃ xs : List Value, cs0 = xs.toArray := ⟨cs0.toList, by simp⟩
  have hl0 : xs0.length = (uE 10).length := (show xs0.length = xs0.toArray.size by simp).trans (hsz0.trans (show Try.prog.cellsOf 33 = (uE 10).length by kernel_rfl))
  obtain ⟨dd0, hd0, hh0⟩ := openU (enc := enc) flatU fuel0 _ _ flatBase xs0 _ hl0 (by simpa [Value.cells] using hf0)
  obtain ⟨n1, rfl, rfl, rfl, w1⟩ := open_int Try.underlying3 (hval 1 3 v1 rfl rfl) h1
  have wi1 : inK .i64 n1 := by have h := Go.Joins.in64_of_wf w1; unfold Go.Joins.In64 at h; exact ⟨by omega, by omega⟩
  obtain ⟨s2, rfl, rfl, rfl, w2⟩ := open_string Try.underlying9 (hval 2 9 v2 rfl rfl) h2
  clear hA0 hval0
  refine (walk dd0 xs0 n1 s2 W hd0 hh0 wi1 w2).mono fun e W' ⟨he, bel⟩ => ?_
  subst he
  exact ⟨_, rfl, _, _, _, [], _, [], hW', trodAll_mk1 (shut_bool Try.underlying4 _), (trodAll_cons_mk (Below.trod laidOut (by kernel_rfl) (of_decide_eq_true (by kernel_rfl)) k0 bel lt0) (trodAll_cons_mk (shut_int Try.underlying3 w1) (trodAll_cons_mk (shut_string Try.underlying9 w2) trodAll_mk0))), rfl, bel.frame _, fun h => by cases h⟩
end LGet
theorem get_holds : Rows.FnExactGetSaid :=
  OpenClaim.holds_of_wide 5 Try.f5 rfl rfl rfl rfl rfl rfl rfl ⟨rfl, rfl, rfl, rfl, rfl⟩ rfl rfl rfl rfl rfl (by kernel_rfl) Try.func5 (by kernel_rfl)
    (of_decide_eq_true (by kernel_rfl)) (by unfold Func.isWrapper; first | (rw [if_pos (by decide +kernel)]; kernel_rfl) | (rw [if_neg (by decide +kernel)]; exact ⟨rfl, rfl⟩))
    (fun os started H enc _ => LGet.lifted os started H enc)
#print axioms get_holds
end Go.Proofs.Ytamlgjmboljcdaa
