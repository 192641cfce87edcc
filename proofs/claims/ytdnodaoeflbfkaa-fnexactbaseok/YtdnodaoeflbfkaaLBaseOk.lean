/- FnExactBaseOk holds: at every base impl.BaseOk answers what spec.BaseOk answers. No conditions. -/
import Derived.Test.YtdnodaoeflbfkaaRows
import Derived.Test.YtdnodaoeflbfkaaOB13
import Derived.Test.YtdnodaoeflbfkaaUTBasea
import Derived.Test.YtdnodaoeflbfkaaUTBaseb
import Derived.Test.YtdnodaoeflbfkaaUTBasec
import Derived.Test.YtdnodaoeflbfkaaU3
import Derived.WalkKit
import Derived.ProofKit
import Derived.OpenShut
import Derived.ShutString
import Derived.ChangeOld
import Derived.Below
namespace Go.Proofs.Ytdnodaoeflbfkaa
open Go.ChangeShapes Go.WideShapes Go.ChangeAt Go.RowKit Go.BigFrame
open Go.ChangeMaps (open_string shut_string)
set_option linter.unusedVariables false
namespace LBaseOk
theorem laidOut : laidOutB Try.prog = true := by kernel_rfl
theorem own : ownKnob Try.prog.godebug = none := by kernel_rfl
def TYU : Nat → TypeId
  | 8 => 221
  | 0 => 9
  | 6 => 219
  | 9 => 224
  | _ => 0
def GU (n : Nat) : Prop := n = 8 ∨ n = 0 ∨ n = 6 ∨ n = 9
theorem flatBase : Flat Try.prog TYU GU 61 (uE 10) := by
  refine Flat.struct [[.l 17 8], [.i .i64], [.i .i64], [.l 19 9]] Try.underlying61 rfl (fun i f s hf hs => ?_) (fun i f s hf hs => ?_)
  · match i, hf, hs with
    | 0, hf, hs => cases hf; cases hs; exact (Flat.slice 8 Try.underlying58 (by simp [GU]) (by kernel_rfl) (by decide))
    | 1, hf, hs => cases hf; cases hs; exact (Flat.i64 Try.underlying3)
    | 2, hf, hs => cases hf; cases hs; exact (Flat.i64 Try.underlying3)
    | 3, hf, hs => cases hf; cases hs; exact (Flat.slice 9 Try.underlying59 (by simp [GU]) (by kernel_rfl) (by decide))
    | i + 4, hf, hs => simp at hs
  · match i, hf, hs with
    | 0, hf, hs => cases hf; cases hs; exact ⟨by kernel_rfl, rfl⟩
    | 1, hf, hs => cases hf; cases hs; exact ⟨by kernel_rfl, rfl⟩
    | 2, hf, hs => cases hf; cases hs; exact ⟨by kernel_rfl, rfl⟩
    | 3, hf, hs => cases hf; cases hs; exact ⟨by kernel_rfl, rfl⟩
    | i + 4, hf, hs => simp at hs
theorem flatValue : Flat Try.prog TYU GU 219 (uE 6) := by
  refine Flat.struct [[.i .i64], [.s], [.i .i64], [.l 1 0], [.l 5 6]] Try.underlying219 rfl (fun i f s hf hs => ?_) (fun i f s hf hs => ?_)
  · match i, hf, hs with
    | 0, hf, hs => cases hf; cases hs; exact (Flat.i64 Try.underlying3)
    | 1, hf, hs => cases hf; cases hs; exact (Flat.str Try.underlying9)
    | 2, hf, hs => cases hf; cases hs; exact (Flat.i64 Try.underlying3)
    | 3, hf, hs => cases hf; cases hs; exact (Flat.slice 0 Try.underlying25 (by simp [GU]) (by kernel_rfl) (by decide))
    | 4, hf, hs => cases hf; cases hs; exact (Flat.slice 6 Try.underlying217 (by simp [GU]) (by kernel_rfl) (by decide))
    | i + 5, hf, hs => simp at hs
  · match i, hf, hs with
    | 0, hf, hs => cases hf; cases hs; exact ⟨by kernel_rfl, rfl⟩
    | 1, hf, hs => cases hf; cases hs; exact ⟨by kernel_rfl, rfl⟩
    | 2, hf, hs => cases hf; cases hs; exact ⟨by kernel_rfl, rfl⟩
    | 3, hf, hs => cases hf; cases hs; exact ⟨by kernel_rfl, rfl⟩
    | 4, hf, hs => cases hf; cases hs; exact ⟨by kernel_rfl, rfl⟩
    | i + 5, hf, hs => simp at hs
theorem flatObj : Flat Try.prog TYU GU 221 (uE 8) := by
  refine Flat.struct [[.i .i64], [.s], [.i .i64], [.i .i64], [.i .i64], [.b], [.l 1 0], [.i .i64, .s, .i .i64, .l 1 0, .l 5 6], [.i .i64, .s, .i .i64, .l 1 0, .l 5 6]] Try.underlying221 rfl (fun i f s hf hs => ?_) (fun i f s hf hs => ?_)
  · match i, hf, hs with
    | 0, hf, hs => cases hf; cases hs; exact (Flat.i64 Try.underlying3)
    | 1, hf, hs => cases hf; cases hs; exact (Flat.str Try.underlying9)
    | 2, hf, hs => cases hf; cases hs; exact (Flat.i64 Try.underlying3)
    | 3, hf, hs => cases hf; cases hs; exact (Flat.i64 Try.underlying3)
    | 4, hf, hs => cases hf; cases hs; exact (Flat.i64 Try.underlying3)
    | 5, hf, hs => cases hf; cases hs; exact (Flat.bool Try.underlying4)
    | 6, hf, hs => cases hf; cases hs; exact (Flat.slice 0 Try.underlying25 (by simp [GU]) (by kernel_rfl) (by decide))
    | 7, hf, hs => cases hf; cases hs; exact flatValue
    | 8, hf, hs => cases hf; cases hs; exact flatValue
    | i + 9, hf, hs => simp at hs
  · match i, hf, hs with
    | 0, hf, hs => cases hf; cases hs; exact ⟨by kernel_rfl, rfl⟩
    | 1, hf, hs => cases hf; cases hs; exact ⟨by kernel_rfl, rfl⟩
    | 2, hf, hs => cases hf; cases hs; exact ⟨by kernel_rfl, rfl⟩
    | 3, hf, hs => cases hf; cases hs; exact ⟨by kernel_rfl, rfl⟩
    | 4, hf, hs => cases hf; cases hs; exact ⟨by kernel_rfl, rfl⟩
    | 5, hf, hs => cases hf; cases hs; exact ⟨by kernel_rfl, rfl⟩
    | 6, hf, hs => cases hf; cases hs; exact ⟨by kernel_rfl, rfl⟩
    | 7, hf, hs => cases hf; cases hs; exact ⟨by kernel_rfl, rfl⟩
    | 8, hf, hs => cases hf; cases hs; exact ⟨by kernel_rfl, rfl⟩
    | i + 9, hf, hs => simp at hs
theorem flatChange : Flat Try.prog TYU GU 224 (uE 9) := by
  refine Flat.struct [[.i .i64], [.b], [.i .i64, .s, .i .i64, .i .i64, .i .i64, .b, .l 1 0, .i .i64, .s, .i .i64, .l 1 0, .l 5 6, .i .i64, .s, .i .i64, .l 1 0, .l 5 6]] Try.underlying224 rfl (fun i f s hf hs => ?_) (fun i f s hf hs => ?_)
  · match i, hf, hs with
    | 0, hf, hs => cases hf; cases hs; exact (Flat.i64 Try.underlying3)
    | 1, hf, hs => cases hf; cases hs; exact (Flat.bool Try.underlying4)
    | 2, hf, hs => cases hf; cases hs; exact flatObj
    | i + 3, hf, hs => simp at hs
  · match i, hf, hs with
    | 0, hf, hs => cases hf; cases hs; exact ⟨by kernel_rfl, rfl⟩
    | 1, hf, hs => cases hf; cases hs; exact ⟨by kernel_rfl, rfl⟩
    | 2, hf, hs => cases hf; cases hs; exact ⟨by kernel_rfl, rfl⟩
    | i + 3, hf, hs => simp at hs
theorem flatU : ∀ n, GU n → Flat Try.prog TYU GU (TYU n) (uE n) := by
  intro n h
  unfold GU at h
  rcases h with rfl | rfl | rfl | rfl
  · exact flatObj
  · exact (Flat.str Try.underlying9)
  · exact flatValue
  · exact flatChange
set_option maxRecDepth 20000 in
set_option maxHeartbeats 3200000 in
theorem walk (dA0 : UD) (xsA0 : List Value) (w : World) (htA0 : tyL dA0 (uE 10)) (hxA0 : uH w 0 w.heap.size dA0 xsA0) :
    Calls Try.prog 7 #[.agg xsA0.toArray] w fun e w' => e = .returned (.bool true) ∧ Below w.heap.size w w' := by
  obtain ⟨n0A0, c0A0, z1A0, z2A0, n3A0, c3A0, hdA0, g0A0, g1A0, g2A0, g3A0⟩ := partsBase htA0
  have SHA0 : Hid (∀ (wx : World) (lo hi : Nat) (ys : List Value), uH wx lo hi dA0 ys → ∃ a0A0 p0A0 a3A0 p3A0, ys = [.slice a0A0 n0A0 p0A0, .int .i64 z1A0, .int .i64 z2A0, .slice a3A0 n3A0 p3A0]) := by
    intro wx lo hi ys h
    rw [hdA0] at h
    obtain ⟨v0A0, _, rfl, s0, ⟨_, rfl, ⟨_, rfl, ⟨v3A0, _, rfl, s3, rfl⟩⟩⟩⟩ := h
    obtain ⟨a0A0, p0A0, rfl, t0A0⟩ := s0
    obtain ⟨a3A0, p3A0, rfl, t3A0⟩ := s3
    exact ⟨a0A0, p0A0, a3A0, p3A0, rfl⟩
  obtain ⟨a0A0, p0A0, a3A0, p3A0, rfl⟩ := SHA0.out w _ _ xsA0 hxA0
  have OXA0 : Hid (uH w 0 w.heap.size dA0 [.slice a0A0 n0A0 p0A0, .int .i64 z1A0, .int .i64 z2A0, .slice a3A0 n3A0 p3A0]) := hxA0
  have HtA0 := uhide htA0
  clear hxA0 hdA0 g0A0 g1A0 g2A0 g3A0
  obtain ⟨l1, hl1⟩ : ∃ l, leftI (1048576 : Int) (wt dA0) = l := ⟨_, rfl⟩
  have HsA0 : Hid (∀ wx, Below w.heap.size w wx → Calls Try.prog 28 #[.agg #[.slice a0A0 n0A0 p0A0, .int .i64 z1A0, .int .i64 z2A0, .slice a3A0 n3A0 p3A0], .int .i64 1048576] wx fun e w' => e = .returned (.int .i64 l1) ∧ Hid (Below wx.heap.size wx w')) := fun wx hb => hl1 ▸ uszBase_any (lo := 0) (hi := w.heap.size) dA0 [.slice a0A0 n0A0 p0A0, .int .i64 z1A0, .int .i64 z2A0, .slice a3A0 n3A0 p3A0] 1048576 wx HtA0.out (OXA0.out.below hb) (by decide) (by decide)
  have hle0 : l1 ≤ 1048576 := by rw [← hl1]; unfold leftI; split <;> omega
  by_cases hn0 : l1 < 0
  · go_enter Try.func7, Try.ntmps7
    go_wp2_with fail
    refine (HsA0.out _ (by repeat (first | with_reducible exact Below.refl _ _ | with_reducible refine Below.alloc ?_ (by simp <;> omega) _ | with_reducible refine Below.drew ?_ | with_reducible refine below_drewN ?_ _))).mono ?_
    rintro e w1 ⟨rfl, hb1⟩
    have HB1 : Hid (Below w.heap.size w w1) := Below.trans (by repeat (first | with_reducible exact Below.refl _ _ | with_reducible refine Below.alloc ?_ (by simp <;> omega) _ | with_reducible refine Below.drew ?_ | with_reducible refine below_drewN ?_ _)) (hb1.out.mono (by simp <;> omega))
    have BXA0_1 : Hid (objU w1 (w.heap.size) 61 [.slice a0A0 n0A0 p0A0, .int .i64 z1A0, .int .i64 z2A0, .slice a3A0 n3A0 p3A0]) := objU.below (by repeat (first | with_reducible exact objU.new2 _ _ (by simp) | with_reducible refine objU.old ?_ _)) hb1.out
    have B1 : Hid (Below w.heap.size w w1) := HB1
    clear hb1
    go_wp2
    go_ret
    exact ⟨rfl, B1.out⟩
  have Hw0 : Hid (l1 = 1048576 - ((wt dA0) : Nat)) := by show _ = _; rw [← hl1]; exact (leftI_pos 0 (by rw [hl1]; exact hn0)).2.1
  have hw0 := Hw0.out
  obtain ⟨bR0, HSP, HIM⟩ := baseOk_both dA0 HtA0.out (by omega)
  replace HSP := uhide HSP
  replace HIM := uhide HIM
  have HSQ : Hid (∀ (wx : World) (loA0 hiA0 : Nat) (xsA0 : List Value), uH wx loA0 hiA0 dA0 xsA0 → Calls Try.prog 29 #[.agg xsA0.toArray] wx fun e w' => e = .returned (.bool bR0) ∧ Hid (Below wx.heap.size wx w')) := fun wx loA0 hiA0 xsA0 hA0 => (HSP.out _ _ _ _ hA0).mono fun e w' ⟨h1, hb⟩ => by
    exact ⟨h1, hb⟩
  have HIQ : Hid (∀ (wx : World) (loA0 hiA0 : Nat) (xsA0 : List Value), uH wx loA0 hiA0 dA0 xsA0 → Calls Try.prog 31 #[.agg xsA0.toArray] wx fun e w' => e = .returned (.bool bR0) ∧ Hid (Below wx.heap.size wx w')) := fun wx loA0 hiA0 xsA0 hA0 => (HIM.out _ _ _ _ hA0).mono fun e w' ⟨h1, hb⟩ => by
    exact ⟨h1, hb⟩
  clear HSP HIM
  have hctA0 : cntT dA0 ≤ 42000000 := by have := cntT_wt HtA0.out; omega
  have HtoA0 : Hid (∀ wx, Below w.heap.size w wx → Calls Try.prog 30 #[.agg #[.slice a0A0 n0A0 p0A0, .int .i64 z1A0, .int .i64 z2A0, .slice a3A0 n3A0 p3A0]] wx fun e w' => ∃ a0rA0 p0rA0 a3rA0 p3rA0 S, e = .returned (.agg #[.slice a0rA0 n0A0 p0rA0, .int .i64 z1A0, .int .i64 z2A0, .slice a3rA0 n3A0 p3rA0]) ∧ Hid (oH w' dA0 [.slice a0rA0 n0A0 p0rA0, .int .i64 z1A0, .int .i64 z2A0, .slice a3rA0 n3A0 p3rA0] S) ∧ Hid (own2 S wx.heap.size w'.heap.size) ∧ Hid (Below wx.heap.size wx w')) := fun wx hb => (utoBase_any (lo := 0) (hi := w.heap.size) dA0 [.slice a0A0 n0A0 p0A0, .int .i64 z1A0, .int .i64 z2A0, .slice a3A0 n3A0 p3A0] wx HtA0.out (by omega) (OXA0.out.below hb)).mono fun e w' ⟨ys, S, h1, h2, h3, h4, h5⟩ => by
    have hO : own2 S wx.heap.size w'.heap.size := ⟨h3, fun s hs => ⟨h4 s hs, h2.lt _ _ _ s hs⟩⟩
    obtain ⟨a0A0, p0A0, a3A0, p3A0, rfl⟩ := SHA0.out w' _ _ ys (h2.hand hO.2)
    exact ⟨a0A0, p0A0, a3A0, p3A0, S, h1, h2, hO, h5⟩
  have HeqA0 : Hid (∀ (wx : World) (lo hi lo' hi' : Nat) (ys ys' : List Value), uH wx lo hi dA0 ys → uH wx lo' hi' dA0 ys' → Calls Try.prog 32 #[.agg ys.toArray, .agg ys'.toArray] wx fun e w' => e = .returned (.bool true) ∧ Hid (Below wx.heap.size wx w')) := fun wx lo hi lo' hi' ys ys' h1 h2 => ueqBase_any (lo := lo) (hi := hi) (lo' := lo') (hi' := hi') _ _ _ wx HtA0.out h1 h2
  clear hw0 hle0 hl1 htA0
  have hqR0 : (bR0 != bR0) = false := by simp
  go_enter Try.func7, Try.ntmps7
  go_wp2_with fail
  refine (HsA0.out _ (by repeat (first | with_reducible exact Below.refl _ _ | with_reducible refine Below.alloc ?_ (by simp <;> omega) _ | with_reducible refine Below.drew ?_ | with_reducible refine below_drewN ?_ _))).mono ?_
  rintro e w1 ⟨rfl, hb1⟩
  have HB1 : Hid (Below w.heap.size w w1) := Below.trans (by repeat (first | with_reducible exact Below.refl _ _ | with_reducible refine Below.alloc ?_ (by simp <;> omega) _ | with_reducible refine Below.drew ?_ | with_reducible refine below_drewN ?_ _)) (hb1.out.mono (by simp <;> omega))
  have BXA0_1 : Hid (objU w1 (w.heap.size) 61 [.slice a0A0 n0A0 p0A0, .int .i64 z1A0, .int .i64 z2A0, .slice a3A0 n3A0 p3A0]) := objU.below (by repeat (first | with_reducible exact objU.new2 _ _ (by simp) | with_reducible refine objU.old ?_ _)) hb1.out
  have B1 : Hid (Below w.heap.size w w1) := HB1
  clear hb1
  have BXA0 := BXA0_1
  clear BXA0_1
  replace OXA0 := uhide (OXA0.out.below B1.out)
  have Zb : Hid (w.heap.size + 1 ≤ w1.heap.size) := BXA0.out.lt
  have qBXA00 := BXA0.out.cell 0 _ rfl
  have qBXA01 := BXA0.out.cell 1 _ rfl
  have qBXA02 := BXA0.out.cell 2 _ rfl
  have qBXA03 := BXA0.out.cell 3 _ rfl
  go_wp2_with fail
  refine (HtoA0.out _ (by repeat (first | with_reducible exact B1.out | with_reducible refine Below.alloc ?_ (by have := B1.out.size; (try simp) <;> omega) _ | with_reducible refine Below.drew ?_ | with_reducible refine below_drewN ?_ _))).mono ?_
  rintro e w2 ⟨a0A0y, p0A0y, a3A0y, p3A0y, SYA0, rfl, YA0, YA0w, hb2⟩
  clear qBXA00 qBXA01 qBXA02 qBXA03
  have HB2 : Hid (Below w1.heap.size w1 w2) := Below.trans (by repeat (first | with_reducible exact Below.refl _ _ | with_reducible refine Below.alloc ?_ (by simp <;> omega) _ | with_reducible refine Below.drew ?_ | with_reducible refine below_drewN ?_ _)) (hb2.out.mono (by simp <;> omega))
  have Z2 : Hid (w1.heap.size + 0 ≤ w2.heap.size) := by have h := hb2.out.size; (try simp at h); show _ ≤ _; omega
  replace YA0w := uhide (YA0w.out.mono (a' := w1.heap.size + 0) (by (try simp) <;> omega) (Nat.le_refl _))
  replace BXA0 := uhide (BXA0.out.below HB2.out)
  replace OXA0 := uhide (OXA0.out.below HB2.out)
  have B2 : Hid (Below w.heap.size w w2) := B1.out.trans (HB2.out.mono B1.out.size)
  clear hb2 HB2
  go_wp2_with fail
  refine (HSQ.out _ _ _ _ ((YA0.out.below (by repeat (first | with_reducible exact Below.refl _ _ | with_reducible refine Below.alloc ?_ (by simp <;> omega) _ | with_reducible refine Below.drew ?_ | with_reducible refine below_drewN ?_ _))).hand YA0w.out.2)).mono ?_
  rintro e w3 ⟨rfl, hb3⟩
  have HB3 : Hid (Below w2.heap.size w2 w3) := Below.trans (by repeat (first | with_reducible exact Below.refl _ _ | with_reducible refine Below.alloc ?_ (by simp <;> omega) _ | with_reducible refine Below.drew ?_ | with_reducible refine below_drewN ?_ _)) (hb3.out.mono (by simp <;> omega))
  have Z3 : Hid (w2.heap.size + 0 ≤ w3.heap.size) := by have h := hb3.out.size; (try simp at h); show _ ≤ _; omega
  replace BXA0 := uhide (BXA0.out.below HB3.out)
  replace OXA0 := uhide (OXA0.out.below HB3.out)
  replace YA0 := uhide (YA0.out.below HB3.out)
  have B3 : Hid (Below w.heap.size w w3) := B2.out.trans (HB3.out.mono B2.out.size)
  clear hb3 HB3
  clear YA0 YA0w
  have qBXA00 := BXA0.out.cell 0 _ rfl
  have qBXA01 := BXA0.out.cell 1 _ rfl
  have qBXA02 := BXA0.out.cell 2 _ rfl
  have qBXA03 := BXA0.out.cell 3 _ rfl
  go_wp2_with fail
  refine (HtoA0.out _ (by repeat (first | with_reducible exact B3.out | with_reducible refine Below.alloc ?_ (by have := B3.out.size; (try simp) <;> omega) _ | with_reducible refine Below.drew ?_ | with_reducible refine below_drewN ?_ _))).mono ?_
  rintro e w4 ⟨a0A0x, p0A0x, a3A0x, p3A0x, SXA0, rfl, XA0, XA0w, hb4⟩
  clear qBXA00 qBXA01 qBXA02 qBXA03
  have HB4 : Hid (Below w3.heap.size w3 w4) := Below.trans (by repeat (first | with_reducible exact Below.refl _ _ | with_reducible refine Below.alloc ?_ (by simp <;> omega) _ | with_reducible refine Below.drew ?_ | with_reducible refine below_drewN ?_ _)) (hb4.out.mono (by simp <;> omega))
  have Z4 : Hid (w3.heap.size + 0 ≤ w4.heap.size) := by have h := hb4.out.size; (try simp at h); show _ ≤ _; omega
  replace XA0w := uhide (XA0w.out.mono (a' := w3.heap.size + 0) (by (try simp) <;> omega) (Nat.le_refl _))
  replace BXA0 := uhide (BXA0.out.below HB4.out)
  replace OXA0 := uhide (OXA0.out.below HB4.out)
  have B4 : Hid (Below w.heap.size w w4) := B3.out.trans (HB4.out.mono B3.out.size)
  clear hb4 HB4
  go_wp2_with fail
  refine (HIQ.out _ _ _ _ ((XA0.out.below (by repeat (first | with_reducible exact Below.refl _ _ | with_reducible refine Below.alloc ?_ (by simp <;> omega) _ | with_reducible refine Below.drew ?_ | with_reducible refine below_drewN ?_ _))).hand XA0w.out.2)).mono ?_
  rintro e w5 ⟨rfl, hb5⟩
  have HB5 : Hid (Below w4.heap.size w4 w5) := Below.trans (by repeat (first | with_reducible exact Below.refl _ _ | with_reducible refine Below.alloc ?_ (by simp <;> omega) _ | with_reducible refine Below.drew ?_ | with_reducible refine below_drewN ?_ _)) (hb5.out.mono (by simp <;> omega))
  have BYA0 : Hid (objU w5 (w4.heap.size) 67 [.slice a0A0x n0A0 p0A0x, .int .i64 z1A0, .int .i64 z2A0, .slice a3A0x n3A0 p3A0x]) := objU.below (by repeat (first | with_reducible exact objU.new2 _ _ (by simp) | with_reducible refine objU.old ?_ _)) hb5.out
  have Z5 : Hid (w4.heap.size + 1 ≤ w5.heap.size) := by have h := hb5.out.size; (try simp at h); show _ ≤ _; omega
  replace BXA0 := uhide (BXA0.out.below HB5.out)
  replace OXA0 := uhide (OXA0.out.below HB5.out)
  replace XA0 := uhide (XA0.out.below HB5.out)
  have B5 : Hid (Below w.heap.size w w5) := B4.out.trans (HB5.out.mono B4.out.size)
  clear hb5 HB5
  have qBYA00 := BYA0.out.cell 0 _ rfl
  have qBYA01 := BYA0.out.cell 1 _ rfl
  have qBYA02 := BYA0.out.cell 2 _ rfl
  have qBYA03 := BYA0.out.cell 3 _ rfl
  have qBXA00 := BXA0.out.cell 0 _ rfl
  have qBXA01 := BXA0.out.cell 1 _ rfl
  have qBXA02 := BXA0.out.cell 2 _ rfl
  have qBXA03 := BXA0.out.cell 3 _ rfl
  have RT : Hid (∀ wx, Below w5.heap.size w5 wx → Calls Try.prog 30 #[.agg #[.slice a0A0 n0A0 p0A0, .int .i64 z1A0, .int .i64 z2A0, .slice a3A0 n3A0 p3A0]] wx fun e w' => ∃ a0rA0 p0rA0 a3rA0 p3rA0, e = .returned (.agg #[.slice a0rA0 n0A0 p0rA0, .int .i64 z1A0, .int .i64 z2A0, .slice a3rA0 n3A0 p3rA0]) ∧ Hid (uH w' 0 w'.heap.size dA0 [.slice a0rA0 n0A0 p0rA0, .int .i64 z1A0, .int .i64 z2A0, .slice a3rA0 n3A0 p3rA0]) ∧ Hid (Below w5.heap.size w5 w')) := fun wx hb => (HtoA0.out wx (B5.out.trans (hb.mono B5.out.size))).mono fun e w' ⟨a0rA0, p0rA0, a3rA0, p3rA0, S, h1, h2, h3, h4⟩ => ⟨a0rA0, p0rA0, a3rA0, p3rA0, h1, h2.out.hand (lo := 0) (hi := w'.heap.size) (fun g hg => ⟨Nat.zero_le _, (h3.out.2 g hg).2⟩), hb.trans (h4.out.mono hb.size)⟩
  have RE : Hid (∀ (wx : World) (ys : List Value) (lo hi : Nat), Below w5.heap.size w5 wx → uH wx lo hi dA0 ys → Calls Try.prog 32 #[.agg #[.slice a0A0x n0A0 p0A0x, .int .i64 z1A0, .int .i64 z2A0, .slice a3A0x n3A0 p3A0x], .agg ys.toArray] wx fun e w' => e = .returned (.bool true) ∧ Hid (Below w5.heap.size w5 w')) := fun wx ys lo hi hb h => (HeqA0.out wx _ _ lo hi _ ys ((XA0.out.below hb).hand XA0w.out.2) h).mono fun e w' h => ⟨h.1, hb.trans (h.2.out.mono hb.size)⟩
  have hb6r : Hid (Below w5.heap.size w5 w5) := Below.refl _ _
  go_wp2
  have hbr := hb6r
  go_region_with (first
    | (go_at_call 30; refine (RT.out _ (by repeat (first | with_reducible exact Below.refl _ _ | with_reducible exact hbr.out | with_reducible refine Below.drew ?_ | with_reducible refine below_drewN ?_ _))).mono ?_; rintro e wt ⟨a0A0t, p0A0t, a3A0t, p3A0t, rfl, XT, hbt⟩; replace hbr := hbt; have qBYA00r := (BYA0.out.below hbr.out).cell 0 _ rfl; have qBYA01r := (BYA0.out.below hbr.out).cell 1 _ rfl; have qBYA02r := (BYA0.out.below hbr.out).cell 2 _ rfl; have qBYA03r := (BYA0.out.below hbr.out).cell 3 _ rfl)
    | (go_at_call 32; refine (RE.out _ _ _ _ (by repeat (first | with_reducible exact Below.refl _ _ | with_reducible exact hbr.out | with_reducible refine Below.drew ?_ | with_reducible refine below_drewN ?_ _)) (by first | exact XT.out | exact XT.out.below (by repeat (first | with_reducible exact Below.refl _ _ | with_reducible refine Below.drew ?_ | with_reducible refine below_drewN ?_ _)))).mono ?_; rintro e w6 ⟨rfl, hb6⟩))
  all_goals (
    have HB6 := hb6
    have Z6 : Hid (w5.heap.size + 0 ≤ w6.heap.size) := HB6.out.size
    replace BXA0 := uhide (BXA0.out.below HB6.out)
    replace OXA0 := uhide (OXA0.out.below HB6.out)
    replace XA0 := uhide (XA0.out.below HB6.out)
    replace BYA0 := uhide (BYA0.out.below HB6.out)
    have B6 : Hid (Below w.heap.size w w6) := B5.out.trans (HB6.out.mono B5.out.size)
    clear hb6 HB6
    go_wp2
    go_ret
    exact ⟨rfl, by repeat (first | with_reducible exact B6.out | with_reducible refine Below.drew ?_ | with_reducible refine below_drewN ?_ _)⟩)
set_option maxRecDepth 100000 in
theorem lifted (os : Os) (started : os.Started) (H : Type) (enc : TypeId × Value → H) :
    ReturnsInHanded {} Try.checked os 7 .any (Rows.fnExactBaseOkSpec.pre6 enc Try.prog Try.f7 Rows.fnExactBaseOkRow.domain false) (Rows.fnExactBaseOkSpec.post enc Try.prog Try.f7 false true false false) := by
  refine returnsInHanded_of_change (C := Try.checked) own started (by kernel_rfl) Try.func7
    (ChangeSpec.witness6 (enc := enc) (C := Try.checked) false ⟨#[], #[.agg #[.slice none 0 0, .int .i64 0, .int .i64 0, .slice none 0 0]], []⟩ 12 (by kernel_rfl) (by kernel_rfl) (by kernel_rfl) (by kernel_rfl)) ?_
  intro W base args ds gs before hval0 hW hcnd _
  have hval : ∀ (j : Nat) t v, Try.f7.params[j]? = some t → args[j]? = some v → Value.okWide Try.prog W .any base t v := hval0
  have hW' := hW
  obtain ⟨p, q, hA0, hV, rfl, hfz, hnd⟩ := hW
  have hA : DataW.TrodAll enc Try.prog W 0 (fun _ => true) true Try.f7.params.toList args.toList ds p := hA0
  rw [Try.params7] at hA hval
  obtain ⟨v0, vs0, d0, ds0, p0, q0, hargs, rfl, rfl, h0, r0⟩ := trodAll_cons hA
  obtain ⟨rfl, rfl, rfl⟩ := trodAll_nil r0
  obtain rfl : args = #[v0] := by cases args; simp_all
  obtain ⟨rfl, rfl⟩ := trodVars_none hV
  obtain ⟨cs0, rfl, hsz0⟩ := okWide_struct Try.underlying61 (hval 0 61 v0 rfl rfl)
  have k0 := h0
  have lt0 : ∀ x ∈ p0, x.block < W.heap.size := by obtain ⟨m, hm⟩ := k0; exact DataW.trod_lt m _ _ _ hm
  obtain ⟨fuel0, hf0⟩ := h0
  obtain ⟨xs0, rfl⟩ : ∃ xs : List Value, cs0 = xs.toArray := ⟨cs0.toList, by simp⟩
  have hl0 : xs0.length = (uE 10).length := (show xs0.length = xs0.toArray.size by simp).trans (hsz0.trans (show Try.prog.cellsOf 61 = (uE 10).length by kernel_rfl))
  obtain ⟨dd0, hd0, hh0⟩ := openU (enc := enc) flatU fuel0 _ _ flatBase xs0 _ hl0 (by simpa [Value.cells] using hf0)
  clear hA0 hval0
  refine (walk dd0 xs0 W hd0 hh0).mono fun e W' ⟨he, bel⟩ => ?_
  subst he
  exact ⟨_, rfl, _, _, _, [], _, [], hW', trodAll_mk1 (shut_bool Try.underlying4 _), (trodAll_cons_mk (Below.trod laidOut (by kernel_rfl) (of_decide_eq_true (by kernel_rfl)) k0 bel lt0) trodAll_mk0), rfl, bel.frame _, fun h => by cases h⟩
end LBaseOk
theorem baseOk_holds : Rows.FnExactBaseOkSaid :=
  OpenClaim.holds_of_wide 7 Try.f7 rfl rfl rfl rfl rfl rfl rfl ⟨rfl, rfl, rfl, rfl, rfl⟩ rfl rfl rfl rfl rfl (by kernel_rfl) Try.func7 (by kernel_rfl)
    (of_decide_eq_true (by kernel_rfl)) (by unfold Func.isWrapper; first | (rw [if_pos (by decide +kernel)]; kernel_rfl) | (rw [if_neg (by decide +kernel)]; exact ⟨rfl, rfl⟩))
    (fun os started H enc _ => LBaseOk.lifted os started H enc)
#print axioms baseOk_holds
end Go.Proofs.Ytdnodaoeflbfkaa
