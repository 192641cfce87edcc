/- FnExactSince holds: at every base and rev impl.Since answers what spec.Since answers, in memory of its own. No conditions. -/
import Derived.Test.YtdnodaoeflbfkaaGreatRows
import Derived.Test.YtdnodaoeflbfkaaGreatJ10
import Derived.Test.YtdnodaoeflbfkaaGreatJ11
import Derived.Test.YtdnodaoeflbfkaaGreatJ7
import Derived.Test.YtdnodaoeflbfkaaGreatJ1
import Derived.WalkKit
import Derived.ProofKit
import Derived.OpenShut
import Derived.ShutString
import Derived.ChangeOld
import Derived.Below
namespace Go.Proofs.YtdnodaoeflbfkaaGreat
open Go.ChangeShapes Go.WideShapes Go.ChangeAt Go.RowKit Go.BigFrame
open Go.ChangeMaps (open_string shut_string)
set_option linter.unusedVariables false
namespace LSince
theorem laidOut : laidOutB Tryz.prog = true := by kernel_rfl
theorem own : ownKnob Tryz.prog.godebug = none := by kernel_rfl
def TYU : Nat → TypeId
  | 8 => 214
  | 0 => 9
  | 6 => 83
  | 9 => 217
  | _ => 0
def GU (n : Nat) : Prop := n = 8 ∨ n = 0 ∨ n = 6 ∨ n = 9
theorem flatBase : Flat Tryz.prog TYU GU 61 (uE 10) := by
  refine Flat.struct [[.l 17 8], [.i .i64], [.i .i64], [.l 19 9]] Tryz.underlying61 rfl (fun i f s hf hs => ?_) (fun i f s hf hs => ?_)
  · match i, hf, hs with
    | 0, hf, hs => cases hf; cases hs; exact (Flat.slice 8 Tryz.underlying58 (by simp [GU]) (by kernel_rfl) (by decide))
    | 1, hf, hs => cases hf; cases hs; exact (Flat.i64 Tryz.underlying3)
    | 2, hf, hs => cases hf; cases hs; exact (Flat.i64 Tryz.underlying3)
    | 3, hf, hs => cases hf; cases hs; exact (Flat.slice 9 Tryz.underlying59 (by simp [GU]) (by kernel_rfl) (by decide))
    | i + 4, hf, hs => simp at hs
  · match i, hf, hs with
    | 0, hf, hs => cases hf; cases hs; exact ⟨by kernel_rfl, rfl⟩
    | 1, hf, hs => cases hf; cases hs; exact ⟨by kernel_rfl, rfl⟩
    | 2, hf, hs => cases hf; cases hs; exact ⟨by kernel_rfl, rfl⟩
    | 3, hf, hs => cases hf; cases hs; exact ⟨by kernel_rfl, rfl⟩
    | i + 4, hf, hs => simp at hs
theorem flatValue : Flat Tryz.prog TYU GU 83 (uE 6) := by
  refine Flat.struct [[.i .i64], [.s], [.i .i64], [.l 1 0], [.l 5 6]] Tryz.underlying83 rfl (fun i f s hf hs => ?_) (fun i f s hf hs => ?_)
  · match i, hf, hs with
    | 0, hf, hs => cases hf; cases hs; exact (Flat.i64 Tryz.underlying3)
    | 1, hf, hs => cases hf; cases hs; exact (Flat.str Tryz.underlying9)
    | 2, hf, hs => cases hf; cases hs; exact (Flat.i64 Tryz.underlying3)
    | 3, hf, hs => cases hf; cases hs; exact (Flat.slice 0 Tryz.underlying23 (by simp [GU]) (by kernel_rfl) (by decide))
    | 4, hf, hs => cases hf; cases hs; exact (Flat.slice 6 Tryz.underlying81 (by simp [GU]) (by kernel_rfl) (by decide))
    | i + 5, hf, hs => simp at hs
  · match i, hf, hs with
    | 0, hf, hs => cases hf; cases hs; exact ⟨by kernel_rfl, rfl⟩
    | 1, hf, hs => cases hf; cases hs; exact ⟨by kernel_rfl, rfl⟩
    | 2, hf, hs => cases hf; cases hs; exact ⟨by kernel_rfl, rfl⟩
    | 3, hf, hs => cases hf; cases hs; exact ⟨by kernel_rfl, rfl⟩
    | 4, hf, hs => cases hf; cases hs; exact ⟨by kernel_rfl, rfl⟩
    | i + 5, hf, hs => simp at hs
theorem flatObj : Flat Tryz.prog TYU GU 214 (uE 8) := by
  refine Flat.struct [[.i .i64], [.s], [.i .i64], [.i .i64], [.i .i64], [.b], [.l 1 0], [.i .i64, .s, .i .i64, .l 1 0, .l 5 6], [.i .i64, .s, .i .i64, .l 1 0, .l 5 6]] Tryz.underlying214 rfl (fun i f s hf hs => ?_) (fun i f s hf hs => ?_)
  · match i, hf, hs with
    | 0, hf, hs => cases hf; cases hs; exact (Flat.i64 Tryz.underlying3)
    | 1, hf, hs => cases hf; cases hs; exact (Flat.str Tryz.underlying9)
    | 2, hf, hs => cases hf; cases hs; exact (Flat.i64 Tryz.underlying3)
    | 3, hf, hs => cases hf; cases hs; exact (Flat.i64 Tryz.underlying3)
    | 4, hf, hs => cases hf; cases hs; exact (Flat.i64 Tryz.underlying3)
    | 5, hf, hs => cases hf; cases hs; exact (Flat.bool Tryz.underlying4)
    | 6, hf, hs => cases hf; cases hs; exact (Flat.slice 0 Tryz.underlying23 (by simp [GU]) (by kernel_rfl) (by decide))
    | 7, hf, hs => cases hf; cases hs; exact flatValue
    | 8, hf, hs => cases hf; cases hs; exact flatValue
    | i + 9, hf, hs => simp at hs
  · match i, hf, hs with
    | 0, hf, hs => cases hf; cases hs; exact ⟨by kernel_rfl, rfl⟩
    | 1, hf, hs => cases hf; cases hs; exact ⟨by kernel_rfl, rfl⟩
    | 2, hf, hs => cases hf; cases hs; exact ⟨by kernel_rfl, rfl⟩
    | 3, hf, hs => cases hf; cases hs; exact ⟨by kernel_rfl, rfl⟩
    | 4, hf, hs => cases hf; cases hs; exact ⟨by kernel_rfl, rfl⟩
    | 5, hf, hs => cases hf; cases hs; exact ⟨by kernel_rfl, rfl⟩
    | 6, hf, hs => cases hf; cases hs; exact ⟨by kernel_rfl, rfl⟩
    | 7, hf, hs => cases hf; cases hs; exact ⟨by kernel_rfl, rfl⟩
    | 8, hf, hs => cases hf; cases hs; exact ⟨by kernel_rfl, rfl⟩
    | i + 9, hf, hs => simp at hs
theorem flatChange : Flat Tryz.prog TYU GU 217 (uE 9) := by
  refine Flat.struct [[.i .i64], [.b], [.i .i64, .s, .i .i64, .i .i64, .i .i64, .b, .l 1 0, .i .i64, .s, .i .i64, .l 1 0, .l 5 6, .i .i64, .s, .i .i64, .l 1 0, .l 5 6]] Tryz.underlying217 rfl (fun i f s hf hs => ?_) (fun i f s hf hs => ?_)
  · match i, hf, hs with
    | 0, hf, hs => cases hf; cases hs; exact (Flat.i64 Tryz.underlying3)
    | 1, hf, hs => cases hf; cases hs; exact (Flat.bool Tryz.underlying4)
    | 2, hf, hs => cases hf; cases hs; exact flatObj
    | i + 3, hf, hs => simp at hs
  · match i, hf, hs with
    | 0, hf, hs => cases hf; cases hs; exact ⟨by kernel_rfl, rfl⟩
    | 1, hf, hs => cases hf; cases hs; exact ⟨by kernel_rfl, rfl⟩
    | 2, hf, hs => cases hf; cases hs; exact ⟨by kernel_rfl, rfl⟩
    | i + 3, hf, hs => simp at hs
theorem flatU : ∀ n, GU n → Flat Tryz.prog TYU GU (TYU n) (uE n) := by
  intro n h
  unfold GU at h
  rcases h with rfl | rfl | rfl | rfl
  · exact flatObj
  · exact (Flat.str Tryz.underlying9)
  · exact flatValue
  · exact flatChange
set_option maxRecDepth 20000 in
set_option maxHeartbeats 3200000 in
theorem walk (dA0 : UD) (xsA0 : List Value) (iA1 : Int) (w : World) (htA0 : tyL dA0 (uE 10)) (hxA0 : uH w 0 w.heap.size dA0 xsA0) (hsA1 : inK .i64 iA1) :
    Calls Tryz.prog 6 #[.agg xsA0.toArray, .int .i64 iA1] w fun e w' => e = .returned (.bool true) ∧ Below w.heap.size w w' := by
  obtain ⟨n0A0, c0A0, z1A0, z2A0, n3A0, c3A0, hdA0, g0A0, g1A0, g2A0, g3A0⟩ := partsBase htA0
  have SHA0 : Hid (∀ (wx : World) (lo hi : Nat) (ys : List Value), uH wx lo hi dA0 ys → ∃ a0A0 p0A0 a3A0 p3A0, ys = [.slice a0A0 n0A0 p0A0, .int .i64 z1A0, .int .i64 z2A0, .slice a3A0 n3A0 p3A0]) := by
    intro wx lo hi ys h
    rw [hdA0] at h
    obtain ⟨v0A0, _, rfl, s0, ⟨_, rfl, ⟨_, rfl, ⟨v3A0, _, rfl, s3, rfl⟩⟩⟩⟩ := h
    obtain ⟨a0A0, p0A0, rfl, t0A0⟩ := s0
    obtain ⟨a3A0, p3A0, rfl, t3A0⟩ := s3
    exact ⟨a0A0, p0A0, a3A0, p3A0, rfl⟩
  obtain ⟨a0A0, p0A0, a3A0, p3A0, rfl⟩ := SHA0.out w _ _ xsA0 hxA0
  have OXA0 : Hid (uH w 0 w.heap.size dA0 [.slice a0A0 n0A0 p0A0, .int .i64 z1A0, .int .i64 z2A0, .slice a3A0 n3A0 p3A0]) := hxA0
  have HtA0 := uhide htA0
  clear hxA0 hdA0 g0A0 g1A0 g2A0 g3A0
  obtain ⟨l1, hl1⟩ : ∃ l, leftI (1048576 : Int) (wt dA0) = l := ⟨_, rfl⟩
  have HsA0 : Hid (∀ wx, Below w.heap.size w wx → Calls Tryz.prog 33 #[.agg #[.slice a0A0 n0A0 p0A0, .int .i64 z1A0, .int .i64 z2A0, .slice a3A0 n3A0 p3A0], .int .i64 1048576] wx fun e w' => e = .returned (.int .i64 l1) ∧ Hid (Below wx.heap.size wx w')) := fun wx hb => hl1 ▸ uszBase_any (lo := 0) (hi := w.heap.size) dA0 [.slice a0A0 n0A0 p0A0, .int .i64 z1A0, .int .i64 z2A0, .slice a3A0 n3A0 p3A0] 1048576 wx HtA0.out (OXA0.out.below hb) (by decide) (by decide)
  have hle0 : l1 ≤ 1048576 := by rw [← hl1]; unfold leftI; split <;> omega
  by_cases hn0 : l1 < 0
  · go_enter Tryz.func6, Tryz.ntmps6
    go_wp2_with fail
    refine (HsA0.out _ (by repeat (first | with_reducible exact Below.refl _ _ | with_reducible refine Below.alloc ?_ (by simp <;> omega) _ | with_reducible refine Below.drew ?_ | with_reducible refine below_drewN ?_ _))).mono ?_
    rintro e w1 ⟨rfl, hb1⟩
    have HB1 : Hid (Below w.heap.size w w1) := Below.trans (by repeat (first | with_reducible exact Below.refl _ _ | with_reducible refine Below.alloc ?_ (by simp <;> omega) _ | with_reducible refine Below.drew ?_ | with_reducible refine below_drewN ?_ _)) (hb1.out.mono (by simp <;> omega))
    have BXA0_1 : Hid (objU w1 (w.heap.size) 61 [.slice a0A0 n0A0 p0A0, .int .i64 z1A0, .int .i64 z2A0, .slice a3A0 n3A0 p3A0]) := objU.below (by repeat (first | with_reducible exact objU.new2 _ _ (by simp) | with_reducible refine objU.old ?_ _)) hb1.out
    have B1 : Hid (Below w.heap.size w w1) := HB1
    clear hb1
    go_wp2
    go_ret
    exact ⟨rfl, B1.out⟩
  have Hw0 : Hid (l1 = 1048576 - ((wt dA0) : Nat)) := by show _ = _; rw [← hl1]; exact (leftI_pos 0 (by rw [hl1]; exact hn0)).2.1
  have hw0 := Hw0.out
  obtain ⟨nR0, csR0, bR1, hrR0, hcR0, HSP, HIM⟩ := since_both dA0 iA1 HtA0.out hsA1 (by omega)
  replace HSP := uhide HSP
  replace HIM := uhide HIM
  have HrR0 := uhide hrR0
  clear hrR0
  have HSQ : Hid (∀ (wx : World) (loA0 hiA0 : Nat) (xsA0 : List Value), uH wx loA0 hiA0 dA0 xsA0 → Calls Tryz.prog 42 #[.agg xsA0.toArray, .int .i64 iA1] wx fun e w' => ∃ aR0 pR0, e = .returned (.tuple #[.slice aR0 nR0 pR0, .bool bR1]) ∧ Hid (uS w' 0 w'.heap.size 19 nR0 csR0 (.slice aR0 nR0 pR0)) ∧ Hid (Below wx.heap.size wx w')) := fun wx loA0 hiA0 xsA0 hA0 => (HSP.out _ _ _ _ hA0).mono fun e w' ⟨cR0, h1, kR0, hb⟩ => by
    obtain ⟨aR0, pR0, rfl⟩ := (show ∃ a p, cR0 = .slice a nR0 p from by obtain ⟨a, p, h, _⟩ := kR0; exact ⟨a, p, h⟩)
    exact ⟨aR0, pR0, h1, kR0, hb⟩
  have HIQ : Hid (∀ (wx : World) (loA0 hiA0 : Nat) (xsA0 : List Value) (SA0 : List Nat), oH wx dA0 xsA0 SA0 → own2 SA0 loA0 hiA0 → Calls Tryz.prog 43 #[.agg xsA0.toArray, .int .i64 iA1] wx fun e w' => ∃ aR0 pR0 SR0, e = .returned (.tuple #[.slice aR0 nR0 pR0, .bool bR1]) ∧ Hid (oS w' 19 nR0 csR0 (.slice aR0 nR0 pR0) SR0) ∧ Hid (own2 SR0 wx.heap.size w'.heap.size) ∧ Hid (Below wx.heap.size wx w')) := fun wx loA0 hiA0 xsA0 SA0 hA0 oA0 => (HIM.out _ _ _ _ _ hA0 oA0).mono fun e w' ⟨cR0, SR0, h1, kR0, oR0, hb⟩ => by
    obtain ⟨aR0, pR0, rfl⟩ := kR0.slice
    exact ⟨aR0, pR0, SR0, h1, kR0, oR0, hb⟩
  clear HSP HIM
  have hctA0 : cntT dA0 ≤ 42000000 := by have := cntT_wt HtA0.out; omega
  have hctR0 : cnt csR0 ≤ 50000000 := by exact hcR0
  have HtoA0 : Hid (∀ wx, Below w.heap.size w wx → Calls Tryz.prog 35 #[.agg #[.slice a0A0 n0A0 p0A0, .int .i64 z1A0, .int .i64 z2A0, .slice a3A0 n3A0 p3A0]] wx fun e w' => ∃ a0rA0 p0rA0 a3rA0 p3rA0 S, e = .returned (.agg #[.slice a0rA0 n0A0 p0rA0, .int .i64 z1A0, .int .i64 z2A0, .slice a3rA0 n3A0 p3rA0]) ∧ Hid (oH w' dA0 [.slice a0rA0 n0A0 p0rA0, .int .i64 z1A0, .int .i64 z2A0, .slice a3rA0 n3A0 p3rA0] S) ∧ Hid (own2 S wx.heap.size w'.heap.size) ∧ Hid (Below wx.heap.size wx w')) := fun wx hb => (utoBase_any (lo := 0) (hi := w.heap.size) dA0 [.slice a0A0 n0A0 p0A0, .int .i64 z1A0, .int .i64 z2A0, .slice a3A0 n3A0 p3A0] wx HtA0.out (by omega) (OXA0.out.below hb)).mono fun e w' ⟨ys, S, h1, h2, h3, h4, h5⟩ => by
    have hO : own2 S wx.heap.size w'.heap.size := ⟨h3, fun s hs => ⟨h4 s hs, h2.lt _ _ _ s hs⟩⟩
    obtain ⟨a0A0, p0A0, a3A0, p3A0, rfl⟩ := SHA0.out w' _ _ ys (h2.hand hO.2)
    exact ⟨a0A0, p0A0, a3A0, p3A0, S, h1, h2, hO, h5⟩
  have HeqA0 : Hid (∀ (wx : World) (lo hi lo' hi' : Nat) (ys ys' : List Value), uH wx lo hi dA0 ys → uH wx lo' hi' dA0 ys' → Calls Tryz.prog 38 #[.agg ys.toArray, .agg ys'.toArray] wx fun e w' => e = .returned (.bool true) ∧ Hid (Below wx.heap.size wx w')) := fun wx lo hi lo' hi' ys ys' h1 h2 => ueqBase_any (lo := lo) (hi := hi) (lo' := lo') (hi' := hi') _ _ _ wx HtA0.out h1 h2
  have HeqR0 : Hid (∀ (wx : World) (lo hi lo' hi' : Nat) (y y' : Value), uS wx lo hi 19 nR0 csR0 y → uS wx lo' hi' 19 nR0 csR0 y' → Calls Tryz.prog 44 #[y, y'] wx fun e w' => e = .returned (.bool true) ∧ Hid (Below wx.heap.size wx w')) := fun wx lo hi lo' hi' y y' h1 h2 => ueqChangeS_any (lo := lo) (hi := hi) (lo' := lo') (hi' := hi') _ _ _ _ wx HrR0.out h1 h2
  have HmkA0 : Hid (∀ (wx : World) (ys : List Value) (S : List Nat) (x : Int) (lo hi : Nat), oH wx dA0 ys S → own2 S lo hi → x = ((1 : Nat) : Int) → Calls Tryz.prog 39 #[.agg ys.toArray, .int .i64 x] wx fun e w' => e = .returned (.int .i64 ((1 + cntT dA0) : Nat)) ∧ OutS S wx w') := fun wx y S x lo hi h hO hx => by
    rw [hx]
    exact (umarkBase_any dA0 1 _ S wx HtA0.out hO.1 (by omega) (by omega) h).mono fun e w' h => ⟨h.1, h.2.2⟩
  have HmkR0 : Hid (∀ (wx : World) (y : Value) (S : List Nat) (x : Int) (lo hi : Nat), oS wx 19 nR0 csR0 y S → own2 S lo hi → x = ((1 : Nat) : Int) → Calls Tryz.prog 45 #[y, .int .i64 x] wx fun e w' => e = .returned (.int .i64 ((1 + cnt csR0) : Nat)) ∧ oS w' 19 nR0 (mk csR0 1) y S ∧ OutS S wx w') := fun wx y S x lo hi h hO hx => by
    rw [hx]
    exact umarkChangeS_any nR0 1 csR0 _ S wx HrR0.out hO.1 (by omega) (by omega) h
  have HhdR0 : Hid (∀ (wx : World) (y : Value) (x : Int) (lo hi : Nat), uS wx lo hi 19 nR0 (mk csR0 1) y → x = ((1 : Nat) : Int) → Calls Tryz.prog 46 #[y, .int .i64 x] wx fun e w' => e = .returned (.int .i64 ((1 + cnt csR0) : Nat)) ∧ Hid (Below wx.heap.size wx w')) := fun wx y x lo hi h hx => by
    rw [hx]
    exact uheldChangeS_any (lo := lo) (hi := hi) nR0 1 csR0 _ wx HrR0.out (by omega) (by omega) h
  clear hw0 hle0 hl1 htA0 hcR0
  have hqR1 : (bR1 != bR1) = false := by simp
  go_enter Tryz.func6, Tryz.ntmps6
  generalize cntT dA0 = mA0 at *
  generalize cnt csR0 = mR0 at *
  go_wp2_with fail
  refine (HsA0.out _ (by repeat (first | with_reducible exact Below.refl _ _ | with_reducible refine Below.alloc ?_ (by simp <;> omega) _ | with_reducible refine Below.drew ?_ | with_reducible refine below_drewN ?_ _))).mono ?_
  rintro e w1 ⟨rfl, hb1⟩
  have HB1 : Hid (Below w.heap.size w w1) := Below.trans (by repeat (first | with_reducible exact Below.refl _ _ | with_reducible refine Below.alloc ?_ (by simp <;> omega) _ | with_reducible refine Below.drew ?_ | with_reducible refine below_drewN ?_ _)) (hb1.out.mono (by simp <;> omega))
  have BXA0_1 : Hid (objU w1 (w.heap.size) 61 [.slice a0A0 n0A0 p0A0, .int .i64 z1A0, .int .i64 z2A0, .slice a3A0 n3A0 p3A0]) := objU.below (by repeat (first | with_reducible exact objU.new2 _ _ (by simp) | with_reducible refine objU.old ?_ _)) hb1.out
  have B1 : Hid (Below w.heap.size w w1) := HB1
  clear hb1
  have BXA0 := BXA0_1
  clear BXA0_1
  replace OXA0 := uhide (OXA0.out.below B1.out)
  have Zb : Hid (w.heap.size + 1 ≤ w1.heap.size) := BXA0.out.lt
  have qBXA00 := BXA0.out.cell 0 _ rfl
  have qBXA01 := BXA0.out.cell 1 _ rfl
  have qBXA02 := BXA0.out.cell 2 _ rfl
  have qBXA03 := BXA0.out.cell 3 _ rfl
  go_wp2_with fail
  refine (HtoA0.out _ (by repeat (first | with_reducible exact B1.out | with_reducible refine Below.alloc ?_ (by have := B1.out.size; (try simp) <;> omega) _ | with_reducible refine Below.drew ?_ | with_reducible refine below_drewN ?_ _))).mono ?_
  rintro e w2 ⟨a0A0y, p0A0y, a3A0y, p3A0y, SYA0, rfl, YA0, YA0w, hb2⟩
  clear qBXA00 qBXA01 qBXA02 qBXA03
  have HB2 : Hid (Below w1.heap.size w1 w2) := Below.trans (by repeat (first | with_reducible exact Below.refl _ _ | with_reducible refine Below.alloc ?_ (by simp <;> omega) _ | with_reducible refine Below.drew ?_ | with_reducible refine below_drewN ?_ _)) (hb2.out.mono (by simp <;> omega))
  have Z2 : Hid (w1.heap.size + 0 ≤ w2.heap.size) := by have h := hb2.out.size; (try simp at h); show _ ≤ _; omega
  replace YA0w := uhide (YA0w.out.mono (a' := w1.heap.size + 0) (by (try simp) <;> omega) (Nat.le_refl _))
  replace BXA0 := uhide (BXA0.out.below HB2.out)
  replace OXA0 := uhide (OXA0.out.below HB2.out)
  have B2 : Hid (Below w.heap.size w w2) := B1.out.trans (HB2.out.mono B1.out.size)
  clear hb2 HB2
  go_wp2_with fail
  refine (HSQ.out _ _ _ _ ((YA0.out.below (by repeat (first | with_reducible exact Below.refl _ _ | with_reducible refine Below.alloc ?_ (by simp <;> omega) _ | with_reducible refine Below.drew ?_ | with_reducible refine below_drewN ?_ _))).hand YA0w.out.2)).mono ?_
  rintro e w3 ⟨aR0w, pR0w, rfl, WR0, hb3⟩
  have HB3 : Hid (Below w2.heap.size w2 w3) := Below.trans (by repeat (first | with_reducible exact Below.refl _ _ | with_reducible refine Below.alloc ?_ (by simp <;> omega) _ | with_reducible refine Below.drew ?_ | with_reducible refine below_drewN ?_ _)) (hb3.out.mono (by simp <;> omega))
  have Z3 : Hid (w2.heap.size + 0 ≤ w3.heap.size) := by have h := hb3.out.size; (try simp at h); show _ ≤ _; omega
  replace BXA0 := uhide (BXA0.out.below HB3.out)
  replace OXA0 := uhide (OXA0.out.below HB3.out)
  replace YA0 := uhide (YA0.out.below HB3.out)
  have B3 : Hid (Below w.heap.size w w3) := B2.out.trans (HB3.out.mono B2.out.size)
  clear hb3 HB3
  clear YA0 YA0w
  simp only
  have qBXA00 := BXA0.out.cell 0 _ rfl
  have qBXA01 := BXA0.out.cell 1 _ rfl
  have qBXA02 := BXA0.out.cell 2 _ rfl
  have qBXA03 := BXA0.out.cell 3 _ rfl
  go_wp2_with fail
  refine (HtoA0.out _ (by repeat (first | with_reducible exact B3.out | with_reducible refine Below.alloc ?_ (by have := B3.out.size; (try simp) <;> omega) _ | with_reducible refine Below.drew ?_ | with_reducible refine below_drewN ?_ _))).mono ?_
  rintro e w4 ⟨a0A0x, p0A0x, a3A0x, p3A0x, SXA0, rfl, XA0, XA0w, hb4⟩
  clear qBXA00 qBXA01 qBXA02 qBXA03
  have HB4 : Hid (Below w3.heap.size w3 w4) := Below.trans (by repeat (first | with_reducible exact Below.refl _ _ | with_reducible refine Below.alloc ?_ (by simp <;> omega) _ | with_reducible refine Below.drew ?_ | with_reducible refine below_drewN ?_ _)) (hb4.out.mono (by simp <;> omega))
  have Z4 : Hid (w3.heap.size + 0 ≤ w4.heap.size) := by have h := hb4.out.size; (try simp at h); show _ ≤ _; omega
  replace XA0w := uhide (XA0w.out.mono (a' := w3.heap.size + 0) (by (try simp) <;> omega) (Nat.le_refl _))
  replace BXA0 := uhide (BXA0.out.below HB4.out)
  replace OXA0 := uhide (OXA0.out.below HB4.out)
  replace WR0 := uhide (WR0.out.below HB4.out)
  have B4 : Hid (Below w.heap.size w w4) := B3.out.trans (HB4.out.mono B3.out.size)
  clear hb4 HB4
  go_wp2_with fail
  refine (HIQ.out _ _ _ _ _ (XA0.out.below (by repeat (first | with_reducible exact Below.refl _ _ | with_reducible refine Below.alloc ?_ (by simp <;> omega) _ | with_reducible refine Below.drew ?_ | with_reducible refine below_drewN ?_ _))) XA0w.out).mono ?_
  rintro e w5 ⟨aR0g, pR0g, SR0g, rfl, GR0, GR0w, hb5⟩
  have HB5 : Hid (Below w4.heap.size w4 w5) := Below.trans (by repeat (first | with_reducible exact Below.refl _ _ | with_reducible refine Below.alloc ?_ (by simp <;> omega) _ | with_reducible refine Below.drew ?_ | with_reducible refine below_drewN ?_ _)) (hb5.out.mono (by simp <;> omega))
  have BYA0 : Hid (objU w5 (w4.heap.size) 69 [.slice a0A0x n0A0 p0A0x, .int .i64 z1A0, .int .i64 z2A0, .slice a3A0x n3A0 p3A0x]) := objU.below (by repeat (first | with_reducible exact objU.new2 _ _ (by simp) | with_reducible refine objU.old ?_ _)) hb5.out
  have Z5 : Hid (w4.heap.size + 1 ≤ w5.heap.size) := by have h := hb5.out.size; (try simp at h); show _ ≤ _; omega
  replace GR0w := uhide (GR0w.out.mono (a' := w4.heap.size + 1) (by (try simp) <;> omega) (Nat.le_refl _))
  replace BXA0 := uhide (BXA0.out.below HB5.out)
  replace OXA0 := uhide (OXA0.out.below HB5.out)
  replace WR0 := uhide (WR0.out.below HB5.out)
  replace XA0 := uhide (XA0.out.below HB5.out)
  have B5 : Hid (Below w.heap.size w w5) := B4.out.trans (HB5.out.mono B4.out.size)
  clear hb5 HB5
  simp only
  go_wp2_with fail
  refine (HeqR0.out _ _ _ _ _ _ _ ((GR0.out.below (by repeat (first | with_reducible exact Below.refl _ _ | with_reducible refine Below.alloc ?_ (by simp <;> omega) _ | with_reducible refine Below.drew ?_ | with_reducible refine below_drewN ?_ _))).u GR0w.out.2) (WR0.out.below (by repeat (first | with_reducible exact Below.refl _ _ | with_reducible refine Below.alloc ?_ (by simp <;> omega) _ | with_reducible refine Below.drew ?_ | with_reducible refine below_drewN ?_ _)))).mono ?_
  rintro e w6 ⟨rfl, hb6⟩
  have HB6 : Hid (Below w5.heap.size w5 w6) := Below.trans (by repeat (first | with_reducible exact Below.refl _ _ | with_reducible refine Below.alloc ?_ (by simp <;> omega) _ | with_reducible refine Below.drew ?_ | with_reducible refine below_drewN ?_ _)) (hb6.out.mono (by simp <;> omega))
  have Z6 : Hid (w5.heap.size + 0 ≤ w6.heap.size) := by have h := hb6.out.size; (try simp at h); show _ ≤ _; omega
  replace BXA0 := uhide (BXA0.out.below HB6.out)
  replace OXA0 := uhide (OXA0.out.below HB6.out)
  replace WR0 := uhide (WR0.out.below HB6.out)
  replace XA0 := uhide (XA0.out.below HB6.out)
  replace BYA0 := uhide (BYA0.out.below HB6.out)
  replace GR0 := uhide (GR0.out.below HB6.out)
  have B6 : Hid (Below w.heap.size w w6) := B5.out.trans (HB6.out.mono B5.out.size)
  clear hb6 HB6
  have qBYA00 := BYA0.out.cell 0 _ rfl
  have qBYA01 := BYA0.out.cell 1 _ rfl
  have qBYA02 := BYA0.out.cell 2 _ rfl
  have qBYA03 := BYA0.out.cell 3 _ rfl
  have qBXA00 := BXA0.out.cell 0 _ rfl
  have qBXA01 := BXA0.out.cell 1 _ rfl
  have qBXA02 := BXA0.out.cell 2 _ rfl
  have qBXA03 := BXA0.out.cell 3 _ rfl
  have RT : Hid (∀ wx, Below w6.heap.size w6 wx → Calls Tryz.prog 35 #[.agg #[.slice a0A0 n0A0 p0A0, .int .i64 z1A0, .int .i64 z2A0, .slice a3A0 n3A0 p3A0]] wx fun e w' => ∃ a0rA0 p0rA0 a3rA0 p3rA0, e = .returned (.agg #[.slice a0rA0 n0A0 p0rA0, .int .i64 z1A0, .int .i64 z2A0, .slice a3rA0 n3A0 p3rA0]) ∧ Hid (uH w' 0 w'.heap.size dA0 [.slice a0rA0 n0A0 p0rA0, .int .i64 z1A0, .int .i64 z2A0, .slice a3rA0 n3A0 p3rA0]) ∧ Hid (Below w6.heap.size w6 w')) := fun wx hb => (HtoA0.out wx (B6.out.trans (hb.mono B6.out.size))).mono fun e w' ⟨a0rA0, p0rA0, a3rA0, p3rA0, S, h1, h2, h3, h4⟩ => ⟨a0rA0, p0rA0, a3rA0, p3rA0, h1, h2.out.hand (lo := 0) (hi := w'.heap.size) (fun g hg => ⟨Nat.zero_le _, (h3.out.2 g hg).2⟩), hb.trans (h4.out.mono hb.size)⟩
  have RE : Hid (∀ (wx : World) (ys : List Value) (lo hi : Nat), Below w6.heap.size w6 wx → uH wx lo hi dA0 ys → Calls Tryz.prog 38 #[.agg #[.slice a0A0x n0A0 p0A0x, .int .i64 z1A0, .int .i64 z2A0, .slice a3A0x n3A0 p3A0x], .agg ys.toArray] wx fun e w' => e = .returned (.bool true) ∧ Hid (Below w6.heap.size w6 w')) := fun wx ys lo hi hb h => (HeqA0.out wx _ _ lo hi _ ys ((XA0.out.below hb).hand XA0w.out.2) h).mono fun e w' h => ⟨h.1, hb.trans (h.2.out.mono hb.size)⟩
  have hb7r : Hid (Below w6.heap.size w6 w6) := Below.refl _ _
  go_wp2
  have hbr := hb7r
  go_region_with (first
    | (go_at_call 35; refine (RT.out _ (by repeat (first | with_reducible exact Below.refl _ _ | with_reducible exact hbr.out | with_reducible refine Below.drew ?_ | with_reducible refine below_drewN ?_ _))).mono ?_; rintro e wt ⟨a0A0t, p0A0t, a3A0t, p3A0t, rfl, XT, hbt⟩; replace hbr := hbt; have qBYA00r := (BYA0.out.below hbr.out).cell 0 _ rfl; have qBYA01r := (BYA0.out.below hbr.out).cell 1 _ rfl; have qBYA02r := (BYA0.out.below hbr.out).cell 2 _ rfl; have qBYA03r := (BYA0.out.below hbr.out).cell 3 _ rfl)
    | (go_at_call 38; refine (RE.out _ _ _ _ (by repeat (first | with_reducible exact Below.refl _ _ | with_reducible exact hbr.out | with_reducible refine Below.drew ?_ | with_reducible refine below_drewN ?_ _)) (by first | exact XT.out | exact XT.out.below (by repeat (first | with_reducible exact Below.refl _ _ | with_reducible refine Below.drew ?_ | with_reducible refine below_drewN ?_ _)))).mono ?_; rintro e w7 ⟨rfl, hb7⟩))
  all_goals (
    have HB7 := hb7
    have Z7 : Hid (w6.heap.size + 0 ≤ w7.heap.size) := HB7.out.size
    replace BXA0 := uhide (BXA0.out.below HB7.out)
    replace OXA0 := uhide (OXA0.out.below HB7.out)
    replace WR0 := uhide (WR0.out.below HB7.out)
    replace XA0 := uhide (XA0.out.below HB7.out)
    replace BYA0 := uhide (BYA0.out.below HB7.out)
    replace GR0 := uhide (GR0.out.below HB7.out)
    have B7 : Hid (Below w.heap.size w w7) := B6.out.trans (HB7.out.mono B6.out.size)
    clear hb7 HB7
    have qBYA00 := BYA0.out.cell 0 _ rfl
    have qBYA01 := BYA0.out.cell 1 _ rfl
    have qBYA02 := BYA0.out.cell 2 _ rfl
    have qBYA03 := BYA0.out.cell 3 _ rfl
    go_wp2_with fail
    refine (HmkA0.out _ _ _ _ _ _ XA0.out XA0w.out (by omega)).mono ?_
    rintro e w8 ⟨rfl, ho8⟩
    clear qBYA00 qBYA01 qBYA02 qBYA03
    replace BXA0 := uhide (BXA0.out.outS ho8 (XA0w.out.not (by have := Zb.out; have := Z2.out; have := Z3.out; have := Z4.out; have := Z5.out; have := Z6.out; have := Z7.out; omega)))
    replace OXA0 := uhide (OXA0.out.out (XA0w.out.out ho8) (by have := Zb.out; have := Z2.out; have := Z3.out; have := Z4.out; have := Z5.out; have := Z6.out; have := Z7.out; omega))
    replace WR0 := uhide (WR0.out.out (XA0w.out.out ho8) (by have := Zb.out; have := Z2.out; have := Z3.out; have := Z4.out; have := Z5.out; have := Z6.out; have := Z7.out; omega))
    replace BYA0 := uhide (BYA0.out.outS ho8 (XA0w.out.not (by have := Zb.out; have := Z2.out; have := Z3.out; have := Z4.out; have := Z5.out; have := Z6.out; have := Z7.out; omega)))
    replace GR0 := uhide (GR0.out.outs ho8 GR0w.out (fun x hx => by have := XA0w.out.2 x hx; have := Zb.out; have := Z2.out; have := Z3.out; have := Z4.out; have := Z5.out; have := Z6.out; have := Z7.out; omega))
    have Z8 : Hid (w7.heap.size + 0 ≤ w8.heap.size) := ho8.size
    have B8 : Hid (Below w.heap.size w w8) := B7.out.trans (XA0w.out.below ho8 (by have := B1.out.size; have := Zb.out; have := Z2.out; have := Z3.out; have := Z4.out; have := Z5.out; have := Z6.out; have := Z7.out; omega) B7.out.size)
    clear ho8
    have hk0 : ¬ ((((1 + mA0) : Nat) : Int) < 0) := by omega
    go_wp2_with fail
    refine (HeqR0.out _ _ _ _ _ _ _ ((GR0.out.below (by repeat (first | with_reducible exact Below.refl _ _ | with_reducible refine Below.alloc ?_ (by simp <;> omega) _ | with_reducible refine Below.drew ?_ | with_reducible refine below_drewN ?_ _))).u GR0w.out.2) (WR0.out.below (by repeat (first | with_reducible exact Below.refl _ _ | with_reducible refine Below.alloc ?_ (by simp <;> omega) _ | with_reducible refine Below.drew ?_ | with_reducible refine below_drewN ?_ _)))).mono ?_
    rintro e w9 ⟨rfl, hb9⟩
    have HB9 : Hid (Below w8.heap.size w8 w9) := Below.trans (by repeat (first | with_reducible exact Below.refl _ _ | with_reducible refine Below.alloc ?_ (by simp <;> omega) _ | with_reducible refine Below.drew ?_ | with_reducible refine below_drewN ?_ _)) (hb9.out.mono (by simp <;> omega))
    have Z9 : Hid (w8.heap.size + 0 ≤ w9.heap.size) := by have h := hb9.out.size; (try simp at h); show _ ≤ _; omega
    replace BXA0 := uhide (BXA0.out.below HB9.out)
    replace OXA0 := uhide (OXA0.out.below HB9.out)
    replace WR0 := uhide (WR0.out.below HB9.out)
    replace BYA0 := uhide (BYA0.out.below HB9.out)
    replace GR0 := uhide (GR0.out.below HB9.out)
    have B9 : Hid (Below w.heap.size w w9) := B8.out.trans (HB9.out.mono B8.out.size)
    clear hb9 HB9
    go_wp2_with fail
    refine (HmkR0.out _ _ _ _ _ _ GR0.out GR0w.out (by omega)).mono ?_
    rintro e w10 ⟨rfl, GMR0, ho10⟩
    replace BXA0 := uhide (BXA0.out.outS ho10 (GR0w.out.not (by have := Zb.out; have := Z2.out; have := Z3.out; have := Z4.out; have := Z5.out; have := Z6.out; have := Z7.out; have := Z8.out; have := Z9.out; omega)))
    replace OXA0 := uhide (OXA0.out.out (GR0w.out.out ho10) (by have := Zb.out; have := Z2.out; have := Z3.out; have := Z4.out; have := Z5.out; have := Z6.out; have := Z7.out; have := Z8.out; have := Z9.out; omega))
    replace WR0 := uhide (WR0.out.out (GR0w.out.out ho10) (by have := Zb.out; have := Z2.out; have := Z3.out; have := Z4.out; have := Z5.out; have := Z6.out; have := Z7.out; have := Z8.out; have := Z9.out; omega))
    replace BYA0 := uhide (BYA0.out.outS ho10 (GR0w.out.not (by have := Zb.out; have := Z2.out; have := Z3.out; have := Z4.out; have := Z5.out; have := Z6.out; have := Z7.out; have := Z8.out; have := Z9.out; omega)))
    have Z10 : Hid (w9.heap.size + 0 ≤ w10.heap.size) := ho10.size
    have B10 : Hid (Below w.heap.size w w10) := B9.out.trans (GR0w.out.below ho10 (by have := B1.out.size; have := Zb.out; have := Z2.out; have := Z3.out; have := Z4.out; have := Z5.out; have := Z6.out; have := Z7.out; have := Z8.out; have := Z9.out; omega) B9.out.size)
    clear ho10
    replace GMR0 := uhide GMR0
    have GMR0w := GR0w
    have hq0 : ¬ ((((1 + mR0) : Nat) : Int) < 0) := by omega
    have hq1 : (((((1 + mR0) : Nat) : Int)) != ((((1 + mR0) : Nat) : Int))) = false := by simp
    go_wp2_with fail
    refine (HhdR0.out _ _ _ _ _ ((GMR0.out.below (by repeat (first | with_reducible exact Below.refl _ _ | with_reducible refine Below.alloc ?_ (by simp <;> omega) _ | with_reducible refine Below.drew ?_ | with_reducible refine below_drewN ?_ _))).u GMR0w.out.2) (by omega)).mono ?_
    rintro e w11 ⟨rfl, hb11⟩
    have HB11 : Hid (Below w10.heap.size w10 w11) := Below.trans (by repeat (first | with_reducible exact Below.refl _ _ | with_reducible refine Below.alloc ?_ (by simp <;> omega) _ | with_reducible refine Below.drew ?_ | with_reducible refine below_drewN ?_ _)) (hb11.out.mono (by simp <;> omega))
    have Z11 : Hid (w10.heap.size + 0 ≤ w11.heap.size) := by have h := hb11.out.size; (try simp at h); show _ ≤ _; omega
    replace BXA0 := uhide (BXA0.out.below HB11.out)
    replace OXA0 := uhide (OXA0.out.below HB11.out)
    replace WR0 := uhide (WR0.out.below HB11.out)
    replace BYA0 := uhide (BYA0.out.below HB11.out)
    replace GMR0 := uhide (GMR0.out.below HB11.out)
    have B11 : Hid (Below w.heap.size w w11) := B10.out.trans (HB11.out.mono B10.out.size)
    clear hb11 HB11
    have qBXA00 := BXA0.out.cell 0 _ rfl
    have qBXA01 := BXA0.out.cell 1 _ rfl
    have qBXA02 := BXA0.out.cell 2 _ rfl
    have qBXA03 := BXA0.out.cell 3 _ rfl
    go_wp2_with fail
    refine (HtoA0.out _ (by repeat (first | with_reducible exact B11.out | with_reducible refine Below.alloc ?_ (by have := B11.out.size; (try simp) <;> omega) _ | with_reducible refine Below.drew ?_ | with_reducible refine below_drewN ?_ _))).mono ?_
    rintro e w12 ⟨a0A0u, p0A0u, a3A0u, p3A0u, SUA0, rfl, UA0, UA0w, hb12⟩
    clear qBXA00 qBXA01 qBXA02 qBXA03
    have HB12 : Hid (Below w11.heap.size w11 w12) := Below.trans (by repeat (first | with_reducible exact Below.refl _ _ | with_reducible refine Below.alloc ?_ (by simp <;> omega) _ | with_reducible refine Below.drew ?_ | with_reducible refine below_drewN ?_ _)) (hb12.out.mono (by simp <;> omega))
    have Z12 : Hid (w11.heap.size + 0 ≤ w12.heap.size) := by have h := hb12.out.size; (try simp at h); show _ ≤ _; omega
    replace UA0w := uhide (UA0w.out.mono (a' := w11.heap.size + 0) (by (try simp) <;> omega) (Nat.le_refl _))
    replace BXA0 := uhide (BXA0.out.below HB12.out)
    replace OXA0 := uhide (OXA0.out.below HB12.out)
    replace WR0 := uhide (WR0.out.below HB12.out)
    replace BYA0 := uhide (BYA0.out.below HB12.out)
    replace GMR0 := uhide (GMR0.out.below HB12.out)
    have B12 : Hid (Below w.heap.size w w12) := B11.out.trans (HB12.out.mono B11.out.size)
    clear hb12 HB12
    go_wp2_with fail
    refine (HIQ.out _ _ _ _ _ (UA0.out.below (by repeat (first | with_reducible exact Below.refl _ _ | with_reducible refine Below.alloc ?_ (by simp <;> omega) _ | with_reducible refine Below.drew ?_ | with_reducible refine below_drewN ?_ _))) UA0w.out).mono ?_
    rintro e w13 ⟨aR0h, pR0h, SR0h, rfl, KR0, KR0w, hb13⟩
    have HB13 : Hid (Below w12.heap.size w12 w13) := Below.trans (by repeat (first | with_reducible exact Below.refl _ _ | with_reducible refine Below.alloc ?_ (by simp <;> omega) _ | with_reducible refine Below.drew ?_ | with_reducible refine below_drewN ?_ _)) (hb13.out.mono (by simp <;> omega))
    have Z13 : Hid (w12.heap.size + 0 ≤ w13.heap.size) := by have h := hb13.out.size; (try simp at h); show _ ≤ _; omega
    replace KR0w := uhide (KR0w.out.mono (a' := w12.heap.size + 0) (by (try simp) <;> omega) (Nat.le_refl _))
    replace BXA0 := uhide (BXA0.out.below HB13.out)
    replace OXA0 := uhide (OXA0.out.below HB13.out)
    replace WR0 := uhide (WR0.out.below HB13.out)
    replace BYA0 := uhide (BYA0.out.below HB13.out)
    replace GMR0 := uhide (GMR0.out.below HB13.out)
    replace UA0 := uhide (UA0.out.below HB13.out)
    have B13 : Hid (Below w.heap.size w w13) := B12.out.trans (HB13.out.mono B12.out.size)
    clear hb13 HB13
    simp only
    go_wp2_with fail
    refine (HeqR0.out _ _ _ _ _ _ _ ((KR0.out.below (by repeat (first | with_reducible exact Below.refl _ _ | with_reducible refine Below.alloc ?_ (by simp <;> omega) _ | with_reducible refine Below.drew ?_ | with_reducible refine below_drewN ?_ _))).u KR0w.out.2) (WR0.out.below (by repeat (first | with_reducible exact Below.refl _ _ | with_reducible refine Below.alloc ?_ (by simp <;> omega) _ | with_reducible refine Below.drew ?_ | with_reducible refine below_drewN ?_ _)))).mono ?_
    rintro e w14 ⟨rfl, hb14⟩
    have HB14 : Hid (Below w13.heap.size w13 w14) := Below.trans (by repeat (first | with_reducible exact Below.refl _ _ | with_reducible refine Below.alloc ?_ (by simp <;> omega) _ | with_reducible refine Below.drew ?_ | with_reducible refine below_drewN ?_ _)) (hb14.out.mono (by simp <;> omega))
    have Z14 : Hid (w13.heap.size + 0 ≤ w14.heap.size) := by have h := hb14.out.size; (try simp at h); show _ ≤ _; omega
    replace BXA0 := uhide (BXA0.out.below HB14.out)
    replace OXA0 := uhide (OXA0.out.below HB14.out)
    replace WR0 := uhide (WR0.out.below HB14.out)
    replace BYA0 := uhide (BYA0.out.below HB14.out)
    replace GMR0 := uhide (GMR0.out.below HB14.out)
    replace UA0 := uhide (UA0.out.below HB14.out)
    replace KR0 := uhide (KR0.out.below HB14.out)
    have B14 : Hid (Below w.heap.size w w14) := B13.out.trans (HB14.out.mono B13.out.size)
    clear hb14 HB14
    go_wp2_with fail
    refine (HhdR0.out _ _ _ _ _ ((GMR0.out.below (by repeat (first | with_reducible exact Below.refl _ _ | with_reducible refine Below.alloc ?_ (by simp <;> omega) _ | with_reducible refine Below.drew ?_ | with_reducible refine below_drewN ?_ _))).u GMR0w.out.2) (by omega)).mono ?_
    rintro e w15 ⟨rfl, hb15⟩
    have HB15 : Hid (Below w14.heap.size w14 w15) := Below.trans (by repeat (first | with_reducible exact Below.refl _ _ | with_reducible refine Below.alloc ?_ (by simp <;> omega) _ | with_reducible refine Below.drew ?_ | with_reducible refine below_drewN ?_ _)) (hb15.out.mono (by simp <;> omega))
    have Z15 : Hid (w14.heap.size + 0 ≤ w15.heap.size) := by have h := hb15.out.size; (try simp at h); show _ ≤ _; omega
    replace BXA0 := uhide (BXA0.out.below HB15.out)
    replace OXA0 := uhide (OXA0.out.below HB15.out)
    replace WR0 := uhide (WR0.out.below HB15.out)
    replace BYA0 := uhide (BYA0.out.below HB15.out)
    replace GMR0 := uhide (GMR0.out.below HB15.out)
    replace UA0 := uhide (UA0.out.below HB15.out)
    replace KR0 := uhide (KR0.out.below HB15.out)
    have B15 : Hid (Below w.heap.size w w15) := B14.out.trans (HB15.out.mono B14.out.size)
    clear hb15 HB15
    go_wp2
    go_ret
    exact ⟨rfl, by repeat (first | with_reducible exact B15.out | with_reducible refine Below.drew ?_ | with_reducible refine below_drewN ?_ _)⟩)
set_option maxRecDepth 100000 in
theorem lifted (os : Os) (started : os.Started) (H : Type) (enc : TypeId × Value → H) :
    ReturnsInHanded {} Tryz.checked os 6 .any (Rows.fnExactSinceSpec.pre6 enc Tryz.prog Tryz.f6 Rows.fnExactSinceRow.domain false) (Rows.fnExactSinceSpec.post enc Tryz.prog Tryz.f6 false true false false) := by
  refine returnsInHanded_of_change (C := Tryz.checked) own started (by kernel_rfl) Tryz.func6
    (ChangeSpec.witness6 (enc := enc) (C := Tryz.checked) false ⟨#[], #[.agg #[.slice none 0 0, .int .i64 0, .int .i64 0, .slice none 0 0], .int .i64 0], []⟩ 12 (by kernel_rfl) (by kernel_rfl) (by kernel_rfl) (by kernel_rfl)) ?_
  intro W base args ds gs before hval0 hW hcnd _
  have hval : ∀ (j : Nat) t v, Tryz.f6.params[j]? = some t → args[j]? = some v → Value.okWide Tryz.prog W .any base t v := hval0
  have hW' := hW
  obtain ⟨p, q, hA0, hV, rfl, hfz, hnd⟩ := hW
  have hA : DataW.TrodAll enc Tryz.prog W 0 (fun _ => true) true Tryz.f6.params.toList args.toList ds p := hA0
  rw [Tryz.params6] at hA hval
  obtain ⟨v0, vs0, d0, ds0, p0, q0, hargs, rfl, rfl, h0, r0⟩ := trodAll_cons hA
  obtain ⟨v1, vs1, d1, ds1, p1, q1, rfl, rfl, rfl, h1, r1⟩ := trodAll_cons r0
  obtain ⟨rfl, rfl, rfl⟩ := trodAll_nil r1
  obtain rfl : args = #[v0, v1] := by cases args; simp_all
  obtain ⟨rfl, rfl⟩ := trodVars_none hV
  obtain ⟨cs0, rfl, hsz0⟩ := okWide_struct Tryz.underlying61 (hval 0 61 v0 rfl rfl)
  have k0 := h0
  have lt0 : ∀ x ∈ p0, x.block < W.heap.size := by obtain ⟨m, hm⟩ := k0; exact DataW.trod_lt m _ _ _ hm
  obtain ⟨fuel0, hf0⟩ := h0
  obtain ⟨xs0, rfl⟩ : ∃ xs : List Value, cs0 = xs.toArray := ⟨cs0.toList, by simp⟩
  have hl0 : xs0.length = (uE 10).length := (show xs0.length = xs0.toArray.size by simp).trans (hsz0.trans (show Tryz.prog.cellsOf 61 = (uE 10).length by kernel_rfl))
  obtain ⟨dd0, hd0, hh0⟩ := openU (enc := enc) flatU fuel0 _ _ flatBase xs0 _ hl0 (by simpa [Value.cells] using hf0)
  obtain ⟨n1, rfl, rfl, rfl, w1⟩ := open_int Tryz.underlying3 (hval 1 3 v1 rfl rfl) h1
  have wi1 : inK .i64 n1 := by have h := Go.Joins.in64_of_wf w1; unfold Go.Joins.In64 at h; exact ⟨by omega, by omega⟩
  clear hA0 hval0
  refine (walk dd0 xs0 n1 W hd0 hh0 wi1).mono fun e W' ⟨he, bel⟩ => ?_
  subst he
  exact ⟨_, rfl, _, _, _, [], _, [], hW', trodAll_mk1 (shut_bool Tryz.underlying4 _), (trodAll_cons_mk (Below.trod laidOut (by kernel_rfl) (of_decide_eq_true (by kernel_rfl)) k0 bel lt0) (trodAll_cons_mk (shut_int Tryz.underlying3 w1) trodAll_mk0)), rfl, bel.frame _, fun h => by cases h⟩
end LSince
theorem since_holds : Rows.FnExactSinceSaid :=
  OpenClaim.holds_of_wide 6 Tryz.f6 rfl rfl rfl rfl rfl rfl rfl ⟨rfl, rfl, rfl, rfl, rfl⟩ rfl rfl rfl rfl rfl (by kernel_rfl) Tryz.func6 (by kernel_rfl)
    (of_decide_eq_true (by kernel_rfl)) (by unfold Func.isWrapper; first | (rw [if_pos (by decide +kernel)]; kernel_rfl) | (rw [if_neg (by decide +kernel)]; exact ⟨rfl, rfl⟩))
    (fun os started H enc _ => LSince.lifted os started H enc)
#print axioms since_holds
end Go.Proofs.YtdnodaoeflbfkaaGreat
