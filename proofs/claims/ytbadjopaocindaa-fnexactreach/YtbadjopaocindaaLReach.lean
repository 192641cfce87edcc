/- FnExactReach holds: at every value and path impl.Reach answers what spec.Reach answers, in memory of its own. No conditions. -/
import Derived.Test.YtbadjopaocindaaRows
import Derived.Test.YtbadjopaocindaaVReachP
import Derived.Test.YtbadjopaocindaaU3
import Derived.WalkKit
import Derived.ProofKit
import Derived.OpenShut
import Derived.ShutString
import Derived.ChangeOld
import Derived.Below
namespace Go.Proofs.Ytbadjopaocindaa
open Go.ChangeShapes Go.WideShapes Go.ChangeAt Go.RowKit Go.BigFrame
open Go.ChangeMaps (open_string shut_string)
set_option linter.unusedVariables false
namespace LReach
theorem laidOut : laidOutB Try.prog = true := by kernel_rfl
theorem own : ownKnob Try.prog.godebug = none := by kernel_rfl
def TYU : Nat → TypeId
  | 0 => 9
  | 6 => 56
  | _ => 0
def GU (n : Nat) : Prop := n = 0 ∨ n = 6
theorem flatValue : Flat Try.prog TYU GU 56 (uE 6) := by
  refine Flat.struct [[.i .i64], [.s], [.i .i64], [.l 1 0], [.l 5 6]] Try.underlying56 rfl (fun i f s hf hs => ?_) (fun i f s hf hs => ?_)
  · match i, hf, hs with
    | 0, hf, hs => cases hf; cases hs; exact (Flat.i64 Try.underlying3)
    | 1, hf, hs => cases hf; cases hs; exact (Flat.str Try.underlying9)
    | 2, hf, hs => cases hf; cases hs; exact (Flat.i64 Try.underlying3)
    | 3, hf, hs => cases hf; cases hs; exact (Flat.slice 0 Try.underlying31 (by simp [GU]) (by kernel_rfl) (by decide))
    | 4, hf, hs => cases hf; cases hs; exact (Flat.slice 6 Try.underlying54 (by simp [GU]) (by kernel_rfl) (by decide))
    | i + 5, hf, hs => simp at hs
  · match i, hf, hs with
    | 0, hf, hs => cases hf; cases hs; exact ⟨by kernel_rfl, rfl⟩
    | 1, hf, hs => cases hf; cases hs; exact ⟨by kernel_rfl, rfl⟩
    | 2, hf, hs => cases hf; cases hs; exact ⟨by kernel_rfl, rfl⟩
    | 3, hf, hs => cases hf; cases hs; exact ⟨by kernel_rfl, rfl⟩
    | 4, hf, hs => cases hf; cases hs; exact ⟨by kernel_rfl, rfl⟩
    | i + 5, hf, hs => simp at hs
theorem flatU : ∀ n, GU n → Flat Try.prog TYU GU (TYU n) (uE n) := by
  intro n h
  unfold GU at h
  rcases h with rfl | rfl
  · exact (Flat.str Try.underlying9)
  · exact flatValue
set_option maxRecDepth 20000 in
set_option maxHeartbeats 3200000 in
theorem walk (dA0 : UD) (xsA0 : List Value) (nA1 : Nat) (csA1 : UD) (cA1 : Value) (w : World) (htA0 : tyL dA0 (uE 6)) (hxA0 : uH w 0 w.heap.size dA0 xsA0) (htA1 : tyS 1 nA1 csA1 0) (hxA1 : uS w 0 w.heap.size 1 nA1 csA1 cA1) :
    Calls Try.prog 11 #[.agg xsA0.toArray, cA1] w fun e w' => e = .returned (.bool true) ∧ Below w.heap.size w w' := by
  obtain ⟨z0A0, z1A0, z2A0, n3A0, c3A0, n4A0, c4A0, hdA0, g0A0, g1A0, g2A0, g3A0, g4A0⟩ := partsValue htA0
  have SHA0 : Hid (∀ (wx : World) (lo hi : Nat) (ys : List Value), uH wx lo hi dA0 ys → ∃ a3A0 p3A0 a4A0 p4A0, ys = [.int .i64 z0A0, .string z1A0, .int .i64 z2A0, .slice a3A0 n3A0 p3A0, .slice a4A0 n4A0 p4A0]) := by
    intro wx lo hi ys h
    rw [hdA0] at h
    obtain ⟨_, rfl, ⟨_, rfl, ⟨_, rfl, ⟨v3A0, _, rfl, s3, ⟨v4A0, _, rfl, s4, rfl⟩⟩⟩⟩⟩ := h
    obtain ⟨a3A0, p3A0, rfl, t3A0⟩ := s3
    obtain ⟨a4A0, p4A0, rfl, t4A0⟩ := s4
    exact ⟨a3A0, p3A0, a4A0, p4A0, rfl⟩
  obtain ⟨a3A0, p3A0, a4A0, p4A0, rfl⟩ := SHA0.out w _ _ xsA0 hxA0
  have OXA0 : Hid (uH w 0 w.heap.size dA0 [.int .i64 z0A0, .string z1A0, .int .i64 z2A0, .slice a3A0 n3A0 p3A0, .slice a4A0 n4A0 p4A0]) := hxA0
  have HtA0 := uhide htA0
  clear hxA0 hdA0 g0A0 g1A0 g2A0 g3A0 g4A0
  obtain ⟨aA1, pA1, rfl, hx2A1⟩ := hxA1
  have OXA1 : Hid (uS w 0 w.heap.size 1 nA1 csA1 (.slice aA1 nA1 pA1)) := ⟨_, _, rfl, hx2A1⟩
  have HtA1 := uhide htA1
  clear hx2A1
  obtain ⟨l1, hl1⟩ : ∃ l, leftI (1048576 : Int) (wt dA0) = l := ⟨_, rfl⟩
  have HsA0 : Hid (∀ wx, Below w.heap.size w wx → Calls Try.prog 35 #[.agg #[.int .i64 z0A0, .string z1A0, .int .i64 z2A0, .slice a3A0 n3A0 p3A0, .slice a4A0 n4A0 p4A0], .int .i64 1048576] wx fun e w' => e = .returned (.int .i64 l1) ∧ Hid (Below wx.heap.size wx w')) := fun wx hb => hl1 ▸ uszValue_any (lo := 0) (hi := w.heap.size) dA0 [.int .i64 z0A0, .string z1A0, .int .i64 z2A0, .slice a3A0 n3A0 p3A0, .slice a4A0 n4A0 p4A0] 1048576 wx HtA0.out (OXA0.out.below hb) (by decide) (by decide)
  have hle0 : l1 ≤ 1048576 := by rw [← hl1]; unfold leftI; split <;> omega
  by_cases hn0 : l1 < 0
  · go_enter Try.func11, Try.ntmps11
    go_wp2_with fail
    refine (HsA0.out _ (by repeat (first | with_reducible exact Below.refl _ _ | with_reducible refine Below.alloc ?_ (by simp <;> omega) _ | with_reducible refine Below.drew ?_ | with_reducible refine below_drewN ?_ _))).mono ?_
    rintro e w1 ⟨rfl, hb1⟩
    have HB1 : Hid (Below w.heap.size w w1) := Below.trans (by repeat (first | with_reducible exact Below.refl _ _ | with_reducible refine Below.alloc ?_ (by simp <;> omega) _ | with_reducible refine Below.drew ?_ | with_reducible refine below_drewN ?_ _)) (hb1.out.mono (by simp <;> omega))
    have BXA0_1 : Hid (objU w1 (w.heap.size) 56 [.int .i64 z0A0, .string z1A0, .int .i64 z2A0, .slice a3A0 n3A0 p3A0, .slice a4A0 n4A0 p4A0]) := objU.below (by repeat (first | with_reducible exact objU.new2 _ _ (by simp) | with_reducible refine objU.old ?_ _)) hb1.out
    have B1 : Hid (Below w.heap.size w w1) := HB1
    clear hb1
    go_wp2
    go_ret
    exact ⟨rfl, B1.out⟩
  have Hw0 : Hid (l1 = 1048576 - ((wt dA0) : Nat)) := by show _ = _; rw [← hl1]; exact (leftI_pos 0 (by rw [hl1]; exact hn0)).2.1
  obtain ⟨l2, hl2⟩ : ∃ l, leftI l1 (nA1 + wt csA1) = l := ⟨_, rfl⟩
  have HsA1 : Hid (∀ wx, Below w.heap.size w wx → Calls Try.prog 40 #[.slice aA1 nA1 pA1, .int .i64 l1] wx fun e w' => e = .returned (.int .i64 l2) ∧ Hid (Below wx.heap.size wx w')) := fun wx hb => hl2 ▸ uszStringS_any (lo := 0) (hi := w.heap.size) nA1 csA1 _ l1 wx HtA1.out (by omega) (by omega) (OXA1.out.below hb)
  have hle1 : l2 ≤ 1048576 := by rw [← hl2]; unfold leftI; split <;> omega
  by_cases hn1 : l2 < 0
  · go_enter Try.func11, Try.ntmps11
    go_wp2_with fail
    refine (HsA0.out _ (by repeat (first | with_reducible exact Below.refl _ _ | with_reducible refine Below.alloc ?_ (by simp <;> omega) _ | with_reducible refine Below.drew ?_ | with_reducible refine below_drewN ?_ _))).mono ?_
    rintro e w1 ⟨rfl, hb1⟩
    have HB1 : Hid (Below w.heap.size w w1) := Below.trans (by repeat (first | with_reducible exact Below.refl _ _ | with_reducible refine Below.alloc ?_ (by simp <;> omega) _ | with_reducible refine Below.drew ?_ | with_reducible refine below_drewN ?_ _)) (hb1.out.mono (by simp <;> omega))
    have BXA0_1 : Hid (objU w1 (w.heap.size) 56 [.int .i64 z0A0, .string z1A0, .int .i64 z2A0, .slice a3A0 n3A0 p3A0, .slice a4A0 n4A0 p4A0]) := objU.below (by repeat (first | with_reducible exact objU.new2 _ _ (by simp) | with_reducible refine objU.old ?_ _)) hb1.out
    have B1 : Hid (Below w.heap.size w w1) := HB1
    clear hb1
    go_wp2_with fail
    refine (HsA1.out _ (by repeat (first | with_reducible exact B1.out | with_reducible refine Below.alloc ?_ (by have := B1.out.size; (try simp) <;> omega) _ | with_reducible refine Below.drew ?_ | with_reducible refine below_drewN ?_ _))).mono ?_
    rintro e w2 ⟨rfl, hb2⟩
    have HB2 : Hid (Below w1.heap.size w1 w2) := Below.trans (by repeat (first | with_reducible exact Below.refl _ _ | with_reducible refine Below.alloc ?_ (by simp <;> omega) _ | with_reducible refine Below.drew ?_ | with_reducible refine below_drewN ?_ _)) (hb2.out.mono (by simp <;> omega))
    have BXA0_2 := uhide (BXA0_1.out.below HB2.out)
    have B2 : Hid (Below w.heap.size w w2) := B1.out.trans (HB2.out.mono B1.out.size)
    clear hb2
    go_wp2
    go_ret
    exact ⟨rfl, B2.out⟩
  have Hw1 : Hid (l2 = l1 - ((nA1 + wt csA1) : Nat)) := by show _ = _; rw [← hl2]; exact (leftI_pos 0 (by rw [hl2]; exact hn1)).2.1
  have hw0 := Hw0.out
  have hw1 := Hw1.out
  obtain ⟨dR0, bR1, hrR0, hcR0, HSP, HIM⟩ := reach_both dA0 nA1 csA1 HtA0.out HtA1.out (by omega)
  replace HSP := uhide HSP
  replace HIM := uhide HIM
  have HrR0 := uhide hrR0
  obtain ⟨z0R0, z1R0, z2R0, n3R0, c3R0, n4R0, c4R0, hdR0, g0R0, g1R0, g2R0, g3R0, g4R0⟩ := partsValue hrR0
  have SHR0 : Hid (∀ (wx : World) (lo hi : Nat) (ys : List Value), uH wx lo hi dR0 ys → ∃ a3R0 p3R0 a4R0 p4R0, ys = [.int .i64 z0R0, .string z1R0, .int .i64 z2R0, .slice a3R0 n3R0 p3R0, .slice a4R0 n4R0 p4R0]) := by
    intro wx lo hi ys h
    rw [hdR0] at h
    obtain ⟨_, rfl, ⟨_, rfl, ⟨_, rfl, ⟨v3R0, _, rfl, s3, ⟨v4R0, _, rfl, s4, rfl⟩⟩⟩⟩⟩ := h
    obtain ⟨a3R0, p3R0, rfl, t3R0⟩ := s3
    obtain ⟨a4R0, p4R0, rfl, t4R0⟩ := s4
    exact ⟨a3R0, p3R0, a4R0, p4R0, rfl⟩
  clear hrR0 hdR0 g0R0 g1R0 g2R0 g3R0 g4R0
  have HSQ : Hid (∀ (wx : World) (loA0 hiA0 : Nat) (xsA0 : List Value) (loA1 hiA1 : Nat) (cA1 : Value), uH wx loA0 hiA0 dA0 xsA0 → uS wx loA1 hiA1 1 nA1 csA1 cA1 → Calls Try.prog 21 #[.agg xsA0.toArray, cA1] wx fun e w' => ∃ a3R0 p3R0 a4R0 p4R0, e = .returned (.tuple #[.agg #[.int .i64 z0R0, .string z1R0, .int .i64 z2R0, .slice a3R0 n3R0 p3R0, .slice a4R0 n4R0 p4R0], .bool bR1]) ∧ Hid (uH w' 0 w'.heap.size dR0 [.int .i64 z0R0, .string z1R0, .int .i64 z2R0, .slice a3R0 n3R0 p3R0, .slice a4R0 n4R0 p4R0]) ∧ Hid (Below wx.heap.size wx w')) := fun wx loA0 hiA0 xsA0 loA1 hiA1 cA1 hA0 hA1 => (HSP.out _ _ _ _ _ _ _ hA0 hA1).mono fun e w' ⟨ysR0, h1, kR0, hb⟩ => by
    obtain ⟨a3R0, p3R0, a4R0, p4R0, rfl⟩ := SHR0.out w' _ _ _ kR0
    exact ⟨a3R0, p3R0, a4R0, p4R0, h1, kR0, hb⟩
  have HIQ : Hid (∀ (wx : World) (loA0 hiA0 : Nat) (xsA0 : List Value) (loA1 hiA1 : Nat) (cA1 : Value), uH wx loA0 hiA0 dA0 xsA0 → uS wx loA1 hiA1 1 nA1 csA1 cA1 → Calls Try.prog 20 #[.agg xsA0.toArray, cA1] wx fun e w' => ∃ a3R0 p3R0 a4R0 p4R0 SR0, e = .returned (.tuple #[.agg #[.int .i64 z0R0, .string z1R0, .int .i64 z2R0, .slice a3R0 n3R0 p3R0, .slice a4R0 n4R0 p4R0], .bool bR1]) ∧ Hid (oH w' dR0 [.int .i64 z0R0, .string z1R0, .int .i64 z2R0, .slice a3R0 n3R0 p3R0, .slice a4R0 n4R0 p4R0] SR0) ∧ Hid (own2 SR0 wx.heap.size w'.heap.size) ∧ Hid (Below wx.heap.size wx w')) := fun wx loA0 hiA0 xsA0 loA1 hiA1 cA1 hA0 hA1 => (HIM.out _ _ _ _ _ _ _ hA0 hA1).mono fun e w' ⟨ysR0, SR0, h1, kR0, oR0, hb⟩ => by
    obtain ⟨a3R0, p3R0, a4R0, p4R0, rfl⟩ := SHR0.out w' _ _ _ (kR0.hand oR0.2)
    exact ⟨a3R0, p3R0, a4R0, p4R0, SR0, h1, kR0, oR0, hb⟩
  clear HSP HIM
  have hctA0 : cntT dA0 ≤ 42000000 := by have := cntT_wt HtA0.out; omega
  have hctA1 : cnt csA1 ≤ 42000000 := by have := cnt_wt HtA1.out; omega
  have hctR0 : cntT dR0 ≤ 50000000 := by have := cntT_le dR0; omega
  have HtoA0 : Hid (∀ wx, Below w.heap.size w wx → Calls Try.prog 36 #[.agg #[.int .i64 z0A0, .string z1A0, .int .i64 z2A0, .slice a3A0 n3A0 p3A0, .slice a4A0 n4A0 p4A0]] wx fun e w' => ∃ a3rA0 p3rA0 a4rA0 p4rA0 S, e = .returned (.agg #[.int .i64 z0A0, .string z1A0, .int .i64 z2A0, .slice a3rA0 n3A0 p3rA0, .slice a4rA0 n4A0 p4rA0]) ∧ Hid (oH w' dA0 [.int .i64 z0A0, .string z1A0, .int .i64 z2A0, .slice a3rA0 n3A0 p3rA0, .slice a4rA0 n4A0 p4rA0] S) ∧ Hid (own2 S wx.heap.size w'.heap.size) ∧ Hid (Below wx.heap.size wx w')) := fun wx hb => (utoValue_any (lo := 0) (hi := w.heap.size) dA0 [.int .i64 z0A0, .string z1A0, .int .i64 z2A0, .slice a3A0 n3A0 p3A0, .slice a4A0 n4A0 p4A0] wx HtA0.out (by omega) (OXA0.out.below hb)).mono fun e w' ⟨ys, S, h1, h2, h3, h4, h5⟩ => by
    have hO : own2 S wx.heap.size w'.heap.size := ⟨h3, fun s hs => ⟨h4 s hs, h2.lt _ _ _ s hs⟩⟩
    obtain ⟨a3A0, p3A0, a4A0, p4A0, rfl⟩ := SHA0.out w' _ _ ys (h2.hand hO.2)
    exact ⟨a3A0, p3A0, a4A0, p4A0, S, h1, h2, hO, h5⟩
  have HtoA1 : Hid (∀ wx, Below w.heap.size w wx → Calls Try.prog 41 #[.slice aA1 nA1 pA1] wx fun e w' => ∃ aA1r pA1r S, e = .returned (.slice aA1r nA1 pA1r) ∧ Hid (oS w' 1 nA1 csA1 (.slice aA1r nA1 pA1r) S) ∧ Hid (own2 S wx.heap.size w'.heap.size) ∧ Hid (Below wx.heap.size wx w')) := fun wx hb => (utoStringS_any (lo := 0) (hi := w.heap.size) nA1 csA1 _ wx HtA1.out (by omega) (OXA1.out.below hb)).mono fun e w' ⟨c, S, h1, h2, h3, h4, h5⟩ => by
    obtain ⟨a, p, rfl⟩ := h2.slice
    exact ⟨a, p, S, h1, h2, ⟨h3, fun s hs => ⟨h4 s hs, h2.lt s hs⟩⟩, h5⟩
  have HeqA0 : Hid (∀ (wx : World) (lo hi lo' hi' : Nat) (ys ys' : List Value), uH wx lo hi dA0 ys → uH wx lo' hi' dA0 ys' → Calls Try.prog 38 #[.agg ys.toArray, .agg ys'.toArray] wx fun e w' => e = .returned (.bool true) ∧ Hid (Below wx.heap.size wx w')) := fun wx lo hi lo' hi' ys ys' h1 h2 => ueqValue_any (lo := lo) (hi := hi) (lo' := lo') (hi' := hi') _ _ _ wx HtA0.out h1 h2
  have HeqA1 : Hid (∀ (wx : World) (lo hi lo' hi' : Nat) (y y' : Value), uS wx lo hi 1 nA1 csA1 y → uS wx lo' hi' 1 nA1 csA1 y' → Calls Try.prog 42 #[y, y'] wx fun e w' => e = .returned (.bool true) ∧ Hid (Below wx.heap.size wx w')) := fun wx lo hi lo' hi' y y' h1 h2 => ueqStringS_any (lo := lo) (hi := hi) (lo' := lo') (hi' := hi') _ _ _ _ wx HtA1.out h1 h2
  have HeqR0 : Hid (∀ (wx : World) (lo hi lo' hi' : Nat) (ys ys' : List Value), uH wx lo hi dR0 ys → uH wx lo' hi' dR0 ys' → Calls Try.prog 38 #[.agg ys.toArray, .agg ys'.toArray] wx fun e w' => e = .returned (.bool true) ∧ Hid (Below wx.heap.size wx w')) := fun wx lo hi lo' hi' ys ys' h1 h2 => ueqValue_any (lo := lo) (hi := hi) (lo' := lo') (hi' := hi') _ _ _ wx HrR0.out h1 h2
  have HmkA0 : Hid (∀ (wx : World) (ys : List Value) (S : List Nat) (x : Int) (lo hi : Nat), oH wx dA0 ys S → own2 S lo hi → x = ((1 : Nat) : Int) → Calls Try.prog 43 #[.agg ys.toArray, .int .i64 x] wx fun e w' => e = .returned (.int .i64 ((1 + cntT dA0) : Nat)) ∧ OutS S wx w') := fun wx y S x lo hi h hO hx => by
    rw [hx]
    exact (umarkValue_any dA0 1 _ S wx HtA0.out hO.1 (by omega) (by omega) h).mono fun e w' h => ⟨h.1, h.2.2⟩
  have HmkA1 : Hid (∀ (wx : World) (y : Value) (S : List Nat) (x : Int) (lo hi : Nat), oS wx 1 nA1 csA1 y S → own2 S lo hi → x = (((1 + cntT dA0) : Nat) : Int) → Calls Try.prog 44 #[y, .int .i64 x] wx fun e w' => e = .returned (.int .i64 (((1 + cntT dA0) + cnt csA1) : Nat)) ∧ OutS S wx w') := fun wx y S x lo hi h hO hx => by
    rw [hx]
    exact (umarkStringS_any nA1 (1 + cntT dA0) csA1 _ S wx HtA1.out hO.1 (by omega) (by omega) h).mono fun e w' h => ⟨h.1, h.2.2⟩
  have HmkR0 : Hid (∀ (wx : World) (ys : List Value) (S : List Nat) (x : Int) (lo hi : Nat), oH wx dR0 ys S → own2 S lo hi → x = ((1 : Nat) : Int) → Calls Try.prog 43 #[.agg ys.toArray, .int .i64 x] wx fun e w' => e = .returned (.int .i64 ((1 + cntT dR0) : Nat)) ∧ oH w' (mkT dR0 1) ys S ∧ OutS S wx w') := fun wx y S x lo hi h hO hx => by
    rw [hx]
    exact umarkValue_any dR0 1 _ S wx HrR0.out hO.1 (by omega) (by omega) h
  have HhdR0 : Hid (∀ (wx : World) (ys : List Value) (x : Int) (lo hi : Nat), uH wx lo hi (mkT dR0 1) ys → x = ((1 : Nat) : Int) → Calls Try.prog 45 #[.agg ys.toArray, .int .i64 x] wx fun e w' => e = .returned (.int .i64 ((1 + cntT dR0) : Nat)) ∧ Hid (Below wx.heap.size wx w')) := fun wx y x lo hi h hx => by
    rw [hx]
    exact uheldValue_any (lo := lo) (hi := hi) dR0 1 _ wx HrR0.out (by omega) (by omega) h
  clear hw0 hw1 hle0 hle1 hl1 hl2 htA0 htA1 hcR0
  have hqR1 : (bR1 != bR1) = false := by simp
  go_enter Try.func11, Try.ntmps11
  generalize cntT dA0 = mA0 at *
  generalize cnt csA1 = mA1 at *
  generalize cntT dR0 = mR0 at *
  go_wp2_with fail
  refine (HsA0.out _ (by repeat (first | with_reducible exact Below.refl _ _ | with_reducible refine Below.alloc ?_ (by simp <;> omega) _ | with_reducible refine Below.drew ?_ | with_reducible refine below_drewN ?_ _))).mono ?_
  rintro e w1 ⟨rfl, hb1⟩
  have HB1 : Hid (Below w.heap.size w w1) := Below.trans (by repeat (first | with_reducible exact Below.refl _ _ | with_reducible refine Below.alloc ?_ (by simp <;> omega) _ | with_reducible refine Below.drew ?_ | with_reducible refine below_drewN ?_ _)) (hb1.out.mono (by simp <;> omega))
  have BXA0_1 : Hid (objU w1 (w.heap.size) 56 [.int .i64 z0A0, .string z1A0, .int .i64 z2A0, .slice a3A0 n3A0 p3A0, .slice a4A0 n4A0 p4A0]) := objU.below (by repeat (first | with_reducible exact objU.new2 _ _ (by simp) | with_reducible refine objU.old ?_ _)) hb1.out
  have B1 : Hid (Below w.heap.size w w1) := HB1
  clear hb1
  go_wp2_with fail
  refine (HsA1.out _ (by repeat (first | with_reducible exact B1.out | with_reducible refine Below.alloc ?_ (by have := B1.out.size; (try simp) <;> omega) _ | with_reducible refine Below.drew ?_ | with_reducible refine below_drewN ?_ _))).mono ?_
  rintro e w2 ⟨rfl, hb2⟩
  have HB2 : Hid (Below w1.heap.size w1 w2) := Below.trans (by repeat (first | with_reducible exact Below.refl _ _ | with_reducible refine Below.alloc ?_ (by simp <;> omega) _ | with_reducible refine Below.drew ?_ | with_reducible refine below_drewN ?_ _)) (hb2.out.mono (by simp <;> omega))
  have BXA0_2 := uhide (BXA0_1.out.below HB2.out)
  have B2 : Hid (Below w.heap.size w w2) := B1.out.trans (HB2.out.mono B1.out.size)
  clear hb2
  have BXA0 := BXA0_2
  clear BXA0_1 BXA0_2
  replace OXA0 := uhide (OXA0.out.below B2.out)
  replace OXA1 := uhide (OXA1.out.below B2.out)
  have Zb : Hid (w.heap.size + 1 ≤ w2.heap.size) := BXA0.out.lt
  have qBXA00 := BXA0.out.cell 0 _ rfl
  have qBXA01 := BXA0.out.cell 1 _ rfl
  have qBXA02 := BXA0.out.cell 2 _ rfl
  have qBXA03 := BXA0.out.cell 3 _ rfl
  have qBXA04 := BXA0.out.cell 4 _ rfl
  go_wp2_with fail
  refine (HtoA0.out _ (by repeat (first | with_reducible exact B2.out | with_reducible refine Below.alloc ?_ (by have := B2.out.size; (try simp) <;> omega) _ | with_reducible refine Below.drew ?_ | with_reducible refine below_drewN ?_ _))).mono ?_
  rintro e w3 ⟨a3A0y, p3A0y, a4A0y, p4A0y, SYA0, rfl, YA0, YA0w, hb3⟩
  clear qBXA00 qBXA01 qBXA02 qBXA03 qBXA04
  have HB3 : Hid (Below w2.heap.size w2 w3) := Below.trans (by repeat (first | with_reducible exact Below.refl _ _ | with_reducible refine Below.alloc ?_ (by simp <;> omega) _ | with_reducible refine Below.drew ?_ | with_reducible refine below_drewN ?_ _)) (hb3.out.mono (by simp <;> omega))
  have Z3 : Hid (w2.heap.size + 0 ≤ w3.heap.size) := by have h := hb3.out.size; (try simp at h); show _ ≤ _; omega
  replace YA0w := uhide (YA0w.out.mono (a' := w2.heap.size + 0) (by (try simp) <;> omega) (Nat.le_refl _))
  replace BXA0 := uhide (BXA0.out.below HB3.out)
  replace OXA0 := uhide (OXA0.out.below HB3.out)
  replace OXA1 := uhide (OXA1.out.below HB3.out)
  have B3 : Hid (Below w.heap.size w w3) := B2.out.trans (HB3.out.mono B2.out.size)
  clear hb3 HB3
  go_wp2_with fail
  refine (HtoA1.out _ (by repeat (first | with_reducible exact B3.out | with_reducible refine Below.alloc ?_ (by have := B3.out.size; (try simp) <;> omega) _ | with_reducible refine Below.drew ?_ | with_reducible refine below_drewN ?_ _))).mono ?_
  rintro e w4 ⟨aA1y, pA1y, SYA1, rfl, YA1, YA1w, hb4⟩
  have HB4 : Hid (Below w3.heap.size w3 w4) := Below.trans (by repeat (first | with_reducible exact Below.refl _ _ | with_reducible refine Below.alloc ?_ (by simp <;> omega) _ | with_reducible refine Below.drew ?_ | with_reducible refine below_drewN ?_ _)) (hb4.out.mono (by simp <;> omega))
  have Z4 : Hid (w3.heap.size + 0 ≤ w4.heap.size) := by have h := hb4.out.size; (try simp at h); show _ ≤ _; omega
  replace YA1w := uhide (YA1w.out.mono (a' := w3.heap.size + 0) (by (try simp) <;> omega) (Nat.le_refl _))
  replace BXA0 := uhide (BXA0.out.below HB4.out)
  replace OXA0 := uhide (OXA0.out.below HB4.out)
  replace OXA1 := uhide (OXA1.out.below HB4.out)
  replace YA0 := uhide (YA0.out.below HB4.out)
  have B4 : Hid (Below w.heap.size w w4) := B3.out.trans (HB4.out.mono B3.out.size)
  clear hb4 HB4
  go_wp2_with fail
  refine (HSQ.out _ _ _ _ _ _ _ ((YA0.out.below (by repeat (first | with_reducible exact Below.refl _ _ | with_reducible refine Below.alloc ?_ (by simp <;> omega) _ | with_reducible refine Below.drew ?_ | with_reducible refine below_drewN ?_ _))).hand YA0w.out.2) ((YA1.out.below (by repeat (first | with_reducible exact Below.refl _ _ | with_reducible refine Below.alloc ?_ (by simp <;> omega) _ | with_reducible refine Below.drew ?_ | with_reducible refine below_drewN ?_ _))).u YA1w.out.2)).mono ?_
  rintro e w5 ⟨a3R0w, p3R0w, a4R0w, p4R0w, rfl, WR0, hb5⟩
  have HB5 : Hid (Below w4.heap.size w4 w5) := Below.trans (by repeat (first | with_reducible exact Below.refl _ _ | with_reducible refine Below.alloc ?_ (by simp <;> omega) _ | with_reducible refine Below.drew ?_ | with_reducible refine below_drewN ?_ _)) (hb5.out.mono (by simp <;> omega))
  have Z5 : Hid (w4.heap.size + 0 ≤ w5.heap.size) := by have h := hb5.out.size; (try simp at h); show _ ≤ _; omega
  replace BXA0 := uhide (BXA0.out.below HB5.out)
  replace OXA0 := uhide (OXA0.out.below HB5.out)
  replace OXA1 := uhide (OXA1.out.below HB5.out)
  replace YA0 := uhide (YA0.out.below HB5.out)
  replace YA1 := uhide (YA1.out.below HB5.out)
  have B5 : Hid (Below w.heap.size w w5) := B4.out.trans (HB5.out.mono B4.out.size)
  clear hb5 HB5
  clear YA0 YA0w YA1 YA1w
  simp only
  have qBXA00 := BXA0.out.cell 0 _ rfl
  have qBXA01 := BXA0.out.cell 1 _ rfl
  have qBXA02 := BXA0.out.cell 2 _ rfl
  have qBXA03 := BXA0.out.cell 3 _ rfl
  have qBXA04 := BXA0.out.cell 4 _ rfl
  have qBXA0lt := BXA0.out.lt
  go_wp2_with fail
  refine (HtoA0.out _ (by repeat (first | with_reducible exact B5.out | with_reducible refine Below.alloc ?_ (by have := B5.out.size; (try simp) <;> omega) _ | with_reducible refine Below.drew ?_ | with_reducible refine below_drewN ?_ _))).mono ?_
  rintro e w6 ⟨a3A0x, p3A0x, a4A0x, p4A0x, SXA0, rfl, XA0, XA0w, hb6⟩
  clear qBXA00 qBXA01 qBXA02 qBXA03 qBXA04 qBXA0lt
  have HB6 : Hid (Below w5.heap.size w5 w6) := Below.trans (by repeat (first | with_reducible exact Below.refl _ _ | with_reducible refine Below.alloc ?_ (by simp <;> omega) _ | with_reducible refine Below.drew ?_ | with_reducible refine below_drewN ?_ _)) (hb6.out.mono (by simp <;> omega))
  have BWR0 : Hid (objU w6 (w5.heap.size) 36 [.int .i64 z0R0, .string z1R0, .int .i64 z2R0, .slice a3R0w n3R0 p3R0w, .slice a4R0w n4R0 p4R0w]) := objU.below (by repeat (first | with_reducible exact objU.new2 _ _ (by simp) | with_reducible refine objU.old ?_ _)) hb6.out
  have Z6 : Hid (w5.heap.size + 1 ≤ w6.heap.size) := by have h := hb6.out.size; (try simp at h); show _ ≤ _; omega
  replace XA0w := uhide (XA0w.out.mono (a' := w5.heap.size + 1) (by (try simp) <;> omega) (Nat.le_refl _))
  replace BXA0 := uhide (BXA0.out.below HB6.out)
  replace OXA0 := uhide (OXA0.out.below HB6.out)
  replace OXA1 := uhide (OXA1.out.below HB6.out)
  replace WR0 := uhide (WR0.out.below HB6.out)
  have B6 : Hid (Below w.heap.size w w6) := B5.out.trans (HB6.out.mono B5.out.size)
  clear hb6 HB6
  go_wp2_with fail
  refine (HtoA1.out _ (by repeat (first | with_reducible exact B6.out | with_reducible refine Below.alloc ?_ (by have := B6.out.size; (try simp) <;> omega) _ | with_reducible refine Below.drew ?_ | with_reducible refine below_drewN ?_ _))).mono ?_
  rintro e w7 ⟨aA1x, pA1x, SXA1, rfl, XA1, XA1w, hb7⟩
  have HB7 : Hid (Below w6.heap.size w6 w7) := Below.trans (by repeat (first | with_reducible exact Below.refl _ _ | with_reducible refine Below.alloc ?_ (by simp <;> omega) _ | with_reducible refine Below.drew ?_ | with_reducible refine below_drewN ?_ _)) (hb7.out.mono (by simp <;> omega))
  have BYA0 : Hid (objU w7 (w6.heap.size) 36 [.int .i64 z0A0, .string z1A0, .int .i64 z2A0, .slice a3A0x n3A0 p3A0x, .slice a4A0x n4A0 p4A0x]) := objU.below (by repeat (first | with_reducible exact objU.new2 _ _ (by simp) | with_reducible refine objU.old ?_ _)) hb7.out
  have Z7 : Hid (w6.heap.size + 1 ≤ w7.heap.size) := by have h := hb7.out.size; (try simp at h); show _ ≤ _; omega
  replace XA1w := uhide (XA1w.out.mono (a' := w6.heap.size + 1) (by (try simp) <;> omega) (Nat.le_refl _))
  replace BXA0 := uhide (BXA0.out.below HB7.out)
  replace OXA0 := uhide (OXA0.out.below HB7.out)
  replace OXA1 := uhide (OXA1.out.below HB7.out)
  replace WR0 := uhide (WR0.out.below HB7.out)
  replace BWR0 := uhide (BWR0.out.below HB7.out)
  replace XA0 := uhide (XA0.out.below HB7.out)
  have B7 : Hid (Below w.heap.size w w7) := B6.out.trans (HB7.out.mono B6.out.size)
  clear hb7 HB7
  have qBYA00 := BYA0.out.cell 0 _ rfl
  have qBYA01 := BYA0.out.cell 1 _ rfl
  have qBYA02 := BYA0.out.cell 2 _ rfl
  have qBYA03 := BYA0.out.cell 3 _ rfl
  have qBYA04 := BYA0.out.cell 4 _ rfl
  go_wp2_with fail
  refine (HIQ.out _ _ _ _ _ _ _ ((XA0.out.below (by repeat (first | with_reducible exact Below.refl _ _ | with_reducible refine Below.alloc ?_ (by simp <;> omega) _ | with_reducible refine Below.drew ?_ | with_reducible refine below_drewN ?_ _))).hand XA0w.out.2) ((XA1.out.below (by repeat (first | with_reducible exact Below.refl _ _ | with_reducible refine Below.alloc ?_ (by simp <;> omega) _ | with_reducible refine Below.drew ?_ | with_reducible refine below_drewN ?_ _))).u XA1w.out.2)).mono ?_
  rintro e w8 ⟨a3R0g, p3R0g, a4R0g, p4R0g, SR0g, rfl, GR0, GR0w, hb8⟩
  clear qBYA00 qBYA01 qBYA02 qBYA03 qBYA04
  have HB8 : Hid (Below w7.heap.size w7 w8) := Below.trans (by repeat (first | with_reducible exact Below.refl _ _ | with_reducible refine Below.alloc ?_ (by simp <;> omega) _ | with_reducible refine Below.drew ?_ | with_reducible refine below_drewN ?_ _)) (hb8.out.mono (by simp <;> omega))
  have Z8 : Hid (w7.heap.size + 0 ≤ w8.heap.size) := by have h := hb8.out.size; (try simp at h); show _ ≤ _; omega
  replace GR0w := uhide (GR0w.out.mono (a' := w7.heap.size + 0) (by (try simp) <;> omega) (Nat.le_refl _))
  replace BXA0 := uhide (BXA0.out.below HB8.out)
  replace OXA0 := uhide (OXA0.out.below HB8.out)
  replace OXA1 := uhide (OXA1.out.below HB8.out)
  replace WR0 := uhide (WR0.out.below HB8.out)
  replace BWR0 := uhide (BWR0.out.below HB8.out)
  replace XA0 := uhide (XA0.out.below HB8.out)
  replace BYA0 := uhide (BYA0.out.below HB8.out)
  replace XA1 := uhide (XA1.out.below HB8.out)
  have B8 : Hid (Below w.heap.size w w8) := B7.out.trans (HB8.out.mono B7.out.size)
  clear hb8 HB8
  simp only
  have qBWR00 := BWR0.out.cell 0 _ rfl
  have qBWR01 := BWR0.out.cell 1 _ rfl
  have qBWR02 := BWR0.out.cell 2 _ rfl
  have qBWR03 := BWR0.out.cell 3 _ rfl
  have qBWR04 := BWR0.out.cell 4 _ rfl
  have qBWR0lt := BWR0.out.lt
  go_wp2_with fail
  refine (HeqR0.out _ _ _ _ _ _ _ ((GR0.out.below (by repeat (first | with_reducible exact Below.refl _ _ | with_reducible refine Below.alloc ?_ (by simp <;> omega) _ | with_reducible refine Below.drew ?_ | with_reducible refine below_drewN ?_ _))).hand GR0w.out.2) (WR0.out.below (by repeat (first | with_reducible exact Below.refl _ _ | with_reducible refine Below.alloc ?_ (by simp <;> omega) _ | with_reducible refine Below.drew ?_ | with_reducible refine below_drewN ?_ _)))).mono ?_
  rintro e w9 ⟨rfl, hb9⟩
  clear qBWR00 qBWR01 qBWR02 qBWR03 qBWR04 qBWR0lt
  have HB9 : Hid (Below w8.heap.size w8 w9) := Below.trans (by repeat (first | with_reducible exact Below.refl _ _ | with_reducible refine Below.alloc ?_ (by simp <;> omega) _ | with_reducible refine Below.drew ?_ | with_reducible refine below_drewN ?_ _)) (hb9.out.mono (by simp <;> omega))
  have BGR0 : Hid (objU w9 (w8.heap.size) 36 [.int .i64 z0R0, .string z1R0, .int .i64 z2R0, .slice a3R0g n3R0 p3R0g, .slice a4R0g n4R0 p4R0g]) := objU.below (by repeat (first | with_reducible exact objU.new2 _ _ (by simp) | with_reducible refine objU.old ?_ _)) hb9.out
  have Z9 : Hid (w8.heap.size + 1 ≤ w9.heap.size) := by have h := hb9.out.size; (try simp at h); show _ ≤ _; omega
  replace BXA0 := uhide (BXA0.out.below HB9.out)
  replace OXA0 := uhide (OXA0.out.below HB9.out)
  replace OXA1 := uhide (OXA1.out.below HB9.out)
  replace WR0 := uhide (WR0.out.below HB9.out)
  replace BWR0 := uhide (BWR0.out.below HB9.out)
  replace XA0 := uhide (XA0.out.below HB9.out)
  replace BYA0 := uhide (BYA0.out.below HB9.out)
  replace XA1 := uhide (XA1.out.below HB9.out)
  replace GR0 := uhide (GR0.out.below HB9.out)
  have B9 : Hid (Below w.heap.size w w9) := B8.out.trans (HB9.out.mono B8.out.size)
  clear hb9 HB9
  have qBYA00 := BYA0.out.cell 0 _ rfl
  have qBYA01 := BYA0.out.cell 1 _ rfl
  have qBYA02 := BYA0.out.cell 2 _ rfl
  have qBYA03 := BYA0.out.cell 3 _ rfl
  have qBYA04 := BYA0.out.cell 4 _ rfl
  have qBXA00 := BXA0.out.cell 0 _ rfl
  have qBXA01 := BXA0.out.cell 1 _ rfl
  have qBXA02 := BXA0.out.cell 2 _ rfl
  have qBXA03 := BXA0.out.cell 3 _ rfl
  have qBXA04 := BXA0.out.cell 4 _ rfl
  have RT : Hid (∀ wx, Below w9.heap.size w9 wx → Calls Try.prog 36 #[.agg #[.int .i64 z0A0, .string z1A0, .int .i64 z2A0, .slice a3A0 n3A0 p3A0, .slice a4A0 n4A0 p4A0]] wx fun e w' => ∃ a3rA0 p3rA0 a4rA0 p4rA0, e = .returned (.agg #[.int .i64 z0A0, .string z1A0, .int .i64 z2A0, .slice a3rA0 n3A0 p3rA0, .slice a4rA0 n4A0 p4rA0]) ∧ Hid (uH w' 0 w'.heap.size dA0 [.int .i64 z0A0, .string z1A0, .int .i64 z2A0, .slice a3rA0 n3A0 p3rA0, .slice a4rA0 n4A0 p4rA0]) ∧ Hid (Below w9.heap.size w9 w')) := fun wx hb => (HtoA0.out wx (B9.out.trans (hb.mono B9.out.size))).mono fun e w' ⟨a3rA0, p3rA0, a4rA0, p4rA0, S, h1, h2, h3, h4⟩ => ⟨a3rA0, p3rA0, a4rA0, p4rA0, h1, h2.out.hand (lo := 0) (hi := w'.heap.size) (fun g hg => ⟨Nat.zero_le _, (h3.out.2 g hg).2⟩), hb.trans (h4.out.mono hb.size)⟩
  have RE : Hid (∀ (wx : World) (ys : List Value) (lo hi : Nat), Below w9.heap.size w9 wx → uH wx lo hi dA0 ys → Calls Try.prog 38 #[.agg #[.int .i64 z0A0, .string z1A0, .int .i64 z2A0, .slice a3A0x n3A0 p3A0x, .slice a4A0x n4A0 p4A0x], .agg ys.toArray] wx fun e w' => e = .returned (.bool true) ∧ Hid (Below w9.heap.size w9 w')) := fun wx ys lo hi hb h => (HeqA0.out wx _ _ lo hi _ ys ((XA0.out.below hb).hand XA0w.out.2) h).mono fun e w' h => ⟨h.1, hb.trans (h.2.out.mono hb.size)⟩
  have hb10r : Hid (Below w9.heap.size w9 w9) := Below.refl _ _
  go_wp2
  have hbr := hb10r
  go_region_with (first
    | (go_at_call 36; refine (RT.out _ (by repeat (first | with_reducible exact Below.refl _ _ | with_reducible exact hbr.out | with_reducible refine Below.drew ?_ | with_reducible refine below_drewN ?_ _))).mono ?_; rintro e wt ⟨a3A0t, p3A0t, a4A0t, p4A0t, rfl, XT, hbt⟩; replace hbr := hbt; have qBYA00r := (BYA0.out.below hbr.out).cell 0 _ rfl; have qBYA01r := (BYA0.out.below hbr.out).cell 1 _ rfl; have qBYA02r := (BYA0.out.below hbr.out).cell 2 _ rfl; have qBYA03r := (BYA0.out.below hbr.out).cell 3 _ rfl; have qBYA04r := (BYA0.out.below hbr.out).cell 4 _ rfl)
    | (go_at_call 38; refine (RE.out _ _ _ _ (by repeat (first | with_reducible exact Below.refl _ _ | with_reducible exact hbr.out | with_reducible refine Below.drew ?_ | with_reducible refine below_drewN ?_ _)) (by first | exact XT.out | exact XT.out.below (by repeat (first | with_reducible exact Below.refl _ _ | with_reducible refine Below.drew ?_ | with_reducible refine below_drewN ?_ _)))).mono ?_; rintro e w10 ⟨rfl, hb10⟩))
  all_goals (
    have HB10 := hb10
    have Z10 : Hid (w9.heap.size + 0 ≤ w10.heap.size) := HB10.out.size
    replace BXA0 := uhide (BXA0.out.below HB10.out)
    replace OXA0 := uhide (OXA0.out.below HB10.out)
    replace OXA1 := uhide (OXA1.out.below HB10.out)
    replace WR0 := uhide (WR0.out.below HB10.out)
    replace BWR0 := uhide (BWR0.out.below HB10.out)
    replace XA0 := uhide (XA0.out.below HB10.out)
    replace BYA0 := uhide (BYA0.out.below HB10.out)
    replace XA1 := uhide (XA1.out.below HB10.out)
    replace GR0 := uhide (GR0.out.below HB10.out)
    replace BGR0 := uhide (BGR0.out.below HB10.out)
    have B10 : Hid (Below w.heap.size w w10) := B9.out.trans (HB10.out.mono B9.out.size)
    clear hb10 HB10
    go_wp2_with fail
    refine (HtoA1.out _ (by repeat (first | with_reducible exact B10.out | with_reducible refine Below.alloc ?_ (by have := B10.out.size; (try simp) <;> omega) _ | with_reducible refine Below.drew ?_ | with_reducible refine below_drewN ?_ _))).mono ?_
    rintro e w11 ⟨aA1v, pA1v, SVA1, rfl, VA1, VA1w, hb11⟩
    have HB11 : Hid (Below w10.heap.size w10 w11) := Below.trans (by repeat (first | with_reducible exact Below.refl _ _ | with_reducible refine Below.alloc ?_ (by simp <;> omega) _ | with_reducible refine Below.drew ?_ | with_reducible refine below_drewN ?_ _)) (hb11.out.mono (by simp <;> omega))
    have Z11 : Hid (w10.heap.size + 0 ≤ w11.heap.size) := by have h := hb11.out.size; (try simp at h); show _ ≤ _; omega
    replace VA1w := uhide (VA1w.out.mono (a' := w10.heap.size + 0) (by (try simp) <;> omega) (Nat.le_refl _))
    replace BXA0 := uhide (BXA0.out.below HB11.out)
    replace OXA0 := uhide (OXA0.out.below HB11.out)
    replace OXA1 := uhide (OXA1.out.below HB11.out)
    replace WR0 := uhide (WR0.out.below HB11.out)
    replace BWR0 := uhide (BWR0.out.below HB11.out)
    replace XA0 := uhide (XA0.out.below HB11.out)
    replace BYA0 := uhide (BYA0.out.below HB11.out)
    replace XA1 := uhide (XA1.out.below HB11.out)
    replace GR0 := uhide (GR0.out.below HB11.out)
    replace BGR0 := uhide (BGR0.out.below HB11.out)
    have B11 : Hid (Below w.heap.size w w11) := B10.out.trans (HB11.out.mono B10.out.size)
    clear hb11 HB11
    go_wp2_with fail
    refine (HeqA1.out _ _ _ _ _ _ _ ((XA1.out.below (by repeat (first | with_reducible exact Below.refl _ _ | with_reducible refine Below.alloc ?_ (by simp <;> omega) _ | with_reducible refine Below.drew ?_ | with_reducible refine below_drewN ?_ _))).u XA1w.out.2) ((VA1.out.below (by repeat (first | with_reducible exact Below.refl _ _ | with_reducible refine Below.alloc ?_ (by simp <;> omega) _ | with_reducible refine Below.drew ?_ | with_reducible refine below_drewN ?_ _))).u VA1w.out.2)).mono ?_
    rintro e w12 ⟨rfl, hb12⟩
    have HB12 : Hid (Below w11.heap.size w11 w12) := Below.trans (by repeat (first | with_reducible exact Below.refl _ _ | with_reducible refine Below.alloc ?_ (by simp <;> omega) _ | with_reducible refine Below.drew ?_ | with_reducible refine below_drewN ?_ _)) (hb12.out.mono (by simp <;> omega))
    have Z12 : Hid (w11.heap.size + 0 ≤ w12.heap.size) := by have h := hb12.out.size; (try simp at h); show _ ≤ _; omega
    replace BXA0 := uhide (BXA0.out.below HB12.out)
    replace OXA0 := uhide (OXA0.out.below HB12.out)
    replace OXA1 := uhide (OXA1.out.below HB12.out)
    replace WR0 := uhide (WR0.out.below HB12.out)
    replace BWR0 := uhide (BWR0.out.below HB12.out)
    replace XA0 := uhide (XA0.out.below HB12.out)
    replace BYA0 := uhide (BYA0.out.below HB12.out)
    replace XA1 := uhide (XA1.out.below HB12.out)
    replace GR0 := uhide (GR0.out.below HB12.out)
    replace BGR0 := uhide (BGR0.out.below HB12.out)
    replace VA1 := uhide (VA1.out.below HB12.out)
    have B12 : Hid (Below w.heap.size w w12) := B11.out.trans (HB12.out.mono B11.out.size)
    clear hb12 HB12
    have qBYA00 := BYA0.out.cell 0 _ rfl
    have qBYA01 := BYA0.out.cell 1 _ rfl
    have qBYA02 := BYA0.out.cell 2 _ rfl
    have qBYA03 := BYA0.out.cell 3 _ rfl
    have qBYA04 := BYA0.out.cell 4 _ rfl
    go_wp2_with fail
    refine (HmkA0.out _ _ _ _ _ _ XA0.out XA0w.out (by omega)).mono ?_
    rintro e w13 ⟨rfl, ho13⟩
    clear qBYA00 qBYA01 qBYA02 qBYA03 qBYA04
    replace BXA0 := uhide (BXA0.out.outS ho13 (XA0w.out.not (by have := Zb.out; have := Z3.out; have := Z4.out; have := Z5.out; have := Z6.out; have := Z7.out; have := Z8.out; have := Z9.out; have := Z10.out; have := Z11.out; have := Z12.out; omega)))
    replace OXA0 := uhide (OXA0.out.out (XA0w.out.out ho13) (by have := Zb.out; have := Z3.out; have := Z4.out; have := Z5.out; have := Z6.out; have := Z7.out; have := Z8.out; have := Z9.out; have := Z10.out; have := Z11.out; have := Z12.out; omega))
    replace OXA1 := uhide (OXA1.out.out (XA0w.out.out ho13) (by have := Zb.out; have := Z3.out; have := Z4.out; have := Z5.out; have := Z6.out; have := Z7.out; have := Z8.out; have := Z9.out; have := Z10.out; have := Z11.out; have := Z12.out; omega))
    replace WR0 := uhide (WR0.out.out (XA0w.out.out ho13) (by have := Zb.out; have := Z3.out; have := Z4.out; have := Z5.out; have := Z6.out; have := Z7.out; have := Z8.out; have := Z9.out; have := Z10.out; have := Z11.out; have := Z12.out; omega))
    replace BWR0 := uhide (BWR0.out.outS ho13 (XA0w.out.not (by have := Zb.out; have := Z3.out; have := Z4.out; have := Z5.out; have := Z6.out; have := Z7.out; have := Z8.out; have := Z9.out; have := Z10.out; have := Z11.out; have := Z12.out; omega)))
    replace BYA0 := uhide (BYA0.out.outS ho13 (XA0w.out.not (by have := Zb.out; have := Z3.out; have := Z4.out; have := Z5.out; have := Z6.out; have := Z7.out; have := Z8.out; have := Z9.out; have := Z10.out; have := Z11.out; have := Z12.out; omega)))
    replace XA1 := uhide (XA1.out.outs ho13 XA1w.out (fun x hx => by have := XA0w.out.2 x hx; have := Zb.out; have := Z3.out; have := Z4.out; have := Z5.out; have := Z6.out; have := Z7.out; have := Z8.out; have := Z9.out; have := Z10.out; have := Z11.out; have := Z12.out; omega))
    replace GR0 := uhide (GR0.out.outs ho13 GR0w.out (fun x hx => by have := XA0w.out.2 x hx; have := Zb.out; have := Z3.out; have := Z4.out; have := Z5.out; have := Z6.out; have := Z7.out; have := Z8.out; have := Z9.out; have := Z10.out; have := Z11.out; have := Z12.out; omega))
    replace BGR0 := uhide (BGR0.out.outS ho13 (XA0w.out.not (by have := Zb.out; have := Z3.out; have := Z4.out; have := Z5.out; have := Z6.out; have := Z7.out; have := Z8.out; have := Z9.out; have := Z10.out; have := Z11.out; have := Z12.out; omega)))
    have Z13 : Hid (w12.heap.size + 0 ≤ w13.heap.size) := ho13.size
    have B13 : Hid (Below w.heap.size w w13) := B12.out.trans (XA0w.out.below ho13 (by have := B2.out.size; have := Zb.out; have := Z3.out; have := Z4.out; have := Z5.out; have := Z6.out; have := Z7.out; have := Z8.out; have := Z9.out; have := Z10.out; have := Z11.out; have := Z12.out; omega) B12.out.size)
    clear ho13
    go_wp2_with fail
    refine (HmkA1.out _ _ _ _ _ _ XA1.out XA1w.out (by omega)).mono ?_
    rintro e w14 ⟨rfl, ho14⟩
    replace BXA0 := uhide (BXA0.out.outS ho14 (XA1w.out.not (by have := Zb.out; have := Z3.out; have := Z4.out; have := Z5.out; have := Z6.out; have := Z7.out; have := Z8.out; have := Z9.out; have := Z10.out; have := Z11.out; have := Z12.out; have := Z13.out; omega)))
    replace OXA0 := uhide (OXA0.out.out (XA1w.out.out ho14) (by have := Zb.out; have := Z3.out; have := Z4.out; have := Z5.out; have := Z6.out; have := Z7.out; have := Z8.out; have := Z9.out; have := Z10.out; have := Z11.out; have := Z12.out; have := Z13.out; omega))
    replace OXA1 := uhide (OXA1.out.out (XA1w.out.out ho14) (by have := Zb.out; have := Z3.out; have := Z4.out; have := Z5.out; have := Z6.out; have := Z7.out; have := Z8.out; have := Z9.out; have := Z10.out; have := Z11.out; have := Z12.out; have := Z13.out; omega))
    replace WR0 := uhide (WR0.out.out (XA1w.out.out ho14) (by have := Zb.out; have := Z3.out; have := Z4.out; have := Z5.out; have := Z6.out; have := Z7.out; have := Z8.out; have := Z9.out; have := Z10.out; have := Z11.out; have := Z12.out; have := Z13.out; omega))
    replace BWR0 := uhide (BWR0.out.outS ho14 (XA1w.out.not (by have := Zb.out; have := Z3.out; have := Z4.out; have := Z5.out; have := Z6.out; have := Z7.out; have := Z8.out; have := Z9.out; have := Z10.out; have := Z11.out; have := Z12.out; have := Z13.out; omega)))
    replace BYA0 := uhide (BYA0.out.outS ho14 (XA1w.out.not (by have := Zb.out; have := Z3.out; have := Z4.out; have := Z5.out; have := Z6.out; have := Z7.out; have := Z8.out; have := Z9.out; have := Z10.out; have := Z11.out; have := Z12.out; have := Z13.out; omega)))
    replace GR0 := uhide (GR0.out.outs ho14 GR0w.out (fun x hx => by have := XA1w.out.2 x hx; have := Zb.out; have := Z3.out; have := Z4.out; have := Z5.out; have := Z6.out; have := Z7.out; have := Z8.out; have := Z9.out; have := Z10.out; have := Z11.out; have := Z12.out; have := Z13.out; omega))
    replace BGR0 := uhide (BGR0.out.outS ho14 (XA1w.out.not (by have := Zb.out; have := Z3.out; have := Z4.out; have := Z5.out; have := Z6.out; have := Z7.out; have := Z8.out; have := Z9.out; have := Z10.out; have := Z11.out; have := Z12.out; have := Z13.out; omega)))
    have Z14 : Hid (w13.heap.size + 0 ≤ w14.heap.size) := ho14.size
    have B14 : Hid (Below w.heap.size w w14) := B13.out.trans (XA1w.out.below ho14 (by have := B2.out.size; have := Zb.out; have := Z3.out; have := Z4.out; have := Z5.out; have := Z6.out; have := Z7.out; have := Z8.out; have := Z9.out; have := Z10.out; have := Z11.out; have := Z12.out; have := Z13.out; omega) B13.out.size)
    clear ho14
    have hk0 : ¬ (((((1 + mA0) + mA1) : Nat) : Int) < 0) := by omega
    have qBGR00 := BGR0.out.cell 0 _ rfl
    have qBGR01 := BGR0.out.cell 1 _ rfl
    have qBGR02 := BGR0.out.cell 2 _ rfl
    have qBGR03 := BGR0.out.cell 3 _ rfl
    have qBGR04 := BGR0.out.cell 4 _ rfl
    have qBWR00 := BWR0.out.cell 0 _ rfl
    have qBWR01 := BWR0.out.cell 1 _ rfl
    have qBWR02 := BWR0.out.cell 2 _ rfl
    have qBWR03 := BWR0.out.cell 3 _ rfl
    have qBWR04 := BWR0.out.cell 4 _ rfl
    go_wp2_with fail
    refine (HeqR0.out _ _ _ _ _ _ _ ((GR0.out.below (by repeat (first | with_reducible exact Below.refl _ _ | with_reducible refine Below.alloc ?_ (by simp <;> omega) _ | with_reducible refine Below.drew ?_ | with_reducible refine below_drewN ?_ _))).hand GR0w.out.2) (WR0.out.below (by repeat (first | with_reducible exact Below.refl _ _ | with_reducible refine Below.alloc ?_ (by simp <;> omega) _ | with_reducible refine Below.drew ?_ | with_reducible refine below_drewN ?_ _)))).mono ?_
    rintro e w15 ⟨rfl, hb15⟩
    clear qBGR00 qBGR01 qBGR02 qBGR03 qBGR04 qBWR00 qBWR01 qBWR02 qBWR03 qBWR04
    have HB15 : Hid (Below w14.heap.size w14 w15) := Below.trans (by repeat (first | with_reducible exact Below.refl _ _ | with_reducible refine Below.alloc ?_ (by simp <;> omega) _ | with_reducible refine Below.drew ?_ | with_reducible refine below_drewN ?_ _)) (hb15.out.mono (by simp <;> omega))
    have Z15 : Hid (w14.heap.size + 0 ≤ w15.heap.size) := by have h := hb15.out.size; (try simp at h); show _ ≤ _; omega
    replace BXA0 := uhide (BXA0.out.below HB15.out)
    replace OXA0 := uhide (OXA0.out.below HB15.out)
    replace OXA1 := uhide (OXA1.out.below HB15.out)
    replace WR0 := uhide (WR0.out.below HB15.out)
    replace BWR0 := uhide (BWR0.out.below HB15.out)
    replace BYA0 := uhide (BYA0.out.below HB15.out)
    replace GR0 := uhide (GR0.out.below HB15.out)
    replace BGR0 := uhide (BGR0.out.below HB15.out)
    have B15 : Hid (Below w.heap.size w w15) := B14.out.trans (HB15.out.mono B14.out.size)
    clear hb15 HB15
    have qBGR00 := BGR0.out.cell 0 _ rfl
    have qBGR01 := BGR0.out.cell 1 _ rfl
    have qBGR02 := BGR0.out.cell 2 _ rfl
    have qBGR03 := BGR0.out.cell 3 _ rfl
    have qBGR04 := BGR0.out.cell 4 _ rfl
    go_wp2_with fail
    refine (HmkR0.out _ _ _ _ _ _ GR0.out GR0w.out (by omega)).mono ?_
    rintro e w16 ⟨rfl, GMR0, ho16⟩
    clear qBGR00 qBGR01 qBGR02 qBGR03 qBGR04
    replace BXA0 := uhide (BXA0.out.outS ho16 (GR0w.out.not (by have := Zb.out; have := Z3.out; have := Z4.out; have := Z5.out; have := Z6.out; have := Z7.out; have := Z8.out; have := Z9.out; have := Z10.out; have := Z11.out; have := Z12.out; have := Z13.out; have := Z14.out; have := Z15.out; omega)))
    replace OXA0 := uhide (OXA0.out.out (GR0w.out.out ho16) (by have := Zb.out; have := Z3.out; have := Z4.out; have := Z5.out; have := Z6.out; have := Z7.out; have := Z8.out; have := Z9.out; have := Z10.out; have := Z11.out; have := Z12.out; have := Z13.out; have := Z14.out; have := Z15.out; omega))
    replace OXA1 := uhide (OXA1.out.out (GR0w.out.out ho16) (by have := Zb.out; have := Z3.out; have := Z4.out; have := Z5.out; have := Z6.out; have := Z7.out; have := Z8.out; have := Z9.out; have := Z10.out; have := Z11.out; have := Z12.out; have := Z13.out; have := Z14.out; have := Z15.out; omega))
    replace WR0 := uhide (WR0.out.out (GR0w.out.out ho16) (by have := Zb.out; have := Z3.out; have := Z4.out; have := Z5.out; have := Z6.out; have := Z7.out; have := Z8.out; have := Z9.out; have := Z10.out; have := Z11.out; have := Z12.out; have := Z13.out; have := Z14.out; have := Z15.out; omega))
    replace BWR0 := uhide (BWR0.out.outS ho16 (GR0w.out.not (by have := Zb.out; have := Z3.out; have := Z4.out; have := Z5.out; have := Z6.out; have := Z7.out; have := Z8.out; have := Z9.out; have := Z10.out; have := Z11.out; have := Z12.out; have := Z13.out; have := Z14.out; have := Z15.out; omega)))
    replace BYA0 := uhide (BYA0.out.outS ho16 (GR0w.out.not (by have := Zb.out; have := Z3.out; have := Z4.out; have := Z5.out; have := Z6.out; have := Z7.out; have := Z8.out; have := Z9.out; have := Z10.out; have := Z11.out; have := Z12.out; have := Z13.out; have := Z14.out; have := Z15.out; omega)))
    replace BGR0 := uhide (BGR0.out.outS ho16 (GR0w.out.not (by have := Zb.out; have := Z3.out; have := Z4.out; have := Z5.out; have := Z6.out; have := Z7.out; have := Z8.out; have := Z9.out; have := Z10.out; have := Z11.out; have := Z12.out; have := Z13.out; have := Z14.out; have := Z15.out; omega)))
    have Z16 : Hid (w15.heap.size + 0 ≤ w16.heap.size) := ho16.size
    have B16 : Hid (Below w.heap.size w w16) := B15.out.trans (GR0w.out.below ho16 (by have := B2.out.size; have := Zb.out; have := Z3.out; have := Z4.out; have := Z5.out; have := Z6.out; have := Z7.out; have := Z8.out; have := Z9.out; have := Z10.out; have := Z11.out; have := Z12.out; have := Z13.out; have := Z14.out; have := Z15.out; omega) B15.out.size)
    clear ho16
    replace GMR0 := uhide GMR0
    have GMR0w := GR0w
    have hq0 : ¬ ((((1 + mR0) : Nat) : Int) < 0) := by omega
    have hq1 : (((((1 + mR0) : Nat) : Int)) != ((((1 + mR0) : Nat) : Int))) = false := by simp
    have qBGR00 := BGR0.out.cell 0 _ rfl
    have qBGR01 := BGR0.out.cell 1 _ rfl
    have qBGR02 := BGR0.out.cell 2 _ rfl
    have qBGR03 := BGR0.out.cell 3 _ rfl
    have qBGR04 := BGR0.out.cell 4 _ rfl
    go_wp2_with fail
    refine (HhdR0.out _ _ _ _ _ ((GMR0.out.below (by repeat (first | with_reducible exact Below.refl _ _ | with_reducible refine Below.alloc ?_ (by simp <;> omega) _ | with_reducible refine Below.drew ?_ | with_reducible refine below_drewN ?_ _))).hand GMR0w.out.2) (by omega)).mono ?_
    rintro e w17 ⟨rfl, hb17⟩
    clear qBGR00 qBGR01 qBGR02 qBGR03 qBGR04
    have HB17 : Hid (Below w16.heap.size w16 w17) := Below.trans (by repeat (first | with_reducible exact Below.refl _ _ | with_reducible refine Below.alloc ?_ (by simp <;> omega) _ | with_reducible refine Below.drew ?_ | with_reducible refine below_drewN ?_ _)) (hb17.out.mono (by simp <;> omega))
    have Z17 : Hid (w16.heap.size + 0 ≤ w17.heap.size) := by have h := hb17.out.size; (try simp at h); show _ ≤ _; omega
    replace BXA0 := uhide (BXA0.out.below HB17.out)
    replace OXA0 := uhide (OXA0.out.below HB17.out)
    replace OXA1 := uhide (OXA1.out.below HB17.out)
    replace WR0 := uhide (WR0.out.below HB17.out)
    replace BWR0 := uhide (BWR0.out.below HB17.out)
    replace BYA0 := uhide (BYA0.out.below HB17.out)
    replace BGR0 := uhide (BGR0.out.below HB17.out)
    replace GMR0 := uhide (GMR0.out.below HB17.out)
    have B17 : Hid (Below w.heap.size w w17) := B16.out.trans (HB17.out.mono B16.out.size)
    clear hb17 HB17
    have qBXA00 := BXA0.out.cell 0 _ rfl
    have qBXA01 := BXA0.out.cell 1 _ rfl
    have qBXA02 := BXA0.out.cell 2 _ rfl
    have qBXA03 := BXA0.out.cell 3 _ rfl
    have qBXA04 := BXA0.out.cell 4 _ rfl
    go_wp2_with fail
    refine (HtoA0.out _ (by repeat (first | with_reducible exact B17.out | with_reducible refine Below.alloc ?_ (by have := B17.out.size; (try simp) <;> omega) _ | with_reducible refine Below.drew ?_ | with_reducible refine below_drewN ?_ _))).mono ?_
    rintro e w18 ⟨a3A0u, p3A0u, a4A0u, p4A0u, SUA0, rfl, UA0, UA0w, hb18⟩
    clear qBXA00 qBXA01 qBXA02 qBXA03 qBXA04
    have HB18 : Hid (Below w17.heap.size w17 w18) := Below.trans (by repeat (first | with_reducible exact Below.refl _ _ | with_reducible refine Below.alloc ?_ (by simp <;> omega) _ | with_reducible refine Below.drew ?_ | with_reducible refine below_drewN ?_ _)) (hb18.out.mono (by simp <;> omega))
    have Z18 : Hid (w17.heap.size + 0 ≤ w18.heap.size) := by have h := hb18.out.size; (try simp at h); show _ ≤ _; omega
    replace UA0w := uhide (UA0w.out.mono (a' := w17.heap.size + 0) (by (try simp) <;> omega) (Nat.le_refl _))
    replace BXA0 := uhide (BXA0.out.below HB18.out)
    replace OXA0 := uhide (OXA0.out.below HB18.out)
    replace OXA1 := uhide (OXA1.out.below HB18.out)
    replace WR0 := uhide (WR0.out.below HB18.out)
    replace BWR0 := uhide (BWR0.out.below HB18.out)
    replace BYA0 := uhide (BYA0.out.below HB18.out)
    replace BGR0 := uhide (BGR0.out.below HB18.out)
    replace GMR0 := uhide (GMR0.out.below HB18.out)
    have B18 : Hid (Below w.heap.size w w18) := B17.out.trans (HB18.out.mono B17.out.size)
    clear hb18 HB18
    go_wp2_with fail
    refine (HtoA1.out _ (by repeat (first | with_reducible exact B18.out | with_reducible refine Below.alloc ?_ (by have := B18.out.size; (try simp) <;> omega) _ | with_reducible refine Below.drew ?_ | with_reducible refine below_drewN ?_ _))).mono ?_
    rintro e w19 ⟨aA1u, pA1u, SUA1, rfl, UA1, UA1w, hb19⟩
    have HB19 : Hid (Below w18.heap.size w18 w19) := Below.trans (by repeat (first | with_reducible exact Below.refl _ _ | with_reducible refine Below.alloc ?_ (by simp <;> omega) _ | with_reducible refine Below.drew ?_ | with_reducible refine below_drewN ?_ _)) (hb19.out.mono (by simp <;> omega))
    have Z19 : Hid (w18.heap.size + 0 ≤ w19.heap.size) := by have h := hb19.out.size; (try simp at h); show _ ≤ _; omega
    replace UA1w := uhide (UA1w.out.mono (a' := w18.heap.size + 0) (by (try simp) <;> omega) (Nat.le_refl _))
    replace BXA0 := uhide (BXA0.out.below HB19.out)
    replace OXA0 := uhide (OXA0.out.below HB19.out)
    replace OXA1 := uhide (OXA1.out.below HB19.out)
    replace WR0 := uhide (WR0.out.below HB19.out)
    replace BWR0 := uhide (BWR0.out.below HB19.out)
    replace BYA0 := uhide (BYA0.out.below HB19.out)
    replace BGR0 := uhide (BGR0.out.below HB19.out)
    replace GMR0 := uhide (GMR0.out.below HB19.out)
    replace UA0 := uhide (UA0.out.below HB19.out)
    have B19 : Hid (Below w.heap.size w w19) := B18.out.trans (HB19.out.mono B18.out.size)
    clear hb19 HB19
    go_wp2_with fail
    refine (HIQ.out _ _ _ _ _ _ _ ((UA0.out.below (by repeat (first | with_reducible exact Below.refl _ _ | with_reducible refine Below.alloc ?_ (by simp <;> omega) _ | with_reducible refine Below.drew ?_ | with_reducible refine below_drewN ?_ _))).hand UA0w.out.2) ((UA1.out.below (by repeat (first | with_reducible exact Below.refl _ _ | with_reducible refine Below.alloc ?_ (by simp <;> omega) _ | with_reducible refine Below.drew ?_ | with_reducible refine below_drewN ?_ _))).u UA1w.out.2)).mono ?_
    rintro e w20 ⟨a3R0h, p3R0h, a4R0h, p4R0h, SR0h, rfl, KR0, KR0w, hb20⟩
    have HB20 : Hid (Below w19.heap.size w19 w20) := Below.trans (by repeat (first | with_reducible exact Below.refl _ _ | with_reducible refine Below.alloc ?_ (by simp <;> omega) _ | with_reducible refine Below.drew ?_ | with_reducible refine below_drewN ?_ _)) (hb20.out.mono (by simp <;> omega))
    have Z20 : Hid (w19.heap.size + 0 ≤ w20.heap.size) := by have h := hb20.out.size; (try simp at h); show _ ≤ _; omega
    replace KR0w := uhide (KR0w.out.mono (a' := w19.heap.size + 0) (by (try simp) <;> omega) (Nat.le_refl _))
    replace BXA0 := uhide (BXA0.out.below HB20.out)
    replace OXA0 := uhide (OXA0.out.below HB20.out)
    replace OXA1 := uhide (OXA1.out.below HB20.out)
    replace WR0 := uhide (WR0.out.below HB20.out)
    replace BWR0 := uhide (BWR0.out.below HB20.out)
    replace BYA0 := uhide (BYA0.out.below HB20.out)
    replace BGR0 := uhide (BGR0.out.below HB20.out)
    replace GMR0 := uhide (GMR0.out.below HB20.out)
    replace UA0 := uhide (UA0.out.below HB20.out)
    replace UA1 := uhide (UA1.out.below HB20.out)
    have B20 : Hid (Below w.heap.size w w20) := B19.out.trans (HB20.out.mono B19.out.size)
    clear hb20 HB20
    simp only
    have qBWR00 := BWR0.out.cell 0 _ rfl
    have qBWR01 := BWR0.out.cell 1 _ rfl
    have qBWR02 := BWR0.out.cell 2 _ rfl
    have qBWR03 := BWR0.out.cell 3 _ rfl
    have qBWR04 := BWR0.out.cell 4 _ rfl
    have qBWR0lt := BWR0.out.lt
    go_wp2_with fail
    refine (HeqR0.out _ _ _ _ _ _ _ ((KR0.out.below (by repeat (first | with_reducible exact Below.refl _ _ | with_reducible refine Below.alloc ?_ (by simp <;> omega) _ | with_reducible refine Below.drew ?_ | with_reducible refine below_drewN ?_ _))).hand KR0w.out.2) (WR0.out.below (by repeat (first | with_reducible exact Below.refl _ _ | with_reducible refine Below.alloc ?_ (by simp <;> omega) _ | with_reducible refine Below.drew ?_ | with_reducible refine below_drewN ?_ _)))).mono ?_
    rintro e w21 ⟨rfl, hb21⟩
    clear qBWR00 qBWR01 qBWR02 qBWR03 qBWR04 qBWR0lt
    have HB21 : Hid (Below w20.heap.size w20 w21) := Below.trans (by repeat (first | with_reducible exact Below.refl _ _ | with_reducible refine Below.alloc ?_ (by simp <;> omega) _ | with_reducible refine Below.drew ?_ | with_reducible refine below_drewN ?_ _)) (hb21.out.mono (by simp <;> omega))
    have BHR0 : Hid (objU w21 (w20.heap.size) 36 [.int .i64 z0R0, .string z1R0, .int .i64 z2R0, .slice a3R0h n3R0 p3R0h, .slice a4R0h n4R0 p4R0h]) := objU.below (by repeat (first | with_reducible exact objU.new2 _ _ (by simp) | with_reducible refine objU.old ?_ _)) hb21.out
    have Z21 : Hid (w20.heap.size + 1 ≤ w21.heap.size) := by have h := hb21.out.size; (try simp at h); show _ ≤ _; omega
    replace BXA0 := uhide (BXA0.out.below HB21.out)
    replace OXA0 := uhide (OXA0.out.below HB21.out)
    replace OXA1 := uhide (OXA1.out.below HB21.out)
    replace WR0 := uhide (WR0.out.below HB21.out)
    replace BWR0 := uhide (BWR0.out.below HB21.out)
    replace BYA0 := uhide (BYA0.out.below HB21.out)
    replace BGR0 := uhide (BGR0.out.below HB21.out)
    replace GMR0 := uhide (GMR0.out.below HB21.out)
    replace UA0 := uhide (UA0.out.below HB21.out)
    replace UA1 := uhide (UA1.out.below HB21.out)
    replace KR0 := uhide (KR0.out.below HB21.out)
    have B21 : Hid (Below w.heap.size w w21) := B20.out.trans (HB21.out.mono B20.out.size)
    clear hb21 HB21
    have qBGR00 := BGR0.out.cell 0 _ rfl
    have qBGR01 := BGR0.out.cell 1 _ rfl
    have qBGR02 := BGR0.out.cell 2 _ rfl
    have qBGR03 := BGR0.out.cell 3 _ rfl
    have qBGR04 := BGR0.out.cell 4 _ rfl
    go_wp2_with fail
    refine (HhdR0.out _ _ _ _ _ ((GMR0.out.below (by repeat (first | with_reducible exact Below.refl _ _ | with_reducible refine Below.alloc ?_ (by simp <;> omega) _ | with_reducible refine Below.drew ?_ | with_reducible refine below_drewN ?_ _))).hand GMR0w.out.2) (by omega)).mono ?_
    rintro e w22 ⟨rfl, hb22⟩
    clear qBGR00 qBGR01 qBGR02 qBGR03 qBGR04
    have HB22 : Hid (Below w21.heap.size w21 w22) := Below.trans (by repeat (first | with_reducible exact Below.refl _ _ | with_reducible refine Below.alloc ?_ (by simp <;> omega) _ | with_reducible refine Below.drew ?_ | with_reducible refine below_drewN ?_ _)) (hb22.out.mono (by simp <;> omega))
    have Z22 : Hid (w21.heap.size + 0 ≤ w22.heap.size) := by have h := hb22.out.size; (try simp at h); show _ ≤ _; omega
    replace BXA0 := uhide (BXA0.out.below HB22.out)
    replace OXA0 := uhide (OXA0.out.below HB22.out)
    replace OXA1 := uhide (OXA1.out.below HB22.out)
    replace WR0 := uhide (WR0.out.below HB22.out)
    replace BWR0 := uhide (BWR0.out.below HB22.out)
    replace BYA0 := uhide (BYA0.out.below HB22.out)
    replace BGR0 := uhide (BGR0.out.below HB22.out)
    replace GMR0 := uhide (GMR0.out.below HB22.out)
    replace UA0 := uhide (UA0.out.below HB22.out)
    replace UA1 := uhide (UA1.out.below HB22.out)
    replace KR0 := uhide (KR0.out.below HB22.out)
    replace BHR0 := uhide (BHR0.out.below HB22.out)
    have B22 : Hid (Below w.heap.size w w22) := B21.out.trans (HB22.out.mono B21.out.size)
    clear hb22 HB22
    go_wp2
    go_ret
    exact ⟨rfl, by repeat (first | with_reducible exact B22.out | with_reducible refine Below.drew ?_ | with_reducible refine below_drewN ?_ _)⟩)
set_option maxRecDepth 100000 in
theorem lifted (os : Os) (started : os.Started) (H : Type) (enc : TypeId × Value → H) :
    ReturnsInHanded {} Try.checked os 11 .any (Rows.fnExactReachSpec.pre6 enc Try.prog Try.f11 Rows.fnExactReachRow.domain false) (Rows.fnExactReachSpec.post enc Try.prog Try.f11 false true false false) := by
  refine returnsInHanded_of_change (C := Try.checked) own started (by kernel_rfl) Try.func11
    (ChangeSpec.witness6 (enc := enc) (C := Try.checked) false ⟨#[], #[.agg #[.int .i64 0, .string ByteArray.empty, .int .i64 0, .slice none 0 0, .slice none 0 0], .slice none 0 0], []⟩ 12 (by kernel_rfl) (by kernel_rfl) (by kernel_rfl) (by kernel_rfl)) ?_
  intro W base args ds gs before hval0 hW hcnd _
  have hval : ∀ (j : Nat) t v, Try.f11.params[j]? = some t → args[j]? = some v → Value.okWide Try.prog W .any base t v := hval0
  have hW' := hW
  obtain ⟨p, q, hA0, hV, rfl, hfz, hnd⟩ := hW
  have hA : DataW.TrodAll enc Try.prog W 0 (fun _ => true) true Try.f11.params.toList args.toList ds p := hA0
  rw [Try.params11] at hA hval
  obtain ⟨v0, vs0, d0, ds0, p0, q0, hargs, rfl, rfl, h0, r0⟩ := trodAll_cons hA
  obtain ⟨v1, vs1, d1, ds1, p1, q1, rfl, rfl, rfl, h1, r1⟩ := trodAll_cons r0
  obtain ⟨rfl, rfl, rfl⟩ := trodAll_nil r1
  obtain rfl : args = #[v0, v1] := by cases args; simp_all
  obtain ⟨rfl, rfl⟩ := trodVars_none hV
  obtain ⟨cs0, rfl, hsz0⟩ := okWide_struct Try.underlying56 (hval 0 56 v0 rfl rfl)
  have k0 := h0
  have lt0 : ∀ x ∈ p0, x.block < W.heap.size := by obtain ⟨m, hm⟩ := k0; exact DataW.trod_lt m _ _ _ hm
  obtain ⟨fuel0, hf0⟩ := h0
  obtain ⟨xs0, rfl⟩ : ∃ xs : List Value, cs0 = xs.toArray := ⟨cs0.toList, by simp⟩
  have hl0 : xs0.length = (uE 6).length := (show xs0.length = xs0.toArray.size by simp).trans (hsz0.trans (show Try.prog.cellsOf 56 = (uE 6).length by kernel_rfl))
  obtain ⟨dd0, hd0, hh0⟩ := openU (enc := enc) flatU fuel0 _ _ flatValue xs0 _ hl0 (by simpa [Value.cells] using hf0)
  obtain ⟨a1, len1, cap1, rfl⟩ := okWide_slice Try.underlying31 (hval 1 31 v1 rfl rfl)
  have k1 := h1
  have lt1 : ∀ x ∈ p1, x.block < W.heap.size := by obtain ⟨m, hm⟩ := k1; exact DataW.trod_lt m _ _ _ hm
  obtain ⟨fuel1, hf1⟩ := h1
  obtain ⟨dd1, hd1, hh1⟩ := openU (enc := enc) flatU fuel1 31 [.l 1 0] (Flat.slice 0 Try.underlying31 (by simp [GU]) (by kernel_rfl) (by decide)) [.slice a1 len1 cap1] _ rfl (by simpa [Value.cells] using hf1)
  obtain ⟨n1, ee1, rr1, rfl, ht1, hr1⟩ := tyL.l hd1
  obtain rfl := tyL.nil hr1
  obtain ⟨c1, ys1, hc1, hs1, -⟩ := hh1
  obtain ⟨rfl, -⟩ := List.cons.inj hc1
  clear hA0 hval0
  refine (walk dd0 xs0 n1 ee1 _ W hd0 hh0 ht1 hs1).mono fun e W' ⟨he, bel⟩ => ?_
  subst he
  exact ⟨_, rfl, _, _, _, [], _, [], hW', trodAll_mk1 (shut_bool Try.underlying4 _), (trodAll_cons_mk (Below.trod laidOut (by kernel_rfl) (of_decide_eq_true (by kernel_rfl)) k0 bel lt0) (trodAll_cons_mk (Below.trod laidOut (by kernel_rfl) (of_decide_eq_true (by kernel_rfl)) k1 bel lt1) trodAll_mk0)), rfl, bel.frame _, fun h => by cases h⟩
end LReach
theorem reach_holds : Rows.FnExactReachSaid :=
  OpenClaim.holds_of_wide 11 Try.f11 rfl rfl rfl rfl rfl rfl rfl ⟨rfl, rfl, rfl, rfl, rfl⟩ rfl rfl rfl rfl rfl (by kernel_rfl) Try.func11 (by kernel_rfl)
    (of_decide_eq_true (by kernel_rfl)) (by unfold Func.isWrapper; first | (rw [if_pos (by decide +kernel)]; kernel_rfl) | (rw [if_neg (by decide +kernel)]; exact ⟨rfl, rfl⟩))
    (fun os started H enc _ => LReach.lifted os started H enc)
#print axioms reach_holds
end Go.Proofs.Ytbadjopaocindaa
