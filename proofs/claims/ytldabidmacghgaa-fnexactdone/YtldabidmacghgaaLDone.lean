/- FnExactDone holds: at every queue, name and end impl.Done answers what spec.Done answers, in memory of its own. No conditions. -/
import Derived.Test.YtldabidmacghgaaRows
import Derived.Test.YtldabidmacghgaaQbDn
import Derived.Test.YtldabidmacghgaaUTQueuea
import Derived.Test.YtldabidmacghgaaUTQueueb
import Derived.Test.YtldabidmacghgaaUTQueuec
import Derived.Test.YtldabidmacghgaaUTQueued
import Derived.Test.YtldabidmacghgaaUTQueuee
import Derived.Test.YtldabidmacghgaaU3
import Derived.WalkKit
import Derived.ProofKit
import Derived.OpenShut
import Derived.ShutString
import Derived.ChangeOld
import Derived.Below
namespace Go.Proofs.Ytldabidmacghgaa
open Go.ChangeShapes Go.WideShapes Go.ChangeAt Go.RowKit Go.BigFrame
open Go.ChangeMaps (open_string shut_string)
set_option linter.unusedVariables false
namespace LDone
theorem laidOut : laidOutB Try.prog = true := by kernel_rfl
theorem own : ownKnob Try.prog.godebug = none := by kernel_rfl
def TYU : Nat → TypeId
  | 12 => 93
  | 0 => 9
  | _ => 0
def GU (n : Nat) : Prop := n = 12 ∨ n = 0
theorem flatQueue : Flat Try.prog TYU GU 43 (uE 13) := by
  refine Flat.struct [[.l 3 12], [.l 3 12], [.l 1 0], [.i .i64]] Try.underlying43 rfl (fun i f s hf hs => ?_) (fun i f s hf hs => ?_)
  · match i, hf, hs with
    | 0, hf, hs => cases hf; cases hs; exact (Flat.slice 12 Try.underlying41 (by simp [GU]) (by kernel_rfl) (by decide))
    | 1, hf, hs => cases hf; cases hs; exact (Flat.slice 12 Try.underlying41 (by simp [GU]) (by kernel_rfl) (by decide))
    | 2, hf, hs => cases hf; cases hs; exact (Flat.slice 0 Try.underlying25 (by simp [GU]) (by kernel_rfl) (by decide))
    | 3, hf, hs => cases hf; cases hs; exact (Flat.i64 Try.underlying3)
    | i + 4, hf, hs => simp at hs
  · match i, hf, hs with
    | 0, hf, hs => cases hf; cases hs; exact ⟨by kernel_rfl, rfl⟩
    | 1, hf, hs => cases hf; cases hs; exact ⟨by kernel_rfl, rfl⟩
    | 2, hf, hs => cases hf; cases hs; exact ⟨by kernel_rfl, rfl⟩
    | 3, hf, hs => cases hf; cases hs; exact ⟨by kernel_rfl, rfl⟩
    | i + 4, hf, hs => simp at hs
theorem flatItem : Flat Try.prog TYU GU 93 (uE 12) := by
  refine Flat.struct [[.s], [.i .i64], [.i .i64]] Try.underlying93 rfl (fun i f s hf hs => ?_) (fun i f s hf hs => ?_)
  · match i, hf, hs with
    | 0, hf, hs => cases hf; cases hs; exact (Flat.str Try.underlying9)
    | 1, hf, hs => cases hf; cases hs; exact (Flat.i64 Try.underlying3)
    | 2, hf, hs => cases hf; cases hs; exact (Flat.i64 Try.underlying3)
    | i + 3, hf, hs => simp at hs
  · match i, hf, hs with
    | 0, hf, hs => cases hf; cases hs; exact ⟨by kernel_rfl, rfl⟩
    | 1, hf, hs => cases hf; cases hs; exact ⟨by kernel_rfl, rfl⟩
    | 2, hf, hs => cases hf; cases hs; exact ⟨by kernel_rfl, rfl⟩
    | i + 3, hf, hs => simp at hs
theorem flatU : ∀ n, GU n → Flat Try.prog TYU GU (TYU n) (uE n) := by
  intro n h
  unfold GU at h
  rcases h with rfl | rfl
  · exact flatItem
  · exact (Flat.str Try.underlying9)
set_option maxRecDepth 20000 in
set_option maxHeartbeats 3200000 in
theorem walk (dA0 : UD) (xsA0 : List Value) (sA1 : ByteArray) (bA2 : Bool) (w : World) (htA0 : tyL dA0 (uE 13)) (hxA0 : uH w 0 w.heap.size dA0 xsA0) (hsA1 : sA1.size ≤ maxLen) :
    Calls Try.prog 8 #[.agg xsA0.toArray, .string sA1, .bool bA2] w fun e w' => e = .returned (.bool true) ∧ Below w.heap.size w w' := by
  by_cases hbA1 : (1048576 : Int) < (sA1.size : Int)
  · go_enter Try.func8, Try.ntmps8
    go_wp2
    go_ret
    exact ⟨rfl, by repeat (first | exact Below.refl _ _ | refine Below.alloc ?_ (by simp <;> omega) _)⟩
  obtain ⟨n0A0, c0A0, n1A0, c1A0, n2A0, c2A0, z3A0, hdA0, g0A0, g1A0, g2A0, g3A0⟩ := partsQueue htA0
  have SHA0 : Hid (∀ (wx : World) (lo hi : Nat) (ys : List Value), uH wx lo hi dA0 ys → ∃ a0A0 p0A0 a1A0 p1A0 a2A0 p2A0, ys = [.slice a0A0 n0A0 p0A0, .slice a1A0 n1A0 p1A0, .slice a2A0 n2A0 p2A0, .int .i64 z3A0]) := by
    intro wx lo hi ys h
    rw [hdA0] at h
    obtain ⟨v0A0, _, rfl, s0, ⟨v1A0, _, rfl, s1, ⟨v2A0, _, rfl, s2, ⟨_, rfl, rfl⟩⟩⟩⟩ := h
    obtain ⟨a0A0, p0A0, rfl, t0A0⟩ := s0
    obtain ⟨a1A0, p1A0, rfl, t1A0⟩ := s1
    obtain ⟨a2A0, p2A0, rfl, t2A0⟩ := s2
    exact ⟨a0A0, p0A0, a1A0, p1A0, a2A0, p2A0, rfl⟩
  obtain ⟨a0A0, p0A0, a1A0, p1A0, a2A0, p2A0, rfl⟩ := SHA0.out w _ _ xsA0 hxA0
  have OXA0 : Hid (uH w 0 w.heap.size dA0 [.slice a0A0 n0A0 p0A0, .slice a1A0 n1A0 p1A0, .slice a2A0 n2A0 p2A0, .int .i64 z3A0]) := hxA0
  have HtA0 := uhide htA0
  clear hxA0 hdA0 g0A0 g1A0 g2A0 g3A0
  obtain ⟨l1, hl1⟩ : ∃ l, leftI (1048576 : Int) (wt dA0) = l := ⟨_, rfl⟩
  have HsA0 : Hid (∀ wx, Below w.heap.size w wx → Calls Try.prog 23 #[.agg #[.slice a0A0 n0A0 p0A0, .slice a1A0 n1A0 p1A0, .slice a2A0 n2A0 p2A0, .int .i64 z3A0], .int .i64 1048576] wx fun e w' => e = .returned (.int .i64 l1) ∧ Hid (Below wx.heap.size wx w')) := fun wx hb => hl1 ▸ uszQueue_any (lo := 0) (hi := w.heap.size) dA0 [.slice a0A0 n0A0 p0A0, .slice a1A0 n1A0 p1A0, .slice a2A0 n2A0 p2A0, .int .i64 z3A0] 1048576 wx HtA0.out (OXA0.out.below hb) (by decide) (by decide)
  have hle0 : l1 ≤ 1048576 := by rw [← hl1]; unfold leftI; split <;> omega
  by_cases hn0 : l1 < 0
  · go_enter Try.func8, Try.ntmps8
    go_wp2_with fail
    refine (HsA0.out _ (by repeat (first | with_reducible exact Below.refl _ _ | with_reducible refine Below.alloc ?_ (by simp <;> omega) _ | with_reducible refine Below.drew ?_ | with_reducible refine below_drewN ?_ _))).mono ?_
    rintro e w1 ⟨rfl, hb1⟩
    have HB1 : Hid (Below w.heap.size w w1) := Below.trans (by repeat (first | with_reducible exact Below.refl _ _ | with_reducible refine Below.alloc ?_ (by simp <;> omega) _ | with_reducible refine Below.drew ?_ | with_reducible refine below_drewN ?_ _)) (hb1.out.mono (by simp <;> omega))
    have BXA0_1 : Hid (objU w1 (w.heap.size) 43 [.slice a0A0 n0A0 p0A0, .slice a1A0 n1A0 p1A0, .slice a2A0 n2A0 p2A0, .int .i64 z3A0]) := objU.below (by repeat (first | with_reducible exact objU.new2 _ _ (by simp) | with_reducible refine objU.old ?_ _)) hb1.out
    have B1 : Hid (Below w.heap.size w w1) := HB1
    clear hb1
    go_wp2
    go_ret
    exact ⟨rfl, B1.out⟩
  have Hw0 : Hid (l1 = 1048576 - ((wt dA0) : Nat)) := by show _ = _; rw [← hl1]; exact (leftI_pos 0 (by rw [hl1]; exact hn0)).2.1
  have hw0 := Hw0.out
  obtain ⟨dR0, bR1, hrR0, hcR0, HSP, HIM⟩ := done_both dA0 sA1 bA2 HtA0.out (by omega) (by omega)
  replace HSP := uhide HSP
  replace HIM := uhide HIM
  have HrR0 := uhide hrR0
  obtain ⟨n0R0, c0R0, n1R0, c1R0, n2R0, c2R0, z3R0, hdR0, g0R0, g1R0, g2R0, g3R0⟩ := partsQueue hrR0
  have SHR0 : Hid (∀ (wx : World) (lo hi : Nat) (ys : List Value), uH wx lo hi dR0 ys → ∃ a0R0 p0R0 a1R0 p1R0 a2R0 p2R0, ys = [.slice a0R0 n0R0 p0R0, .slice a1R0 n1R0 p1R0, .slice a2R0 n2R0 p2R0, .int .i64 z3R0]) := by
    intro wx lo hi ys h
    rw [hdR0] at h
    obtain ⟨v0R0, _, rfl, s0, ⟨v1R0, _, rfl, s1, ⟨v2R0, _, rfl, s2, ⟨_, rfl, rfl⟩⟩⟩⟩ := h
    obtain ⟨a0R0, p0R0, rfl, t0R0⟩ := s0
    obtain ⟨a1R0, p1R0, rfl, t1R0⟩ := s1
    obtain ⟨a2R0, p2R0, rfl, t2R0⟩ := s2
    exact ⟨a0R0, p0R0, a1R0, p1R0, a2R0, p2R0, rfl⟩
  clear hrR0 hdR0 g0R0 g1R0 g2R0 g3R0
  have HSQ : Hid (∀ (wx : World) (loA0 hiA0 : Nat) (xsA0 : List Value), uH wx loA0 hiA0 dA0 xsA0 → Calls Try.prog 28 #[.agg xsA0.toArray, .string sA1, .bool bA2] wx fun e w' => ∃ a0R0 p0R0 a1R0 p1R0 a2R0 p2R0, e = .returned (.tuple #[.agg #[.slice a0R0 n0R0 p0R0, .slice a1R0 n1R0 p1R0, .slice a2R0 n2R0 p2R0, .int .i64 z3R0], .bool bR1]) ∧ Hid (uH w' 0 w'.heap.size dR0 [.slice a0R0 n0R0 p0R0, .slice a1R0 n1R0 p1R0, .slice a2R0 n2R0 p2R0, .int .i64 z3R0]) ∧ Hid (Below wx.heap.size wx w')) := fun wx loA0 hiA0 xsA0 hA0 => (HSP.out _ _ _ _ hA0).mono fun e w' ⟨ysR0, h1, kR0, hb⟩ => by
    obtain ⟨a0R0, p0R0, a1R0, p1R0, a2R0, p2R0, rfl⟩ := SHR0.out w' _ _ _ kR0
    exact ⟨a0R0, p0R0, a1R0, p1R0, a2R0, p2R0, h1, kR0, hb⟩
  have HIQ : Hid (∀ (wx : World) (loA0 hiA0 : Nat) (xsA0 : List Value), uH wx loA0 hiA0 dA0 xsA0 → Calls Try.prog 17 #[.agg xsA0.toArray, .string sA1, .bool bA2] wx fun e w' => ∃ a0R0 p0R0 a1R0 p1R0 a2R0 p2R0 SR0, e = .returned (.tuple #[.agg #[.slice a0R0 n0R0 p0R0, .slice a1R0 n1R0 p1R0, .slice a2R0 n2R0 p2R0, .int .i64 z3R0], .bool bR1]) ∧ Hid (oH w' dR0 [.slice a0R0 n0R0 p0R0, .slice a1R0 n1R0 p1R0, .slice a2R0 n2R0 p2R0, .int .i64 z3R0] SR0) ∧ Hid (own2 SR0 wx.heap.size w'.heap.size) ∧ Hid (Below wx.heap.size wx w')) := fun wx loA0 hiA0 xsA0 hA0 => (HIM.out _ _ _ _ hA0).mono fun e w' ⟨ysR0, SR0, h1, kR0, oR0, hb⟩ => by
    obtain ⟨a0R0, p0R0, a1R0, p1R0, a2R0, p2R0, rfl⟩ := SHR0.out w' _ _ _ (kR0.hand oR0.2)
    exact ⟨a0R0, p0R0, a1R0, p1R0, a2R0, p2R0, SR0, h1, kR0, oR0, hb⟩
  clear HSP HIM
  have hctA0 : cntT dA0 ≤ 42000000 := by have := cntT_wt HtA0.out; omega
  have hctR0 : cntT dR0 ≤ 50000000 := by have := cntT_le dR0; omega
  have HtoA0 : Hid (∀ wx, Below w.heap.size w wx → Calls Try.prog 24 #[.agg #[.slice a0A0 n0A0 p0A0, .slice a1A0 n1A0 p1A0, .slice a2A0 n2A0 p2A0, .int .i64 z3A0]] wx fun e w' => ∃ a0rA0 p0rA0 a1rA0 p1rA0 a2rA0 p2rA0 S, e = .returned (.agg #[.slice a0rA0 n0A0 p0rA0, .slice a1rA0 n1A0 p1rA0, .slice a2rA0 n2A0 p2rA0, .int .i64 z3A0]) ∧ Hid (oH w' dA0 [.slice a0rA0 n0A0 p0rA0, .slice a1rA0 n1A0 p1rA0, .slice a2rA0 n2A0 p2rA0, .int .i64 z3A0] S) ∧ Hid (own2 S wx.heap.size w'.heap.size) ∧ Hid (Below wx.heap.size wx w')) := fun wx hb => (utoQueue_any (lo := 0) (hi := w.heap.size) dA0 [.slice a0A0 n0A0 p0A0, .slice a1A0 n1A0 p1A0, .slice a2A0 n2A0 p2A0, .int .i64 z3A0] wx HtA0.out (by omega) (OXA0.out.below hb)).mono fun e w' ⟨ys, S, h1, h2, h3, h4, h5⟩ => by
    have hO : own2 S wx.heap.size w'.heap.size := ⟨h3, fun s hs => ⟨h4 s hs, h2.lt _ _ _ s hs⟩⟩
    obtain ⟨a0A0, p0A0, a1A0, p1A0, a2A0, p2A0, rfl⟩ := SHA0.out w' _ _ ys (h2.hand hO.2)
    exact ⟨a0A0, p0A0, a1A0, p1A0, a2A0, p2A0, S, h1, h2, hO, h5⟩
  have HeqA0 : Hid (∀ (wx : World) (lo hi lo' hi' : Nat) (ys ys' : List Value), uH wx lo hi dA0 ys → uH wx lo' hi' dA0 ys' → Calls Try.prog 25 #[.agg ys.toArray, .agg ys'.toArray] wx fun e w' => e = .returned (.bool true) ∧ Hid (Below wx.heap.size wx w')) := fun wx lo hi lo' hi' ys ys' h1 h2 => ueqQueue_any (lo := lo) (hi := hi) (lo' := lo') (hi' := hi') _ _ _ wx HtA0.out h1 h2
  have HeqR0 : Hid (∀ (wx : World) (lo hi lo' hi' : Nat) (ys ys' : List Value), uH wx lo hi dR0 ys → uH wx lo' hi' dR0 ys' → Calls Try.prog 25 #[.agg ys.toArray, .agg ys'.toArray] wx fun e w' => e = .returned (.bool true) ∧ Hid (Below wx.heap.size wx w')) := fun wx lo hi lo' hi' ys ys' h1 h2 => ueqQueue_any (lo := lo) (hi := hi) (lo' := lo') (hi' := hi') _ _ _ wx HrR0.out h1 h2
  have HmkA0 : Hid (∀ (wx : World) (ys : List Value) (S : List Nat) (x : Int) (lo hi : Nat), oH wx dA0 ys S → own2 S lo hi → x = ((1 : Nat) : Int) → Calls Try.prog 26 #[.agg ys.toArray, .int .i64 x] wx fun e w' => e = .returned (.int .i64 ((1 + cntT dA0) : Nat)) ∧ OutS S wx w') := fun wx y S x lo hi h hO hx => by
    rw [hx]
    exact (umarkQueue_any dA0 1 _ S wx HtA0.out hO.1 (by omega) (by omega) h).mono fun e w' h => ⟨h.1, h.2.2⟩
  have HmkR0 : Hid (∀ (wx : World) (ys : List Value) (S : List Nat) (x : Int) (lo hi : Nat), oH wx dR0 ys S → own2 S lo hi → x = ((1 : Nat) : Int) → Calls Try.prog 26 #[.agg ys.toArray, .int .i64 x] wx fun e w' => e = .returned (.int .i64 ((1 + cntT dR0) : Nat)) ∧ oH w' (mkT dR0 1) ys S ∧ OutS S wx w') := fun wx y S x lo hi h hO hx => by
    rw [hx]
    exact umarkQueue_any dR0 1 _ S wx HrR0.out hO.1 (by omega) (by omega) h
  have HhdR0 : Hid (∀ (wx : World) (ys : List Value) (x : Int) (lo hi : Nat), uH wx lo hi (mkT dR0 1) ys → x = ((1 : Nat) : Int) → Calls Try.prog 27 #[.agg ys.toArray, .int .i64 x] wx fun e w' => e = .returned (.int .i64 ((1 + cntT dR0) : Nat)) ∧ Hid (Below wx.heap.size wx w')) := fun wx y x lo hi h hx => by
    rw [hx]
    exact uheldQueue_any (lo := lo) (hi := hi) dR0 1 _ wx HrR0.out (by omega) (by omega) h
  clear hw0 hle0 hl1 htA0 hcR0
  have hqR1 : (bR1 != bR1) = false := by simp
  go_enter Try.func8, Try.ntmps8
  generalize cntT dA0 = mA0 at *
  generalize cntT dR0 = mR0 at *
  go_wp2_with fail
  refine (HsA0.out _ (by repeat (first | with_reducible exact Below.refl _ _ | with_reducible refine Below.alloc ?_ (by simp <;> omega) _ | with_reducible refine Below.drew ?_ | with_reducible refine below_drewN ?_ _))).mono ?_
  rintro e w1 ⟨rfl, hb1⟩
  have HB1 : Hid (Below w.heap.size w w1) := Below.trans (by repeat (first | with_reducible exact Below.refl _ _ | with_reducible refine Below.alloc ?_ (by simp <;> omega) _ | with_reducible refine Below.drew ?_ | with_reducible refine below_drewN ?_ _)) (hb1.out.mono (by simp <;> omega))
  have BXA0_1 : Hid (objU w1 (w.heap.size) 43 [.slice a0A0 n0A0 p0A0, .slice a1A0 n1A0 p1A0, .slice a2A0 n2A0 p2A0, .int .i64 z3A0]) := objU.below (by repeat (first | with_reducible exact objU.new2 _ _ (by simp) | with_reducible refine objU.old ?_ _)) hb1.out
  have B1 : Hid (Below w.heap.size w w1) := HB1
  clear hb1
  have BXA0 := BXA0_1
  clear BXA0_1
  replace OXA0 := uhide (OXA0.out.below B1.out)
  have Zb : Hid (w.heap.size + 1 ≤ w1.heap.size) := BXA0.out.lt
  have qBXA00 := BXA0.out.cell 0 _ rfl
  have qBXA01 := BXA0.out.cell 1 _ rfl
  have qBXA02 := BXA0.out.cell 2 _ rfl
  have qBXA03 := BXA0.out.cell 3 _ rfl
  go_wp2_with fail
  refine (HtoA0.out _ (by repeat (first | with_reducible exact B1.out | with_reducible refine Below.alloc ?_ (by have := B1.out.size; (try simp) <;> omega) _ | with_reducible refine Below.drew ?_ | with_reducible refine below_drewN ?_ _))).mono ?_
  rintro e w2 ⟨a0A0y, p0A0y, a1A0y, p1A0y, a2A0y, p2A0y, SYA0, rfl, YA0, YA0w, hb2⟩
  clear qBXA00 qBXA01 qBXA02 qBXA03
  have HB2 : Hid (Below w1.heap.size w1 w2) := Below.trans (by repeat (first | with_reducible exact Below.refl _ _ | with_reducible refine Below.alloc ?_ (by simp <;> omega) _ | with_reducible refine Below.drew ?_ | with_reducible refine below_drewN ?_ _)) (hb2.out.mono (by simp <;> omega))
  have Z2 : Hid (w1.heap.size + 0 ≤ w2.heap.size) := by have h := hb2.out.size; (try simp at h); show _ ≤ _; omega
  replace YA0w := uhide (YA0w.out.mono (a' := w1.heap.size + 0) (by (try simp) <;> omega) (Nat.le_refl _))
  replace BXA0 := uhide (BXA0.out.below HB2.out)
  replace OXA0 := uhide (OXA0.out.below HB2.out)
  have B2 : Hid (Below w.heap.size w w2) := B1.out.trans (HB2.out.mono B1.out.size)
  clear hb2 HB2
  go_wp2_with fail
  refine (HSQ.out _ _ _ _ ((YA0.out.below (by repeat (first | with_reducible exact Below.refl _ _ | with_reducible refine Below.alloc ?_ (by simp <;> omega) _ | with_reducible refine Below.drew ?_ | with_reducible refine below_drewN ?_ _))).hand YA0w.out.2)).mono ?_
  rintro e w3 ⟨a0R0w, p0R0w, a1R0w, p1R0w, a2R0w, p2R0w, rfl, WR0, hb3⟩
  have HB3 : Hid (Below w2.heap.size w2 w3) := Below.trans (by repeat (first | with_reducible exact Below.refl _ _ | with_reducible refine Below.alloc ?_ (by simp <;> omega) _ | with_reducible refine Below.drew ?_ | with_reducible refine below_drewN ?_ _)) (hb3.out.mono (by simp <;> omega))
  have Z3 : Hid (w2.heap.size + 0 ≤ w3.heap.size) := by have h := hb3.out.size; (try simp at h); show _ ≤ _; omega
  replace BXA0 := uhide (BXA0.out.below HB3.out)
  replace OXA0 := uhide (OXA0.out.below HB3.out)
  replace YA0 := uhide (YA0.out.below HB3.out)
  have B3 : Hid (Below w.heap.size w w3) := B2.out.trans (HB3.out.mono B2.out.size)
  clear hb3 HB3
  clear YA0 YA0w
  simp only
  have qBXA00 := BXA0.out.cell 0 _ rfl
  have qBXA01 := BXA0.out.cell 1 _ rfl
  have qBXA02 := BXA0.out.cell 2 _ rfl
  have qBXA03 := BXA0.out.cell 3 _ rfl
  have qBXA0lt := BXA0.out.lt
  go_wp2_with fail
  refine (HtoA0.out _ (by repeat (first | with_reducible exact B3.out | with_reducible refine Below.alloc ?_ (by have := B3.out.size; (try simp) <;> omega) _ | with_reducible refine Below.drew ?_ | with_reducible refine below_drewN ?_ _))).mono ?_
  rintro e w4 ⟨a0A0x, p0A0x, a1A0x, p1A0x, a2A0x, p2A0x, SXA0, rfl, XA0, XA0w, hb4⟩
  clear qBXA00 qBXA01 qBXA02 qBXA03 qBXA0lt
  have HB4 : Hid (Below w3.heap.size w3 w4) := Below.trans (by repeat (first | with_reducible exact Below.refl _ _ | with_reducible refine Below.alloc ?_ (by simp <;> omega) _ | with_reducible refine Below.drew ?_ | with_reducible refine below_drewN ?_ _)) (hb4.out.mono (by simp <;> omega))
  have BWR0 : Hid (objU w4 (w3.heap.size) 27 [.slice a0R0w n0R0 p0R0w, .slice a1R0w n1R0 p1R0w, .slice a2R0w n2R0 p2R0w, .int .i64 z3R0]) := objU.below (by repeat (first | with_reducible exact objU.new2 _ _ (by simp) | with_reducible refine objU.old ?_ _)) hb4.out
  have Z4 : Hid (w3.heap.size + 1 ≤ w4.heap.size) := by have h := hb4.out.size; (try simp at h); show _ ≤ _; omega
  replace XA0w := uhide (XA0w.out.mono (a' := w3.heap.size + 1) (by (try simp) <;> omega) (Nat.le_refl _))
  replace BXA0 := uhide (BXA0.out.below HB4.out)
  replace OXA0 := uhide (OXA0.out.below HB4.out)
  replace WR0 := uhide (WR0.out.below HB4.out)
  have B4 : Hid (Below w.heap.size w w4) := B3.out.trans (HB4.out.mono B3.out.size)
  clear hb4 HB4
  go_wp2_with fail
  refine (HIQ.out _ _ _ _ ((XA0.out.below (by repeat (first | with_reducible exact Below.refl _ _ | with_reducible refine Below.alloc ?_ (by simp <;> omega) _ | with_reducible refine Below.drew ?_ | with_reducible refine below_drewN ?_ _))).hand XA0w.out.2)).mono ?_
  rintro e w5 ⟨a0R0g, p0R0g, a1R0g, p1R0g, a2R0g, p2R0g, SR0g, rfl, GR0, GR0w, hb5⟩
  have HB5 : Hid (Below w4.heap.size w4 w5) := Below.trans (by repeat (first | with_reducible exact Below.refl _ _ | with_reducible refine Below.alloc ?_ (by simp <;> omega) _ | with_reducible refine Below.drew ?_ | with_reducible refine below_drewN ?_ _)) (hb5.out.mono (by simp <;> omega))
  have BYA0 : Hid (objU w5 (w4.heap.size) 27 [.slice a0A0x n0A0 p0A0x, .slice a1A0x n1A0 p1A0x, .slice a2A0x n2A0 p2A0x, .int .i64 z3A0]) := objU.below (by repeat (first | with_reducible exact objU.new2 _ _ (by simp) | with_reducible refine objU.old ?_ _)) hb5.out
  have Z5 : Hid (w4.heap.size + 1 ≤ w5.heap.size) := by have h := hb5.out.size; (try simp at h); show _ ≤ _; omega
  replace GR0w := uhide (GR0w.out.mono (a' := w4.heap.size + 1) (by (try simp) <;> omega) (Nat.le_refl _))
  replace BXA0 := uhide (BXA0.out.below HB5.out)
  replace OXA0 := uhide (OXA0.out.below HB5.out)
  replace WR0 := uhide (WR0.out.below HB5.out)
  replace BWR0 := uhide (BWR0.out.below HB5.out)
  replace XA0 := uhide (XA0.out.below HB5.out)
  have B5 : Hid (Below w.heap.size w w5) := B4.out.trans (HB5.out.mono B4.out.size)
  clear hb5 HB5
  simp only
  have qBWR00 := BWR0.out.cell 0 _ rfl
  have qBWR01 := BWR0.out.cell 1 _ rfl
  have qBWR02 := BWR0.out.cell 2 _ rfl
  have qBWR03 := BWR0.out.cell 3 _ rfl
  have qBWR0lt := BWR0.out.lt
  go_wp2_with fail
  refine (HeqR0.out _ _ _ _ _ _ _ ((GR0.out.below (by repeat (first | with_reducible exact Below.refl _ _ | with_reducible refine Below.alloc ?_ (by simp <;> omega) _ | with_reducible refine Below.drew ?_ | with_reducible refine below_drewN ?_ _))).hand GR0w.out.2) (WR0.out.below (by repeat (first | with_reducible exact Below.refl _ _ | with_reducible refine Below.alloc ?_ (by simp <;> omega) _ | with_reducible refine Below.drew ?_ | with_reducible refine below_drewN ?_ _)))).mono ?_
  rintro e w6 ⟨rfl, hb6⟩
  clear qBWR00 qBWR01 qBWR02 qBWR03 qBWR0lt
  have HB6 : Hid (Below w5.heap.size w5 w6) := Below.trans (by repeat (first | with_reducible exact Below.refl _ _ | with_reducible refine Below.alloc ?_ (by simp <;> omega) _ | with_reducible refine Below.drew ?_ | with_reducible refine below_drewN ?_ _)) (hb6.out.mono (by simp <;> omega))
  have BGR0 : Hid (objU w6 (w5.heap.size) 27 [.slice a0R0g n0R0 p0R0g, .slice a1R0g n1R0 p1R0g, .slice a2R0g n2R0 p2R0g, .int .i64 z3R0]) := objU.below (by repeat (first | with_reducible exact objU.new2 _ _ (by simp) | with_reducible refine objU.old ?_ _)) hb6.out
  have Z6 : Hid (w5.heap.size + 1 ≤ w6.heap.size) := by have h := hb6.out.size; (try simp at h); show _ ≤ _; omega
  replace BXA0 := uhide (BXA0.out.below HB6.out)
  replace OXA0 := uhide (OXA0.out.below HB6.out)
  replace WR0 := uhide (WR0.out.below HB6.out)
  replace BWR0 := uhide (BWR0.out.below HB6.out)
  replace XA0 := uhide (XA0.out.below HB6.out)
  replace BYA0 := uhide (BYA0.out.below HB6.out)
  replace GR0 := uhide (GR0.out.below HB6.out)
  have B6 : Hid (Below w.heap.size w w6) := B5.out.trans (HB6.out.mono B5.out.size)
  clear hb6 HB6
  have qBYA00 := BYA0.out.cell 0 _ rfl
  have qBYA01 := BYA0.out.cell 1 _ rfl
  have qBYA02 := BYA0.out.cell 2 _ rfl
  have qBYA03 := BYA0.out.cell 3 _ rfl
  have qBXA00 := BXA0.out.cell 0 _ rfl
  have qBXA01 := BXA0.out.cell 1 _ rfl
  have qBXA02 := BXA0.out.cell 2 _ rfl
  have qBXA03 := BXA0.out.cell 3 _ rfl
  have RT : Hid (∀ wx, Below w6.heap.size w6 wx → Calls Try.prog 24 #[.agg #[.slice a0A0 n0A0 p0A0, .slice a1A0 n1A0 p1A0, .slice a2A0 n2A0 p2A0, .int .i64 z3A0]] wx fun e w' => ∃ a0rA0 p0rA0 a1rA0 p1rA0 a2rA0 p2rA0, e = .returned (.agg #[.slice a0rA0 n0A0 p0rA0, .slice a1rA0 n1A0 p1rA0, .slice a2rA0 n2A0 p2rA0, .int .i64 z3A0]) ∧ Hid (uH w' 0 w'.heap.size dA0 [.slice a0rA0 n0A0 p0rA0, .slice a1rA0 n1A0 p1rA0, .slice a2rA0 n2A0 p2rA0, .int .i64 z3A0]) ∧ Hid (Below w6.heap.size w6 w')) := fun wx hb => (HtoA0.out wx (B6.out.trans (hb.mono B6.out.size))).mono fun e w' ⟨a0rA0, p0rA0, a1rA0, p1rA0, a2rA0, p2rA0, S, h1, h2, h3, h4⟩ => ⟨a0rA0, p0rA0, a1rA0, p1rA0, a2rA0, p2rA0, h1, h2.out.hand (lo := 0) (hi := w'.heap.size) (fun g hg => ⟨Nat.zero_le _, (h3.out.2 g hg).2⟩), hb.trans (h4.out.mono hb.size)⟩
  have RE : Hid (∀ (wx : World) (ys : List Value) (lo hi : Nat), Below w6.heap.size w6 wx → uH wx lo hi dA0 ys → Calls Try.prog 25 #[.agg #[.slice a0A0x n0A0 p0A0x, .slice a1A0x n1A0 p1A0x, .slice a2A0x n2A0 p2A0x, .int .i64 z3A0], .agg ys.toArray] wx fun e w' => e = .returned (.bool true) ∧ Hid (Below w6.heap.size w6 w')) := fun wx ys lo hi hb h => (HeqA0.out wx _ _ lo hi _ ys ((XA0.out.below hb).hand XA0w.out.2) h).mono fun e w' h => ⟨h.1, hb.trans (h.2.out.mono hb.size)⟩
  have hb7r : Hid (Below w6.heap.size w6 w6) := Below.refl _ _
  go_wp2
  have hbr := hb7r
  go_region_with (first
    | (go_at_call 24; refine (RT.out _ (by repeat (first | with_reducible exact Below.refl _ _ | with_reducible exact hbr.out | with_reducible refine Below.drew ?_ | with_reducible refine below_drewN ?_ _))).mono ?_; rintro e wt ⟨a0A0t, p0A0t, a1A0t, p1A0t, a2A0t, p2A0t, rfl, XT, hbt⟩; replace hbr := hbt; have qBYA00r := (BYA0.out.below hbr.out).cell 0 _ rfl; have qBYA01r := (BYA0.out.below hbr.out).cell 1 _ rfl; have qBYA02r := (BYA0.out.below hbr.out).cell 2 _ rfl; have qBYA03r := (BYA0.out.below hbr.out).cell 3 _ rfl)
    | (go_at_call 25; refine (RE.out _ _ _ _ (by repeat (first | with_reducible exact Below.refl _ _ | with_reducible exact hbr.out | with_reducible refine Below.drew ?_ | with_reducible refine below_drewN ?_ _)) (by first | exact XT.out | exact XT.out.below (by repeat (first | with_reducible exact Below.refl _ _ | with_reducible refine Below.drew ?_ | with_reducible refine below_drewN ?_ _)))).mono ?_; rintro e w7 ⟨rfl, hb7⟩))
  all_goals (
    have HB7 := hb7
    have Z7 : Hid (w6.heap.size + 0 ≤ w7.heap.size) := HB7.out.size
    replace BXA0 := uhide (BXA0.out.below HB7.out)
    replace OXA0 := uhide (OXA0.out.below HB7.out)
    replace WR0 := uhide (WR0.out.below HB7.out)
    replace BWR0 := uhide (BWR0.out.below HB7.out)
    replace XA0 := uhide (XA0.out.below HB7.out)
    replace BYA0 := uhide (BYA0.out.below HB7.out)
    replace GR0 := uhide (GR0.out.below HB7.out)
    replace BGR0 := uhide (BGR0.out.below HB7.out)
    have B7 : Hid (Below w.heap.size w w7) := B6.out.trans (HB7.out.mono B6.out.size)
    clear hb7 HB7
    have qBYA00 := BYA0.out.cell 0 _ rfl
    have qBYA01 := BYA0.out.cell 1 _ rfl
    have qBYA02 := BYA0.out.cell 2 _ rfl
    have qBYA03 := BYA0.out.cell 3 _ rfl
    go_wp2_with fail
    refine (HmkA0.out _ _ _ _ _ _ XA0.out XA0w.out (by omega)).mono ?_
    rintro e w8 ⟨rfl, ho8⟩
    clear qBYA00 qBYA01 qBYA02 qBYA03
    replace BXA0 := uhide (BXA0.out.outS ho8 (XA0w.out.not (by have := Zb.out; have := Z2.out; have := Z3.out; have := Z4.out; have := Z5.out; have := Z6.out; have := Z7.out; omega)))
    replace OXA0 := uhide (OXA0.out.out (XA0w.out.out ho8) (by have := Zb.out; have := Z2.out; have := Z3.out; have := Z4.out; have := Z5.out; have := Z6.out; have := Z7.out; omega))
    replace WR0 := uhide (WR0.out.out (XA0w.out.out ho8) (by have := Zb.out; have := Z2.out; have := Z3.out; have := Z4.out; have := Z5.out; have := Z6.out; have := Z7.out; omega))
    replace BWR0 := uhide (BWR0.out.outS ho8 (XA0w.out.not (by have := Zb.out; have := Z2.out; have := Z3.out; have := Z4.out; have := Z5.out; have := Z6.out; have := Z7.out; omega)))
    replace BYA0 := uhide (BYA0.out.outS ho8 (XA0w.out.not (by have := Zb.out; have := Z2.out; have := Z3.out; have := Z4.out; have := Z5.out; have := Z6.out; have := Z7.out; omega)))
    replace GR0 := uhide (GR0.out.outs ho8 GR0w.out (fun x hx => by have := XA0w.out.2 x hx; have := Zb.out; have := Z2.out; have := Z3.out; have := Z4.out; have := Z5.out; have := Z6.out; have := Z7.out; omega))
    replace BGR0 := uhide (BGR0.out.outS ho8 (XA0w.out.not (by have := Zb.out; have := Z2.out; have := Z3.out; have := Z4.out; have := Z5.out; have := Z6.out; have := Z7.out; omega)))
    have Z8 : Hid (w7.heap.size + 0 ≤ w8.heap.size) := ho8.size
    have B8 : Hid (Below w.heap.size w w8) := B7.out.trans (XA0w.out.below ho8 (by have := B1.out.size; have := Zb.out; have := Z2.out; have := Z3.out; have := Z4.out; have := Z5.out; have := Z6.out; have := Z7.out; omega) B7.out.size)
    clear ho8
    have hk0 : ¬ ((((1 + mA0) : Nat) : Int) < 0) := by omega
    have qBGR00 := BGR0.out.cell 0 _ rfl
    have qBGR01 := BGR0.out.cell 1 _ rfl
    have qBGR02 := BGR0.out.cell 2 _ rfl
    have qBGR03 := BGR0.out.cell 3 _ rfl
    have qBWR00 := BWR0.out.cell 0 _ rfl
    have qBWR01 := BWR0.out.cell 1 _ rfl
    have qBWR02 := BWR0.out.cell 2 _ rfl
    have qBWR03 := BWR0.out.cell 3 _ rfl
    go_wp2_with fail
    refine (HeqR0.out _ _ _ _ _ _ _ ((GR0.out.below (by repeat (first | with_reducible exact Below.refl _ _ | with_reducible refine Below.alloc ?_ (by simp <;> omega) _ | with_reducible refine Below.drew ?_ | with_reducible refine below_drewN ?_ _))).hand GR0w.out.2) (WR0.out.below (by repeat (first | with_reducible exact Below.refl _ _ | with_reducible refine Below.alloc ?_ (by simp <;> omega) _ | with_reducible refine Below.drew ?_ | with_reducible refine below_drewN ?_ _)))).mono ?_
    rintro e w9 ⟨rfl, hb9⟩
    clear qBGR00 qBGR01 qBGR02 qBGR03 qBWR00 qBWR01 qBWR02 qBWR03
    have HB9 : Hid (Below w8.heap.size w8 w9) := Below.trans (by repeat (first | with_reducible exact Below.refl _ _ | with_reducible refine Below.alloc ?_ (by simp <;> omega) _ | with_reducible refine Below.drew ?_ | with_reducible refine below_drewN ?_ _)) (hb9.out.mono (by simp <;> omega))
    have Z9 : Hid (w8.heap.size + 0 ≤ w9.heap.size) := by have h := hb9.out.size; (try simp at h); show _ ≤ _; omega
    replace BXA0 := uhide (BXA0.out.below HB9.out)
    replace OXA0 := uhide (OXA0.out.below HB9.out)
    replace WR0 := uhide (WR0.out.below HB9.out)
    replace BWR0 := uhide (BWR0.out.below HB9.out)
    replace BYA0 := uhide (BYA0.out.below HB9.out)
    replace GR0 := uhide (GR0.out.below HB9.out)
    replace BGR0 := uhide (BGR0.out.below HB9.out)
    have B9 : Hid (Below w.heap.size w w9) := B8.out.trans (HB9.out.mono B8.out.size)
    clear hb9 HB9
    have qBGR00 := BGR0.out.cell 0 _ rfl
    have qBGR01 := BGR0.out.cell 1 _ rfl
    have qBGR02 := BGR0.out.cell 2 _ rfl
    have qBGR03 := BGR0.out.cell 3 _ rfl
    go_wp2_with fail
    refine (HmkR0.out _ _ _ _ _ _ GR0.out GR0w.out (by omega)).mono ?_
    rintro e w10 ⟨rfl, GMR0, ho10⟩
    clear qBGR00 qBGR01 qBGR02 qBGR03
    replace BXA0 := uhide (BXA0.out.outS ho10 (GR0w.out.not (by have := Zb.out; have := Z2.out; have := Z3.out; have := Z4.out; have := Z5.out; have := Z6.out; have := Z7.out; have := Z8.out; have := Z9.out; omega)))
    replace OXA0 := uhide (OXA0.out.out (GR0w.out.out ho10) (by have := Zb.out; have := Z2.out; have := Z3.out; have := Z4.out; have := Z5.out; have := Z6.out; have := Z7.out; have := Z8.out; have := Z9.out; omega))
    replace WR0 := uhide (WR0.out.out (GR0w.out.out ho10) (by have := Zb.out; have := Z2.out; have := Z3.out; have := Z4.out; have := Z5.out; have := Z6.out; have := Z7.out; have := Z8.out; have := Z9.out; omega))
    replace BWR0 := uhide (BWR0.out.outS ho10 (GR0w.out.not (by have := Zb.out; have := Z2.out; have := Z3.out; have := Z4.out; have := Z5.out; have := Z6.out; have := Z7.out; have := Z8.out; have := Z9.out; omega)))
    replace BYA0 := uhide (BYA0.out.outS ho10 (GR0w.out.not (by have := Zb.out; have := Z2.out; have := Z3.out; have := Z4.out; have := Z5.out; have := Z6.out; have := Z7.out; have := Z8.out; have := Z9.out; omega)))
    replace BGR0 := uhide (BGR0.out.outS ho10 (GR0w.out.not (by have := Zb.out; have := Z2.out; have := Z3.out; have := Z4.out; have := Z5.out; have := Z6.out; have := Z7.out; have := Z8.out; have := Z9.out; omega)))
    have Z10 : Hid (w9.heap.size + 0 ≤ w10.heap.size) := ho10.size
    have B10 : Hid (Below w.heap.size w w10) := B9.out.trans (GR0w.out.below ho10 (by have := B1.out.size; have := Zb.out; have := Z2.out; have := Z3.out; have := Z4.out; have := Z5.out; have := Z6.out; have := Z7.out; have := Z8.out; have := Z9.out; omega) B9.out.size)
    clear ho10
    replace GMR0 := uhide GMR0
    have GMR0w := GR0w
    have hq0 : ¬ ((((1 + mR0) : Nat) : Int) < 0) := by omega
    have hq1 : (((((1 + mR0) : Nat) : Int)) != ((((1 + mR0) : Nat) : Int))) = false := by simp
    have qBGR00 := BGR0.out.cell 0 _ rfl
    have qBGR01 := BGR0.out.cell 1 _ rfl
    have qBGR02 := BGR0.out.cell 2 _ rfl
    have qBGR03 := BGR0.out.cell 3 _ rfl
    go_wp2_with fail
    refine (HhdR0.out _ _ _ _ _ ((GMR0.out.below (by repeat (first | with_reducible exact Below.refl _ _ | with_reducible refine Below.alloc ?_ (by simp <;> omega) _ | with_reducible refine Below.drew ?_ | with_reducible refine below_drewN ?_ _))).hand GMR0w.out.2) (by omega)).mono ?_
    rintro e w11 ⟨rfl, hb11⟩
    clear qBGR00 qBGR01 qBGR02 qBGR03
    have HB11 : Hid (Below w10.heap.size w10 w11) := Below.trans (by repeat (first | with_reducible exact Below.refl _ _ | with_reducible refine Below.alloc ?_ (by simp <;> omega) _ | with_reducible refine Below.drew ?_ | with_reducible refine below_drewN ?_ _)) (hb11.out.mono (by simp <;> omega))
    have Z11 : Hid (w10.heap.size + 0 ≤ w11.heap.size) := by have h := hb11.out.size; (try simp at h); show _ ≤ _; omega
    replace BXA0 := uhide (BXA0.out.below HB11.out)
    replace OXA0 := uhide (OXA0.out.below HB11.out)
    replace WR0 := uhide (WR0.out.below HB11.out)
    replace BWR0 := uhide (BWR0.out.below HB11.out)
    replace BYA0 := uhide (BYA0.out.below HB11.out)
    replace BGR0 := uhide (BGR0.out.below HB11.out)
    replace GMR0 := uhide (GMR0.out.below HB11.out)
    have B11 : Hid (Below w.heap.size w w11) := B10.out.trans (HB11.out.mono B10.out.size)
    clear hb11 HB11
    have qBXA00 := BXA0.out.cell 0 _ rfl
    have qBXA01 := BXA0.out.cell 1 _ rfl
    have qBXA02 := BXA0.out.cell 2 _ rfl
    have qBXA03 := BXA0.out.cell 3 _ rfl
    go_wp2_with fail
    refine (HtoA0.out _ (by repeat (first | with_reducible exact B11.out | with_reducible refine Below.alloc ?_ (by have := B11.out.size; (try simp) <;> omega) _ | with_reducible refine Below.drew ?_ | with_reducible refine below_drewN ?_ _))).mono ?_
    rintro e w12 ⟨a0A0u, p0A0u, a1A0u, p1A0u, a2A0u, p2A0u, SUA0, rfl, UA0, UA0w, hb12⟩
    clear qBXA00 qBXA01 qBXA02 qBXA03
    have HB12 : Hid (Below w11.heap.size w11 w12) := Below.trans (by repeat (first | with_reducible exact Below.refl _ _ | with_reducible refine Below.alloc ?_ (by simp <;> omega) _ | with_reducible refine Below.drew ?_ | with_reducible refine below_drewN ?_ _)) (hb12.out.mono (by simp <;> omega))
    have Z12 : Hid (w11.heap.size + 0 ≤ w12.heap.size) := by have h := hb12.out.size; (try simp at h); show _ ≤ _; omega
    replace UA0w := uhide (UA0w.out.mono (a' := w11.heap.size + 0) (by (try simp) <;> omega) (Nat.le_refl _))
    replace BXA0 := uhide (BXA0.out.below HB12.out)
    replace OXA0 := uhide (OXA0.out.below HB12.out)
    replace WR0 := uhide (WR0.out.below HB12.out)
    replace BWR0 := uhide (BWR0.out.below HB12.out)
    replace BYA0 := uhide (BYA0.out.below HB12.out)
    replace BGR0 := uhide (BGR0.out.below HB12.out)
    replace GMR0 := uhide (GMR0.out.below HB12.out)
    have B12 : Hid (Below w.heap.size w w12) := B11.out.trans (HB12.out.mono B11.out.size)
    clear hb12 HB12
    go_wp2_with fail
    refine (HIQ.out _ _ _ _ ((UA0.out.below (by repeat (first | with_reducible exact Below.refl _ _ | with_reducible refine Below.alloc ?_ (by simp <;> omega) _ | with_reducible refine Below.drew ?_ | with_reducible refine below_drewN ?_ _))).hand UA0w.out.2)).mono ?_
    rintro e w13 ⟨a0R0h, p0R0h, a1R0h, p1R0h, a2R0h, p2R0h, SR0h, rfl, KR0, KR0w, hb13⟩
    have HB13 : Hid (Below w12.heap.size w12 w13) := Below.trans (by repeat (first | with_reducible exact Below.refl _ _ | with_reducible refine Below.alloc ?_ (by simp <;> omega) _ | with_reducible refine Below.drew ?_ | with_reducible refine below_drewN ?_ _)) (hb13.out.mono (by simp <;> omega))
    have Z13 : Hid (w12.heap.size + 0 ≤ w13.heap.size) := by have h := hb13.out.size; (try simp at h); show _ ≤ _; omega
    replace KR0w := uhide (KR0w.out.mono (a' := w12.heap.size + 0) (by (try simp) <;> omega) (Nat.le_refl _))
    replace BXA0 := uhide (BXA0.out.below HB13.out)
    replace OXA0 := uhide (OXA0.out.below HB13.out)
    replace WR0 := uhide (WR0.out.below HB13.out)
    replace BWR0 := uhide (BWR0.out.below HB13.out)
    replace BYA0 := uhide (BYA0.out.below HB13.out)
    replace BGR0 := uhide (BGR0.out.below HB13.out)
    replace GMR0 := uhide (GMR0.out.below HB13.out)
    replace UA0 := uhide (UA0.out.below HB13.out)
    have B13 : Hid (Below w.heap.size w w13) := B12.out.trans (HB13.out.mono B12.out.size)
    clear hb13 HB13
    simp only
    have qBWR00 := BWR0.out.cell 0 _ rfl
    have qBWR01 := BWR0.out.cell 1 _ rfl
    have qBWR02 := BWR0.out.cell 2 _ rfl
    have qBWR03 := BWR0.out.cell 3 _ rfl
    have qBWR0lt := BWR0.out.lt
    go_wp2_with fail
    refine (HeqR0.out _ _ _ _ _ _ _ ((KR0.out.below (by repeat (first | with_reducible exact Below.refl _ _ | with_reducible refine Below.alloc ?_ (by simp <;> omega) _ | with_reducible refine Below.drew ?_ | with_reducible refine below_drewN ?_ _))).hand KR0w.out.2) (WR0.out.below (by repeat (first | with_reducible exact Below.refl _ _ | with_reducible refine Below.alloc ?_ (by simp <;> omega) _ | with_reducible refine Below.drew ?_ | with_reducible refine below_drewN ?_ _)))).mono ?_
    rintro e w14 ⟨rfl, hb14⟩
    clear qBWR00 qBWR01 qBWR02 qBWR03 qBWR0lt
    have HB14 : Hid (Below w13.heap.size w13 w14) := Below.trans (by repeat (first | with_reducible exact Below.refl _ _ | with_reducible refine Below.alloc ?_ (by simp <;> omega) _ | with_reducible refine Below.drew ?_ | with_reducible refine below_drewN ?_ _)) (hb14.out.mono (by simp <;> omega))
    have BHR0 : Hid (objU w14 (w13.heap.size) 27 [.slice a0R0h n0R0 p0R0h, .slice a1R0h n1R0 p1R0h, .slice a2R0h n2R0 p2R0h, .int .i64 z3R0]) := objU.below (by repeat (first | with_reducible exact objU.new2 _ _ (by simp) | with_reducible refine objU.old ?_ _)) hb14.out
    have Z14 : Hid (w13.heap.size + 1 ≤ w14.heap.size) := by have h := hb14.out.size; (try simp at h); show _ ≤ _; omega
    replace BXA0 := uhide (BXA0.out.below HB14.out)
    replace OXA0 := uhide (OXA0.out.below HB14.out)
    replace WR0 := uhide (WR0.out.below HB14.out)
    replace BWR0 := uhide (BWR0.out.below HB14.out)
    replace BYA0 := uhide (BYA0.out.below HB14.out)
    replace BGR0 := uhide (BGR0.out.below HB14.out)
    replace GMR0 := uhide (GMR0.out.below HB14.out)
    replace UA0 := uhide (UA0.out.below HB14.out)
    replace KR0 := uhide (KR0.out.below HB14.out)
    have B14 : Hid (Below w.heap.size w w14) := B13.out.trans (HB14.out.mono B13.out.size)
    clear hb14 HB14
    have qBGR00 := BGR0.out.cell 0 _ rfl
    have qBGR01 := BGR0.out.cell 1 _ rfl
    have qBGR02 := BGR0.out.cell 2 _ rfl
    have qBGR03 := BGR0.out.cell 3 _ rfl
    go_wp2_with fail
    refine (HhdR0.out _ _ _ _ _ ((GMR0.out.below (by repeat (first | with_reducible exact Below.refl _ _ | with_reducible refine Below.alloc ?_ (by simp <;> omega) _ | with_reducible refine Below.drew ?_ | with_reducible refine below_drewN ?_ _))).hand GMR0w.out.2) (by omega)).mono ?_
    rintro e w15 ⟨rfl, hb15⟩
    clear qBGR00 qBGR01 qBGR02 qBGR03
    have HB15 : Hid (Below w14.heap.size w14 w15) := Below.trans (by repeat (first | with_reducible exact Below.refl _ _ | with_reducible refine Below.alloc ?_ (by simp <;> omega) _ | with_reducible refine Below.drew ?_ | with_reducible refine below_drewN ?_ _)) (hb15.out.mono (by simp <;> omega))
    have Z15 : Hid (w14.heap.size + 0 ≤ w15.heap.size) := by have h := hb15.out.size; (try simp at h); show _ ≤ _; omega
    replace BXA0 := uhide (BXA0.out.below HB15.out)
    replace OXA0 := uhide (OXA0.out.below HB15.out)
    replace WR0 := uhide (WR0.out.below HB15.out)
    replace BWR0 := uhide (BWR0.out.below HB15.out)
    replace BYA0 := uhide (BYA0.out.below HB15.out)
    replace BGR0 := uhide (BGR0.out.below HB15.out)
    replace GMR0 := uhide (GMR0.out.below HB15.out)
    replace UA0 := uhide (UA0.out.below HB15.out)
    replace KR0 := uhide (KR0.out.below HB15.out)
    replace BHR0 := uhide (BHR0.out.below HB15.out)
    have B15 : Hid (Below w.heap.size w w15) := B14.out.trans (HB15.out.mono B14.out.size)
    clear hb15 HB15
    go_wp2
    go_ret
    exact ⟨rfl, by repeat (first | with_reducible exact B15.out | with_reducible refine Below.drew ?_ | with_reducible refine below_drewN ?_ _)⟩)
set_option maxRecDepth 100000 in
theorem lifted (os : Os) (started : os.Started) (H : Type) (enc : TypeId × Value → H) :
    ReturnsInHanded {} Try.checked os 8 .any (Rows.fnExactDoneSpec.pre6 enc Try.prog Try.f8 Rows.fnExactDoneRow.domain false) (Rows.fnExactDoneSpec.post enc Try.prog Try.f8 false true false false) := by
  refine returnsInHanded_of_change (C := Try.checked) own started (by kernel_rfl) Try.func8
    (ChangeSpec.witness6 (enc := enc) (C := Try.checked) false ⟨#[], #[.agg #[.slice none 0 0, .slice none 0 0, .slice none 0 0, .int .i64 0], .string ByteArray.empty, .bool false], []⟩ 12 (by kernel_rfl) (by kernel_rfl) (by kernel_rfl) (by kernel_rfl)) ?_
  intro W base args ds gs before hval0 hW hcnd _
  have hval : ∀ (j : Nat) t v, Try.f8.params[j]? = some t → args[j]? = some v → Value.okWide Try.prog W .any base t v := hval0
  have hW' := hW
  obtain ⟨p, q, hA0, hV, rfl, hfz, hnd⟩ := hW
  have hA : DataW.TrodAll enc Try.prog W 0 (fun _ => true) true Try.f8.params.toList args.toList ds p := hA0
  rw [Try.params8] at hA hval
  obtain ⟨v0, vs0, d0, ds0, p0, q0, hargs, rfl, rfl, h0, r0⟩ := trodAll_cons hA
  obtain ⟨v1, vs1, d1, ds1, p1, q1, rfl, rfl, rfl, h1, r1⟩ := trodAll_cons r0
  obtain ⟨v2, vs2, d2, ds2, p2, q2, rfl, rfl, rfl, h2, r2⟩ := trodAll_cons r1
  obtain ⟨rfl, rfl, rfl⟩ := trodAll_nil r2
  obtain rfl : args = #[v0, v1, v2] := by cases args; simp_all
  obtain ⟨rfl, rfl⟩ := trodVars_none hV
  obtain ⟨cs0, rfl, hsz0⟩ := okWide_struct Try.underlying43 (hval 0 43 v0 rfl rfl)
  have k0 := h0
  have lt0 : ∀ x ∈ p0, x.block < W.heap.size := by obtain ⟨m, hm⟩ := k0; exact DataW.trod_lt m _ _ _ hm
  obtain ⟨fuel0, hf0⟩ := h0
  obtain ⟨xs0, rfl⟩ : ∃ xs : List Value, cs0 = xs.toArray := ⟨cs0.toList, by simp⟩
  have hl0 : xs0.length = (uE 13).length := (show xs0.length = xs0.toArray.size by simp).trans (hsz0.trans (show Try.prog.cellsOf 43 = (uE 13).length by kernel_rfl))
  obtain ⟨dd0, hd0, hh0⟩ := openU (enc := enc) flatU fuel0 _ _ flatQueue xs0 _ hl0 (by simpa [Value.cells] using hf0)
  obtain ⟨s1, rfl, rfl, rfl, w1⟩ := open_string Try.underlying9 (hval 1 9 v1 rfl rfl) h1
  obtain ⟨t2, rfl, rfl, rfl⟩ := open_bool Try.underlying4 (hval 2 4 v2 rfl rfl) h2
  clear hA0 hval0
  refine (walk dd0 xs0 s1 t2 W hd0 hh0 w1).mono fun e W' ⟨he, bel⟩ => ?_
  subst he
  exact ⟨_, rfl, _, _, _, [], _, [], hW', trodAll_mk1 (shut_bool Try.underlying4 _), (trodAll_cons_mk (Below.trod laidOut (by kernel_rfl) (of_decide_eq_true (by kernel_rfl)) k0 bel lt0) (trodAll_cons_mk (shut_string Try.underlying9 w1) (trodAll_cons_mk (shut_bool Try.underlying4 _) trodAll_mk0))), rfl, bel.frame _, fun h => by cases h⟩
end LDone
theorem done_holds : Rows.FnExactDoneSaid :=
  OpenClaim.holds_of_wide 8 Try.f8 rfl rfl rfl rfl rfl rfl rfl ⟨rfl, rfl, rfl, rfl, rfl⟩ rfl rfl rfl rfl rfl (by kernel_rfl) Try.func8 (by kernel_rfl)
    (of_decide_eq_true (by kernel_rfl)) (by unfold Func.isWrapper; first | (rw [if_pos (by decide +kernel)]; kernel_rfl) | (rw [if_neg (by decide +kernel)]; exact ⟨rfl, rfl⟩))
    (fun os started H enc _ => LDone.lifted os started H enc)
#print axioms done_holds
end Go.Proofs.Ytldabidmacghgaa
