/- FnExactEligible holds: at every want and island impl.Eligible answers what spec.Eligible answers. No conditions. -/
import Derived.Test.YtdnodaoeflbfkaaRows
import Derived.Test.YtdnodaoeflbfkaaFbEl
import Derived.Test.YtdnodaoeflbfkaaUTWant
import Derived.Test.YtdnodaoeflbfkaaUTIsland
import Derived.Test.YtdnodaoeflbfkaaU3
import Derived.WalkKit
import Derived.ProofKit
import Derived.OpenShut
import Derived.ShutString
import Derived.ChangeOld
import Derived.Below
namespace Go.Proofs.Ytdnodaoeflbfkaa
open Go.ChangeShapes Go.WideShapes Go.ChangeAt Go.RowKit Go.BigFrame
open Go.ChangeMaps (open_string shut_string)
set_option linter.unusedVariables false
namespace LEligible
theorem laidOut : laidOutB Try.prog = true := by kernel_rfl
theorem own : ownKnob Try.prog.godebug = none := by kernel_rfl
def TYU : Nat → TypeId
  | 5 => 195
  | 0 => 9
  | 15 => 197
  | 4 => 210
  | _ => 0
def GU (n : Nat) : Prop := n = 5 ∨ n = 0 ∨ n = 15 ∨ n = 4
theorem flatWant : Flat Try.prog TYU GU 35 (uE 16) := by
  refine Flat.struct [[.i .i64], [.l 3 5], [.l 1 0], [.l 2 15]] Try.underlying35 rfl (fun i f s hf hs => ?_) (fun i f s hf hs => ?_)
  · match i, hf, hs with
    | 0, hf, hs => cases hf; cases hs; exact (Flat.i64 Try.underlying3)
    | 1, hf, hs => cases hf; cases hs; exact (Flat.slice 5 Try.underlying32 (by simp [GU]) (by kernel_rfl) (by decide))
    | 2, hf, hs => cases hf; cases hs; exact (Flat.slice 0 Try.underlying25 (by simp [GU]) (by kernel_rfl) (by decide))
    | 3, hf, hs => cases hf; cases hs; exact (Flat.slice 15 Try.underlying33 (by simp [GU]) (by kernel_rfl) (by decide))
    | i + 4, hf, hs => simp at hs
  · match i, hf, hs with
    | 0, hf, hs => cases hf; cases hs; exact ⟨by kernel_rfl, rfl⟩
    | 1, hf, hs => cases hf; cases hs; exact ⟨by kernel_rfl, rfl⟩
    | 2, hf, hs => cases hf; cases hs; exact ⟨by kernel_rfl, rfl⟩
    | 3, hf, hs => cases hf; cases hs; exact ⟨by kernel_rfl, rfl⟩
    | i + 4, hf, hs => simp at hs
theorem flatIsland : Flat Try.prog TYU GU 49 (uE 14) := by
  refine Flat.struct [[.s], [.l 2 4], [.l 1 0], [.i .i64]] Try.underlying49 rfl (fun i f s hf hs => ?_) (fun i f s hf hs => ?_)
  · match i, hf, hs with
    | 0, hf, hs => cases hf; cases hs; exact (Flat.str Try.underlying9)
    | 1, hf, hs => cases hf; cases hs; exact (Flat.slice 4 Try.underlying47 (by simp [GU]) (by kernel_rfl) (by decide))
    | 2, hf, hs => cases hf; cases hs; exact (Flat.slice 0 Try.underlying25 (by simp [GU]) (by kernel_rfl) (by decide))
    | 3, hf, hs => cases hf; cases hs; exact (Flat.i64 Try.underlying3)
    | i + 4, hf, hs => simp at hs
  · match i, hf, hs with
    | 0, hf, hs => cases hf; cases hs; exact ⟨by kernel_rfl, rfl⟩
    | 1, hf, hs => cases hf; cases hs; exact ⟨by kernel_rfl, rfl⟩
    | 2, hf, hs => cases hf; cases hs; exact ⟨by kernel_rfl, rfl⟩
    | 3, hf, hs => cases hf; cases hs; exact ⟨by kernel_rfl, rfl⟩
    | i + 4, hf, hs => simp at hs
theorem flatTerm : Flat Try.prog TYU GU 195 (uE 5) := by
  refine Flat.struct [[.i .i64], [.s], [.l 1 0]] Try.underlying195 rfl (fun i f s hf hs => ?_) (fun i f s hf hs => ?_)
  · match i, hf, hs with
    | 0, hf, hs => cases hf; cases hs; exact (Flat.i64 Try.underlying3)
    | 1, hf, hs => cases hf; cases hs; exact (Flat.str Try.underlying9)
    | 2, hf, hs => cases hf; cases hs; exact (Flat.slice 0 Try.underlying25 (by simp [GU]) (by kernel_rfl) (by decide))
    | i + 3, hf, hs => simp at hs
  · match i, hf, hs with
    | 0, hf, hs => cases hf; cases hs; exact ⟨by kernel_rfl, rfl⟩
    | 1, hf, hs => cases hf; cases hs; exact ⟨by kernel_rfl, rfl⟩
    | 2, hf, hs => cases hf; cases hs; exact ⟨by kernel_rfl, rfl⟩
    | i + 3, hf, hs => simp at hs
theorem flatWeigh : Flat Try.prog TYU GU 197 (uE 15) := by
  refine Flat.struct [[.s], [.i .i64]] Try.underlying197 rfl (fun i f s hf hs => ?_) (fun i f s hf hs => ?_)
  · match i, hf, hs with
    | 0, hf, hs => cases hf; cases hs; exact (Flat.str Try.underlying9)
    | 1, hf, hs => cases hf; cases hs; exact (Flat.i64 Try.underlying3)
    | i + 2, hf, hs => simp at hs
  · match i, hf, hs with
    | 0, hf, hs => cases hf; cases hs; exact ⟨by kernel_rfl, rfl⟩
    | 1, hf, hs => cases hf; cases hs; exact ⟨by kernel_rfl, rfl⟩
    | i + 2, hf, hs => simp at hs
theorem flatLabel : Flat Try.prog TYU GU 210 (uE 4) := by
  refine Flat.struct [[.s], [.s]] Try.underlying210 rfl (fun i f s hf hs => ?_) (fun i f s hf hs => ?_)
  · match i, hf, hs with
    | 0, hf, hs => cases hf; cases hs; exact (Flat.str Try.underlying9)
    | 1, hf, hs => cases hf; cases hs; exact (Flat.str Try.underlying9)
    | i + 2, hf, hs => simp at hs
  · match i, hf, hs with
    | 0, hf, hs => cases hf; cases hs; exact ⟨by kernel_rfl, rfl⟩
    | 1, hf, hs => cases hf; cases hs; exact ⟨by kernel_rfl, rfl⟩
    | i + 2, hf, hs => simp at hs
theorem flatU : ∀ n, GU n → Flat Try.prog TYU GU (TYU n) (uE n) := by
  intro n h
  unfold GU at h
  rcases h with rfl | rfl | rfl | rfl
  · exact flatTerm
  · exact (Flat.str Try.underlying9)
  · exact flatWeigh
  · exact flatLabel
set_option maxRecDepth 20000 in
set_option maxHeartbeats 3200000 in
theorem walk (dA0 : UD) (xsA0 : List Value) (dA1 : UD) (xsA1 : List Value) (w : World) (htA0 : tyL dA0 (uE 16)) (hxA0 : uH w 0 w.heap.size dA0 xsA0) (htA1 : tyL dA1 (uE 14)) (hxA1 : uH w 0 w.heap.size dA1 xsA1) :
    Calls Try.prog 6 #[.agg xsA0.toArray, .agg xsA1.toArray] w fun e w' => e = .returned (.bool true) ∧ Below w.heap.size w w' := by
  obtain ⟨z0A0, n1A0, c1A0, n2A0, c2A0, n3A0, c3A0, hdA0, g0A0, g1A0, g2A0, g3A0⟩ := partsWant htA0
  have SHA0 : Hid (∀ (wx : World) (lo hi : Nat) (ys : List Value), uH wx lo hi dA0 ys → ∃ a1A0 p1A0 a2A0 p2A0 a3A0 p3A0, ys = [.int .i64 z0A0, .slice a1A0 n1A0 p1A0, .slice a2A0 n2A0 p2A0, .slice a3A0 n3A0 p3A0]) := by
    intro wx lo hi ys h
    rw [hdA0] at h
    obtain ⟨_, rfl, ⟨v1A0, _, rfl, s1, ⟨v2A0, _, rfl, s2, ⟨v3A0, _, rfl, s3, rfl⟩⟩⟩⟩ := h
    obtain ⟨a1A0, p1A0, rfl, t1A0⟩ := s1
    obtain ⟨a2A0, p2A0, rfl, t2A0⟩ := s2
    obtain ⟨a3A0, p3A0, rfl, t3A0⟩ := s3
    exact ⟨a1A0, p1A0, a2A0, p2A0, a3A0, p3A0, rfl⟩
  obtain ⟨a1A0, p1A0, a2A0, p2A0, a3A0, p3A0, rfl⟩ := SHA0.out w _ _ xsA0 hxA0
  have OXA0 : Hid (uH w 0 w.heap.size dA0 [.int .i64 z0A0, .slice a1A0 n1A0 p1A0, .slice a2A0 n2A0 p2A0, .slice a3A0 n3A0 p3A0]) := hxA0
  have HtA0 := uhide htA0
  clear hxA0 hdA0 g0A0 g1A0 g2A0 g3A0
  obtain ⟨z0A1, n1A1, c1A1, n2A1, c2A1, z3A1, hdA1, g0A1, g1A1, g2A1, g3A1⟩ := partsIsland htA1
  have SHA1 : Hid (∀ (wx : World) (lo hi : Nat) (ys : List Value), uH wx lo hi dA1 ys → ∃ a1A1 p1A1 a2A1 p2A1, ys = [.string z0A1, .slice a1A1 n1A1 p1A1, .slice a2A1 n2A1 p2A1, .int .i64 z3A1]) := by
    intro wx lo hi ys h
    rw [hdA1] at h
    obtain ⟨_, rfl, ⟨v1A1, _, rfl, s1, ⟨v2A1, _, rfl, s2, ⟨_, rfl, rfl⟩⟩⟩⟩ := h
    obtain ⟨a1A1, p1A1, rfl, t1A1⟩ := s1
    obtain ⟨a2A1, p2A1, rfl, t2A1⟩ := s2
    exact ⟨a1A1, p1A1, a2A1, p2A1, rfl⟩
  obtain ⟨a1A1, p1A1, a2A1, p2A1, rfl⟩ := SHA1.out w _ _ xsA1 hxA1
  have OXA1 : Hid (uH w 0 w.heap.size dA1 [.string z0A1, .slice a1A1 n1A1 p1A1, .slice a2A1 n2A1 p2A1, .int .i64 z3A1]) := hxA1
  have HtA1 := uhide htA1
  clear hxA1 hdA1 g0A1 g1A1 g2A1 g3A1
  obtain ⟨l1, hl1⟩ : ∃ l, leftI (1048576 : Int) (wt dA0) = l := ⟨_, rfl⟩
  have HsA0 : Hid (∀ wx, Below w.heap.size w wx → Calls Try.prog 16 #[.agg #[.int .i64 z0A0, .slice a1A0 n1A0 p1A0, .slice a2A0 n2A0 p2A0, .slice a3A0 n3A0 p3A0], .int .i64 1048576] wx fun e w' => e = .returned (.int .i64 l1) ∧ Hid (Below wx.heap.size wx w')) := fun wx hb => hl1 ▸ uszWant_any (lo := 0) (hi := w.heap.size) dA0 [.int .i64 z0A0, .slice a1A0 n1A0 p1A0, .slice a2A0 n2A0 p2A0, .slice a3A0 n3A0 p3A0] 1048576 wx HtA0.out (OXA0.out.below hb) (by decide) (by decide)
  have hle0 : l1 ≤ 1048576 := by rw [← hl1]; unfold leftI; split <;> omega
  by_cases hn0 : l1 < 0
  · go_enter Try.func6, Try.ntmps6
    go_wp2_with fail
    refine (HsA0.out _ (by repeat (first | with_reducible exact Below.refl _ _ | with_reducible refine Below.alloc ?_ (by simp <;> omega) _ | with_reducible refine Below.drew ?_ | with_reducible refine below_drewN ?_ _))).mono ?_
    rintro e w1 ⟨rfl, hb1⟩
    have HB1 : Hid (Below w.heap.size w w1) := Below.trans (by repeat (first | with_reducible exact Below.refl _ _ | with_reducible refine Below.alloc ?_ (by simp <;> omega) _ | with_reducible refine Below.drew ?_ | with_reducible refine below_drewN ?_ _)) (hb1.out.mono (by simp <;> omega))
    have BXA0_1 : Hid (objU w1 (w.heap.size) 35 [.int .i64 z0A0, .slice a1A0 n1A0 p1A0, .slice a2A0 n2A0 p2A0, .slice a3A0 n3A0 p3A0]) := objU.below (by repeat (first | with_reducible exact objU.new2 _ _ (by simp) | with_reducible refine objU.old ?_ _)) hb1.out
    have BXA1_1 : Hid (objU w1 (w.heap.size + 1) 49 [.string z0A1, .slice a1A1 n1A1 p1A1, .slice a2A1 n2A1 p2A1, .int .i64 z3A1]) := objU.below (by repeat (first | with_reducible exact objU.new2 _ _ (by simp) | with_reducible refine objU.old ?_ _)) hb1.out
    have B1 : Hid (Below w.heap.size w w1) := HB1
    clear hb1
    go_wp2
    go_ret
    exact ⟨rfl, B1.out⟩
  have Hw0 : Hid (l1 = 1048576 - ((wt dA0) : Nat)) := by show _ = _; rw [← hl1]; exact (leftI_pos 0 (by rw [hl1]; exact hn0)).2.1
  obtain ⟨l2, hl2⟩ : ∃ l, leftI l1 (wt dA1) = l := ⟨_, rfl⟩
  have HsA1 : Hid (∀ wx, Below w.heap.size w wx → Calls Try.prog 23 #[.agg #[.string z0A1, .slice a1A1 n1A1 p1A1, .slice a2A1 n2A1 p2A1, .int .i64 z3A1], .int .i64 l1] wx fun e w' => e = .returned (.int .i64 l2) ∧ Hid (Below wx.heap.size wx w')) := fun wx hb => hl2 ▸ uszIsland_any (lo := 0) (hi := w.heap.size) dA1 [.string z0A1, .slice a1A1 n1A1 p1A1, .slice a2A1 n2A1 p2A1, .int .i64 z3A1] l1 wx HtA1.out (OXA1.out.below hb) (by omega) (by omega)
  have hle1 : l2 ≤ 1048576 := by rw [← hl2]; unfold leftI; split <;> omega
  by_cases hn1 : l2 < 0
  · go_enter Try.func6, Try.ntmps6
    go_wp2_with fail
    refine (HsA0.out _ (by repeat (first | with_reducible exact Below.refl _ _ | with_reducible refine Below.alloc ?_ (by simp <;> omega) _ | with_reducible refine Below.drew ?_ | with_reducible refine below_drewN ?_ _))).mono ?_
    rintro e w1 ⟨rfl, hb1⟩
    have HB1 : Hid (Below w.heap.size w w1) := Below.trans (by repeat (first | with_reducible exact Below.refl _ _ | with_reducible refine Below.alloc ?_ (by simp <;> omega) _ | with_reducible refine Below.drew ?_ | with_reducible refine below_drewN ?_ _)) (hb1.out.mono (by simp <;> omega))
    have BXA0_1 : Hid (objU w1 (w.heap.size) 35 [.int .i64 z0A0, .slice a1A0 n1A0 p1A0, .slice a2A0 n2A0 p2A0, .slice a3A0 n3A0 p3A0]) := objU.below (by repeat (first | with_reducible exact objU.new2 _ _ (by simp) | with_reducible refine objU.old ?_ _)) hb1.out
    have BXA1_1 : Hid (objU w1 (w.heap.size + 1) 49 [.string z0A1, .slice a1A1 n1A1 p1A1, .slice a2A1 n2A1 p2A1, .int .i64 z3A1]) := objU.below (by repeat (first | with_reducible exact objU.new2 _ _ (by simp) | with_reducible refine objU.old ?_ _)) hb1.out
    have B1 : Hid (Below w.heap.size w w1) := HB1
    clear hb1
    have bx := BXA1_1.out
    have bx0 := bx.cell 0 _ rfl
    have bx1 := bx.cell 1 _ rfl
    have bx2 := bx.cell 2 _ rfl
    have bx3 := bx.cell 3 _ rfl
    clear bx
    go_wp2_with fail
    refine (HsA1.out _ (by repeat (first | with_reducible exact B1.out | with_reducible refine Below.alloc ?_ (by have := B1.out.size; (try simp) <;> omega) _ | with_reducible refine Below.drew ?_ | with_reducible refine below_drewN ?_ _))).mono ?_
    rintro e w2 ⟨rfl, hb2⟩
    clear bx0 bx1 bx2 bx3
    have HB2 : Hid (Below w1.heap.size w1 w2) := Below.trans (by repeat (first | with_reducible exact Below.refl _ _ | with_reducible refine Below.alloc ?_ (by simp <;> omega) _ | with_reducible refine Below.drew ?_ | with_reducible refine below_drewN ?_ _)) (hb2.out.mono (by simp <;> omega))
    have BXA0_2 := uhide (BXA0_1.out.below HB2.out)
    have BXA1_2 := uhide (BXA1_1.out.below HB2.out)
    have B2 : Hid (Below w.heap.size w w2) := B1.out.trans (HB2.out.mono B1.out.size)
    clear hb2
    go_wp2
    go_ret
    exact ⟨rfl, B2.out⟩
  have Hw1 : Hid (l2 = l1 - ((wt dA1) : Nat)) := by show _ = _; rw [← hl2]; exact (leftI_pos 0 (by rw [hl2]; exact hn1)).2.1
  have hw0 := Hw0.out
  have hw1 := Hw1.out
  obtain ⟨bR0, HSP, HIM⟩ := eligible_both dA0 dA1 HtA0.out HtA1.out (by omega)
  replace HSP := uhide HSP
  replace HIM := uhide HIM
  have HSQ : Hid (∀ (wx : World) (loA0 hiA0 : Nat) (xsA0 : List Value) (loA1 hiA1 : Nat) (xsA1 : List Value), uH wx loA0 hiA0 dA0 xsA0 → uH wx loA1 hiA1 dA1 xsA1 → Calls Try.prog 24 #[.agg xsA0.toArray, .agg xsA1.toArray] wx fun e w' => e = .returned (.bool bR0) ∧ Hid (Below wx.heap.size wx w')) := fun wx loA0 hiA0 xsA0 loA1 hiA1 xsA1 hA0 hA1 => (HSP.out _ _ _ _ _ _ _ hA0 hA1).mono fun e w' ⟨h1, hb⟩ => by
    exact ⟨h1, hb⟩
  have HIQ : Hid (∀ (wx : World) (loA0 hiA0 : Nat) (xsA0 : List Value) (loA1 hiA1 : Nat) (xsA1 : List Value), uH wx loA0 hiA0 dA0 xsA0 → uH wx loA1 hiA1 dA1 xsA1 → Calls Try.prog 26 #[.agg xsA0.toArray, .agg xsA1.toArray] wx fun e w' => e = .returned (.bool bR0) ∧ Hid (Below wx.heap.size wx w')) := fun wx loA0 hiA0 xsA0 loA1 hiA1 xsA1 hA0 hA1 => (HIM.out _ _ _ _ _ _ _ hA0 hA1).mono fun e w' ⟨h1, hb⟩ => by
    exact ⟨h1, hb⟩
  clear HSP HIM
  have hctA0 : cntT dA0 ≤ 42000000 := by have := cntT_wt HtA0.out; omega
  have hctA1 : cntT dA1 ≤ 42000000 := by have := cntT_wt HtA1.out; omega
  have HtoA0 : Hid (∀ wx, Below w.heap.size w wx → Calls Try.prog 18 #[.agg #[.int .i64 z0A0, .slice a1A0 n1A0 p1A0, .slice a2A0 n2A0 p2A0, .slice a3A0 n3A0 p3A0]] wx fun e w' => ∃ a1rA0 p1rA0 a2rA0 p2rA0 a3rA0 p3rA0 S, e = .returned (.agg #[.int .i64 z0A0, .slice a1rA0 n1A0 p1rA0, .slice a2rA0 n2A0 p2rA0, .slice a3rA0 n3A0 p3rA0]) ∧ Hid (oH w' dA0 [.int .i64 z0A0, .slice a1rA0 n1A0 p1rA0, .slice a2rA0 n2A0 p2rA0, .slice a3rA0 n3A0 p3rA0] S) ∧ Hid (own2 S wx.heap.size w'.heap.size) ∧ Hid (Below wx.heap.size wx w')) := fun wx hb => (utoWant_any (lo := 0) (hi := w.heap.size) dA0 [.int .i64 z0A0, .slice a1A0 n1A0 p1A0, .slice a2A0 n2A0 p2A0, .slice a3A0 n3A0 p3A0] wx HtA0.out (by omega) (OXA0.out.below hb)).mono fun e w' ⟨ys, S, h1, h2, h3, h4, h5⟩ => by
    have hO : own2 S wx.heap.size w'.heap.size := ⟨h3, fun s hs => ⟨h4 s hs, h2.lt _ _ _ s hs⟩⟩
    obtain ⟨a1A0, p1A0, a2A0, p2A0, a3A0, p3A0, rfl⟩ := SHA0.out w' _ _ ys (h2.hand hO.2)
    exact ⟨a1A0, p1A0, a2A0, p2A0, a3A0, p3A0, S, h1, h2, hO, h5⟩
  have HtoA1 : Hid (∀ wx, Below w.heap.size w wx → Calls Try.prog 25 #[.agg #[.string z0A1, .slice a1A1 n1A1 p1A1, .slice a2A1 n2A1 p2A1, .int .i64 z3A1]] wx fun e w' => ∃ a1rA1 p1rA1 a2rA1 p2rA1 S, e = .returned (.agg #[.string z0A1, .slice a1rA1 n1A1 p1rA1, .slice a2rA1 n2A1 p2rA1, .int .i64 z3A1]) ∧ Hid (oH w' dA1 [.string z0A1, .slice a1rA1 n1A1 p1rA1, .slice a2rA1 n2A1 p2rA1, .int .i64 z3A1] S) ∧ Hid (own2 S wx.heap.size w'.heap.size) ∧ Hid (Below wx.heap.size wx w')) := fun wx hb => (utoIsland_any (lo := 0) (hi := w.heap.size) dA1 [.string z0A1, .slice a1A1 n1A1 p1A1, .slice a2A1 n2A1 p2A1, .int .i64 z3A1] wx HtA1.out (by omega) (OXA1.out.below hb)).mono fun e w' ⟨ys, S, h1, h2, h3, h4, h5⟩ => by
    have hO : own2 S wx.heap.size w'.heap.size := ⟨h3, fun s hs => ⟨h4 s hs, h2.lt _ _ _ s hs⟩⟩
    obtain ⟨a1A1, p1A1, a2A1, p2A1, rfl⟩ := SHA1.out w' _ _ ys (h2.hand hO.2)
    exact ⟨a1A1, p1A1, a2A1, p2A1, S, h1, h2, hO, h5⟩
  have HeqA0 : Hid (∀ (wx : World) (lo hi lo' hi' : Nat) (ys ys' : List Value), uH wx lo hi dA0 ys → uH wx lo' hi' dA0 ys' → Calls Try.prog 20 #[.agg ys.toArray, .agg ys'.toArray] wx fun e w' => e = .returned (.bool true) ∧ Hid (Below wx.heap.size wx w')) := fun wx lo hi lo' hi' ys ys' h1 h2 => ueqWant_any (lo := lo) (hi := hi) (lo' := lo') (hi' := hi') _ _ _ wx HtA0.out h1 h2
  have HeqA1 : Hid (∀ (wx : World) (lo hi lo' hi' : Nat) (ys ys' : List Value), uH wx lo hi dA1 ys → uH wx lo' hi' dA1 ys' → Calls Try.prog 27 #[.agg ys.toArray, .agg ys'.toArray] wx fun e w' => e = .returned (.bool true) ∧ Hid (Below wx.heap.size wx w')) := fun wx lo hi lo' hi' ys ys' h1 h2 => ueqIsland_any (lo := lo) (hi := hi) (lo' := lo') (hi' := hi') _ _ _ wx HtA1.out h1 h2
  clear hw0 hw1 hle0 hle1 hl1 hl2 htA0 htA1
  have hqR0 : (bR0 != bR0) = false := by simp
  go_enter Try.func6, Try.ntmps6
  go_wp2_with fail
  refine (HsA0.out _ (by repeat (first | with_reducible exact Below.refl _ _ | with_reducible refine Below.alloc ?_ (by simp <;> omega) _ | with_reducible refine Below.drew ?_ | with_reducible refine below_drewN ?_ _))).mono ?_
  rintro e w1 ⟨rfl, hb1⟩
  have HB1 : Hid (Below w.heap.size w w1) := Below.trans (by repeat (first | with_reducible exact Below.refl _ _ | with_reducible refine Below.alloc ?_ (by simp <;> omega) _ | with_reducible refine Below.drew ?_ | with_reducible refine below_drewN ?_ _)) (hb1.out.mono (by simp <;> omega))
  have BXA0_1 : Hid (objU w1 (w.heap.size) 35 [.int .i64 z0A0, .slice a1A0 n1A0 p1A0, .slice a2A0 n2A0 p2A0, .slice a3A0 n3A0 p3A0]) := objU.below (by repeat (first | with_reducible exact objU.new2 _ _ (by simp) | with_reducible refine objU.old ?_ _)) hb1.out
  have BXA1_1 : Hid (objU w1 (w.heap.size + 1) 49 [.string z0A1, .slice a1A1 n1A1 p1A1, .slice a2A1 n2A1 p2A1, .int .i64 z3A1]) := objU.below (by repeat (first | with_reducible exact objU.new2 _ _ (by simp) | with_reducible refine objU.old ?_ _)) hb1.out
  have B1 : Hid (Below w.heap.size w w1) := HB1
  clear hb1
  have bx := BXA1_1.out
  have bx0 := bx.cell 0 _ rfl
  have bx1 := bx.cell 1 _ rfl
  have bx2 := bx.cell 2 _ rfl
  have bx3 := bx.cell 3 _ rfl
  clear bx
  go_wp2_with fail
  refine (HsA1.out _ (by repeat (first | with_reducible exact B1.out | with_reducible refine Below.alloc ?_ (by have := B1.out.size; (try simp) <;> omega) _ | with_reducible refine Below.drew ?_ | with_reducible refine below_drewN ?_ _))).mono ?_
  rintro e w2 ⟨rfl, hb2⟩
  clear bx0 bx1 bx2 bx3
  have HB2 : Hid (Below w1.heap.size w1 w2) := Below.trans (by repeat (first | with_reducible exact Below.refl _ _ | with_reducible refine Below.alloc ?_ (by simp <;> omega) _ | with_reducible refine Below.drew ?_ | with_reducible refine below_drewN ?_ _)) (hb2.out.mono (by simp <;> omega))
  have BXA0_2 := uhide (BXA0_1.out.below HB2.out)
  have BXA1_2 := uhide (BXA1_1.out.below HB2.out)
  have B2 : Hid (Below w.heap.size w w2) := B1.out.trans (HB2.out.mono B1.out.size)
  clear hb2
  have BXA0 := BXA0_2
  have BXA1 := BXA1_2
  clear BXA0_1 BXA0_2 BXA1_1 BXA1_2
  replace OXA0 := uhide (OXA0.out.below B2.out)
  replace OXA1 := uhide (OXA1.out.below B2.out)
  have Zb : Hid (w.heap.size + 2 ≤ w2.heap.size) := BXA1.out.lt
  have hb0d : Hid (Below w2.heap.size w2 w2) := Below.refl _ _
  have qBXA00 := BXA0.out.cell 0 _ rfl
  have qBXA01 := BXA0.out.cell 1 _ rfl
  have qBXA02 := BXA0.out.cell 2 _ rfl
  have qBXA03 := BXA0.out.cell 3 _ rfl
  have qBXA10 := BXA1.out.cell 0 _ rfl
  have qBXA11 := BXA1.out.cell 1 _ rfl
  have qBXA12 := BXA1.out.cell 2 _ rfl
  have qBXA13 := BXA1.out.cell 3 _ rfl
  have HtaA0 := HtoA0
  have HtaA1 := HtoA1
  go_wp2
  go_region_held3 (fun w' => w'.cell? ⟨w.heap.size, 0, none⟩ = some (.int .i64 z0A0) ∧ w'.cell? ⟨w.heap.size, 1, none⟩ = some (.slice a1A0 n1A0 p1A0) ∧ w'.cell? ⟨w.heap.size, 2, none⟩ = some (.slice a2A0 n2A0 p2A0) ∧ w'.cell? ⟨w.heap.size, 3, none⟩ = some (.slice a3A0 n3A0 p3A0) ∧ w'.cell? ⟨w.heap.size + 1, 0, none⟩ = some (.string z0A1) ∧ w'.cell? ⟨w.heap.size + 1, 1, none⟩ = some (.slice a1A1 n1A1 p1A1) ∧ w'.cell? ⟨w.heap.size + 1, 2, none⟩ = some (.slice a2A1 n2A1 p2A1) ∧ w'.cell? ⟨w.heap.size + 1, 3, none⟩ = some (.int .i64 z3A1)) (first | assumption | exact ⟨cBXA00, cBXA01, cBXA02, cBXA03, cBXA10, cBXA11, cBXA12, cBXA13⟩ | go_keep)
    (first
      | (go_at_call 18; refine (HtaA0.out _ (B2.out.trans (Below.mono (show Below w2.heap.size w2 _ from (by repeat (first | with_reducible exact hb0d.out | with_reducible refine Below.drew ?_ | with_reducible refine below_drewN ?_ _))) B2.out.size))).mono ?_; rintro e wt0 ⟨a1A0y, p1A0y, a2A0y, p2A0y, a3A0y, p3A0y, SYA0, rfl, YA0, YA0w, hc0⟩; have hb1d : Hid (Below w2.heap.size w2 wt0) := Below.trans (show Below w2.heap.size w2 _ from (by repeat (first | with_reducible exact hb0d.out | with_reducible refine Below.drew ?_ | with_reducible refine below_drewN ?_ _))) (hc0.out.mono (by (try simp) <;> first | done | exact hb0d.out.size | (have := hb0d.out.size; omega))); have ht0 : Hid (Below wt0.heap.size wt0 wt0) := Below.refl _ _; clear hc0 HtaA0; have cBXA00 := (BXA0.out.below hb1d.out).cell 0 _ rfl; have cBXA01 := (BXA0.out.below hb1d.out).cell 1 _ rfl; have cBXA02 := (BXA0.out.below hb1d.out).cell 2 _ rfl; have cBXA03 := (BXA0.out.below hb1d.out).cell 3 _ rfl; have cBXA10 := (BXA1.out.below hb1d.out).cell 0 _ rfl; have cBXA11 := (BXA1.out.below hb1d.out).cell 1 _ rfl; have cBXA12 := (BXA1.out.below hb1d.out).cell 2 _ rfl; have cBXA13 := (BXA1.out.below hb1d.out).cell 3 _ rfl)
      | (go_at_call 25; refine (HtaA1.out _ (B2.out.trans (Below.mono (show Below w2.heap.size w2 _ from (by repeat (first | with_reducible exact hb1d.out | with_reducible refine Below.drew ?_ | with_reducible refine below_drewN ?_ _))) B2.out.size))).mono ?_; rintro e wt1 ⟨a1A1y, p1A1y, a2A1y, p2A1y, SYA1, rfl, YA1, YA1w, hc1⟩; have hb2d : Hid (Below w2.heap.size w2 wt1) := Below.trans (show Below w2.heap.size w2 _ from (by repeat (first | with_reducible exact hb1d.out | with_reducible refine Below.drew ?_ | with_reducible refine below_drewN ?_ _))) (hc1.out.mono (by (try simp) <;> first | done | exact hb1d.out.size | (have := hb1d.out.size; omega))); have ht1 : Hid (Below wt1.heap.size wt1 wt1) := Below.refl _ _; replace ht0 : Hid (Below wt0.heap.size wt0 wt1) := Below.trans (show Below wt0.heap.size wt0 _ from (by repeat (first | with_reducible exact ht0.out | with_reducible refine Below.drew ?_ | with_reducible refine below_drewN ?_ _))) (hc1.out.mono (by (try simp) <;> first | done | exact ht0.out.size | (have := ht0.out.size; omega))); clear hc1 HtaA1; have cBXA00 := (BXA0.out.below hb2d.out).cell 0 _ rfl; have cBXA01 := (BXA0.out.below hb2d.out).cell 1 _ rfl; have cBXA02 := (BXA0.out.below hb2d.out).cell 2 _ rfl; have cBXA03 := (BXA0.out.below hb2d.out).cell 3 _ rfl; have cBXA10 := (BXA1.out.below hb2d.out).cell 0 _ rfl; have cBXA11 := (BXA1.out.below hb2d.out).cell 1 _ rfl; have cBXA12 := (BXA1.out.below hb2d.out).cell 2 _ rfl; have cBXA13 := (BXA1.out.below hb2d.out).cell 3 _ rfl)
      | (go_at_call 24; refine (HSQ.out _ _ _ _ _ _ _ ((YA0.out.below (Below.mono (show Below wt0.heap.size wt0 _ from by repeat (first | with_reducible exact Below.refl _ _ | with_reducible exact ht0.out | with_reducible refine Below.drew ?_ | with_reducible refine below_drewN ?_ _)) (Nat.le_refl _))).hand YA0w.out.2) ((YA1.out.below (Below.mono (show Below wt1.heap.size wt1 _ from by repeat (first | with_reducible exact Below.refl _ _ | with_reducible exact ht1.out | with_reducible refine Below.drew ?_ | with_reducible refine below_drewN ?_ _)) (Nat.le_refl _))).hand YA1w.out.2)).mono ?_; rintro e w3 ⟨rfl, hc⟩; have hb3 : Hid (Below w2.heap.size w2 w3) := Below.trans (show Below w2.heap.size w2 _ from (by repeat (first | with_reducible exact hb2d.out | with_reducible refine Below.drew ?_ | with_reducible refine below_drewN ?_ _))) (hc.out.mono (by (try simp) <;> first | done | exact hb2d.out.size | (have := hb2d.out.size; omega))); clear hc; have cBXA00 := (BXA0.out.below hb3.out).cell 0 _ rfl; have cBXA01 := (BXA0.out.below hb3.out).cell 1 _ rfl; have cBXA02 := (BXA0.out.below hb3.out).cell 2 _ rfl; have cBXA03 := (BXA0.out.below hb3.out).cell 3 _ rfl; have cBXA10 := (BXA1.out.below hb3.out).cell 0 _ rfl; have cBXA11 := (BXA1.out.below hb3.out).cell 1 _ rfl; have cBXA12 := (BXA1.out.below hb3.out).cell 2 _ rfl; have cBXA13 := (BXA1.out.below hb3.out).cell 3 _ rfl))
  clear qBXA00 qBXA01 qBXA02 qBXA03 qBXA10 qBXA11 qBXA12 qBXA13 hb0d
  clear cBXA00 cBXA01 cBXA02 cBXA03 cBXA10 cBXA11 cBXA12 cBXA13
  have HB3 := hb3
  have Z3 : Hid (w2.heap.size + 0 ≤ w3.heap.size) := HB3.out.size
  replace BXA0 := uhide (BXA0.out.below HB3.out)
  replace BXA1 := uhide (BXA1.out.below HB3.out)
  replace OXA0 := uhide (OXA0.out.below HB3.out)
  replace OXA1 := uhide (OXA1.out.below HB3.out)
  have B3 : Hid (Below w.heap.size w w3) := B2.out.trans (HB3.out.mono B2.out.size)
  clear hb3 HB3
  have qBXA00 := BXA0.out.cell 0 _ rfl
  have qBXA01 := BXA0.out.cell 1 _ rfl
  have qBXA02 := BXA0.out.cell 2 _ rfl
  have qBXA03 := BXA0.out.cell 3 _ rfl
  go_wp2_with fail
  refine (HtoA0.out _ (by repeat (first | with_reducible exact B3.out | with_reducible refine Below.alloc ?_ (by have := B3.out.size; (try simp) <;> omega) _ | with_reducible refine Below.drew ?_ | with_reducible refine below_drewN ?_ _))).mono ?_
  rintro e w4 ⟨a1A0x, p1A0x, a2A0x, p2A0x, a3A0x, p3A0x, SXA0, rfl, XA0, XA0w, hb4⟩
  clear qBXA00 qBXA01 qBXA02 qBXA03
  have HB4 : Hid (Below w3.heap.size w3 w4) := Below.trans (by repeat (first | with_reducible exact Below.refl _ _ | with_reducible refine Below.alloc ?_ (by simp <;> omega) _ | with_reducible refine Below.drew ?_ | with_reducible refine below_drewN ?_ _)) (hb4.out.mono (by simp <;> omega))
  have Z4 : Hid (w3.heap.size + 0 ≤ w4.heap.size) := by have h := hb4.out.size; (try simp at h); show _ ≤ _; omega
  replace XA0w := uhide (XA0w.out.mono (a' := w3.heap.size + 0) (by (try simp) <;> omega) (Nat.le_refl _))
  replace BXA0 := uhide (BXA0.out.below HB4.out)
  replace BXA1 := uhide (BXA1.out.below HB4.out)
  replace OXA0 := uhide (OXA0.out.below HB4.out)
  replace OXA1 := uhide (OXA1.out.below HB4.out)
  have B4 : Hid (Below w.heap.size w w4) := B3.out.trans (HB4.out.mono B3.out.size)
  clear hb4 HB4
  have qBXA10 := BXA1.out.cell 0 _ rfl
  have qBXA11 := BXA1.out.cell 1 _ rfl
  have qBXA12 := BXA1.out.cell 2 _ rfl
  have qBXA13 := BXA1.out.cell 3 _ rfl
  have qBXA1lt := BXA1.out.lt
  go_wp2_with fail
  refine (HtoA1.out _ (by repeat (first | with_reducible exact B4.out | with_reducible refine Below.alloc ?_ (by have := B4.out.size; (try simp) <;> omega) _ | with_reducible refine Below.drew ?_ | with_reducible refine below_drewN ?_ _))).mono ?_
  rintro e w5 ⟨a1A1x, p1A1x, a2A1x, p2A1x, SXA1, rfl, XA1, XA1w, hb5⟩
  clear qBXA10 qBXA11 qBXA12 qBXA13 qBXA1lt
  have HB5 : Hid (Below w4.heap.size w4 w5) := Below.trans (by repeat (first | with_reducible exact Below.refl _ _ | with_reducible refine Below.alloc ?_ (by simp <;> omega) _ | with_reducible refine Below.drew ?_ | with_reducible refine below_drewN ?_ _)) (hb5.out.mono (by simp <;> omega))
  have BYA0 : Hid (objU w5 (w4.heap.size) 41 [.int .i64 z0A0, .slice a1A0x n1A0 p1A0x, .slice a2A0x n2A0 p2A0x, .slice a3A0x n3A0 p3A0x]) := objU.below (by repeat (first | with_reducible exact objU.new2 _ _ (by simp) | with_reducible refine objU.old ?_ _)) hb5.out
  have Z5 : Hid (w4.heap.size + 1 ≤ w5.heap.size) := by have h := hb5.out.size; (try simp at h); show _ ≤ _; omega
  replace XA1w := uhide (XA1w.out.mono (a' := w4.heap.size + 1) (by (try simp) <;> omega) (Nat.le_refl _))
  replace BXA0 := uhide (BXA0.out.below HB5.out)
  replace BXA1 := uhide (BXA1.out.below HB5.out)
  replace OXA0 := uhide (OXA0.out.below HB5.out)
  replace OXA1 := uhide (OXA1.out.below HB5.out)
  replace XA0 := uhide (XA0.out.below HB5.out)
  have B5 : Hid (Below w.heap.size w w5) := B4.out.trans (HB5.out.mono B4.out.size)
  clear hb5 HB5
  have qBYA00 := BYA0.out.cell 0 _ rfl
  have qBYA01 := BYA0.out.cell 1 _ rfl
  have qBYA02 := BYA0.out.cell 2 _ rfl
  have qBYA03 := BYA0.out.cell 3 _ rfl
  have qBYA0lt := BYA0.out.lt
  go_wp2_with fail
  refine (HIQ.out _ _ _ _ _ _ _ ((XA0.out.below (by repeat (first | with_reducible exact Below.refl _ _ | with_reducible refine Below.alloc ?_ (by simp <;> omega) _ | with_reducible refine Below.drew ?_ | with_reducible refine below_drewN ?_ _))).hand XA0w.out.2) ((XA1.out.below (by repeat (first | with_reducible exact Below.refl _ _ | with_reducible refine Below.alloc ?_ (by simp <;> omega) _ | with_reducible refine Below.drew ?_ | with_reducible refine below_drewN ?_ _))).hand XA1w.out.2)).mono ?_
  rintro e w6 ⟨rfl, hb6⟩
  clear qBYA00 qBYA01 qBYA02 qBYA03 qBYA0lt
  have HB6 : Hid (Below w5.heap.size w5 w6) := Below.trans (by repeat (first | with_reducible exact Below.refl _ _ | with_reducible refine Below.alloc ?_ (by simp <;> omega) _ | with_reducible refine Below.drew ?_ | with_reducible refine below_drewN ?_ _)) (hb6.out.mono (by simp <;> omega))
  have BYA1 : Hid (objU w6 (w5.heap.size) 54 [.string z0A1, .slice a1A1x n1A1 p1A1x, .slice a2A1x n2A1 p2A1x, .int .i64 z3A1]) := objU.below (by repeat (first | with_reducible exact objU.new2 _ _ (by simp) | with_reducible refine objU.old ?_ _)) hb6.out
  have Z6 : Hid (w5.heap.size + 1 ≤ w6.heap.size) := by have h := hb6.out.size; (try simp at h); show _ ≤ _; omega
  replace BXA0 := uhide (BXA0.out.below HB6.out)
  replace BXA1 := uhide (BXA1.out.below HB6.out)
  replace OXA0 := uhide (OXA0.out.below HB6.out)
  replace OXA1 := uhide (OXA1.out.below HB6.out)
  replace XA0 := uhide (XA0.out.below HB6.out)
  replace BYA0 := uhide (BYA0.out.below HB6.out)
  replace XA1 := uhide (XA1.out.below HB6.out)
  have B6 : Hid (Below w.heap.size w w6) := B5.out.trans (HB6.out.mono B5.out.size)
  clear hb6 HB6
  have qBYA00 := BYA0.out.cell 0 _ rfl
  have qBYA01 := BYA0.out.cell 1 _ rfl
  have qBYA02 := BYA0.out.cell 2 _ rfl
  have qBYA03 := BYA0.out.cell 3 _ rfl
  have qBXA00 := BXA0.out.cell 0 _ rfl
  have qBXA01 := BXA0.out.cell 1 _ rfl
  have qBXA02 := BXA0.out.cell 2 _ rfl
  have qBXA03 := BXA0.out.cell 3 _ rfl
  have RT : Hid (∀ wx, Below w6.heap.size w6 wx → Calls Try.prog 18 #[.agg #[.int .i64 z0A0, .slice a1A0 n1A0 p1A0, .slice a2A0 n2A0 p2A0, .slice a3A0 n3A0 p3A0]] wx fun e w' => ∃ a1rA0 p1rA0 a2rA0 p2rA0 a3rA0 p3rA0, e = .returned (.agg #[.int .i64 z0A0, .slice a1rA0 n1A0 p1rA0, .slice a2rA0 n2A0 p2rA0, .slice a3rA0 n3A0 p3rA0]) ∧ Hid (uH w' 0 w'.heap.size dA0 [.int .i64 z0A0, .slice a1rA0 n1A0 p1rA0, .slice a2rA0 n2A0 p2rA0, .slice a3rA0 n3A0 p3rA0]) ∧ Hid (Below w6.heap.size w6 w')) := fun wx hb => (HtoA0.out wx (B6.out.trans (hb.mono B6.out.size))).mono fun e w' ⟨a1rA0, p1rA0, a2rA0, p2rA0, a3rA0, p3rA0, S, h1, h2, h3, h4⟩ => ⟨a1rA0, p1rA0, a2rA0, p2rA0, a3rA0, p3rA0, h1, h2.out.hand (lo := 0) (hi := w'.heap.size) (fun g hg => ⟨Nat.zero_le _, (h3.out.2 g hg).2⟩), hb.trans (h4.out.mono hb.size)⟩
  have RE : Hid (∀ (wx : World) (ys : List Value) (lo hi : Nat), Below w6.heap.size w6 wx → uH wx lo hi dA0 ys → Calls Try.prog 20 #[.agg #[.int .i64 z0A0, .slice a1A0x n1A0 p1A0x, .slice a2A0x n2A0 p2A0x, .slice a3A0x n3A0 p3A0x], .agg ys.toArray] wx fun e w' => e = .returned (.bool true) ∧ Hid (Below w6.heap.size w6 w')) := fun wx ys lo hi hb h => (HeqA0.out wx _ _ lo hi _ ys ((XA0.out.below hb).hand XA0w.out.2) h).mono fun e w' h => ⟨h.1, hb.trans (h.2.out.mono hb.size)⟩
  have hb7r : Hid (Below w6.heap.size w6 w6) := Below.refl _ _
  go_wp2
  have hbr := hb7r
  go_region_with (first
    | (go_at_call 18; refine (RT.out _ (by repeat (first | with_reducible exact Below.refl _ _ | with_reducible exact hbr.out | with_reducible refine Below.drew ?_ | with_reducible refine below_drewN ?_ _))).mono ?_; rintro e wt ⟨a1A0t, p1A0t, a2A0t, p2A0t, a3A0t, p3A0t, rfl, XT, hbt⟩; replace hbr := hbt; have qBYA00r := (BYA0.out.below hbr.out).cell 0 _ rfl; have qBYA01r := (BYA0.out.below hbr.out).cell 1 _ rfl; have qBYA02r := (BYA0.out.below hbr.out).cell 2 _ rfl; have qBYA03r := (BYA0.out.below hbr.out).cell 3 _ rfl)
    | (go_at_call 20; refine (RE.out _ _ _ _ (by repeat (first | with_reducible exact Below.refl _ _ | with_reducible exact hbr.out | with_reducible refine Below.drew ?_ | with_reducible refine below_drewN ?_ _)) (by first | exact XT.out | exact XT.out.below (by repeat (first | with_reducible exact Below.refl _ _ | with_reducible refine Below.drew ?_ | with_reducible refine below_drewN ?_ _)))).mono ?_; rintro e w7 ⟨rfl, hb7⟩))
  all_goals (
    have HB7 := hb7
    have Z7 : Hid (w6.heap.size + 0 ≤ w7.heap.size) := HB7.out.size
    replace BXA0 := uhide (BXA0.out.below HB7.out)
    replace BXA1 := uhide (BXA1.out.below HB7.out)
    replace OXA0 := uhide (OXA0.out.below HB7.out)
    replace OXA1 := uhide (OXA1.out.below HB7.out)
    replace XA0 := uhide (XA0.out.below HB7.out)
    replace BYA0 := uhide (BYA0.out.below HB7.out)
    replace XA1 := uhide (XA1.out.below HB7.out)
    replace BYA1 := uhide (BYA1.out.below HB7.out)
    have B7 : Hid (Below w.heap.size w w7) := B6.out.trans (HB7.out.mono B6.out.size)
    clear hb7 HB7
    have qBYA10 := BYA1.out.cell 0 _ rfl
    have qBYA11 := BYA1.out.cell 1 _ rfl
    have qBYA12 := BYA1.out.cell 2 _ rfl
    have qBYA13 := BYA1.out.cell 3 _ rfl
    have qBXA10 := BXA1.out.cell 0 _ rfl
    have qBXA11 := BXA1.out.cell 1 _ rfl
    have qBXA12 := BXA1.out.cell 2 _ rfl
    have qBXA13 := BXA1.out.cell 3 _ rfl
    have RT : Hid (∀ wx, Below w7.heap.size w7 wx → Calls Try.prog 25 #[.agg #[.string z0A1, .slice a1A1 n1A1 p1A1, .slice a2A1 n2A1 p2A1, .int .i64 z3A1]] wx fun e w' => ∃ a1rA1 p1rA1 a2rA1 p2rA1, e = .returned (.agg #[.string z0A1, .slice a1rA1 n1A1 p1rA1, .slice a2rA1 n2A1 p2rA1, .int .i64 z3A1]) ∧ Hid (uH w' 0 w'.heap.size dA1 [.string z0A1, .slice a1rA1 n1A1 p1rA1, .slice a2rA1 n2A1 p2rA1, .int .i64 z3A1]) ∧ Hid (Below w7.heap.size w7 w')) := fun wx hb => (HtoA1.out wx (B7.out.trans (hb.mono B7.out.size))).mono fun e w' ⟨a1rA1, p1rA1, a2rA1, p2rA1, S, h1, h2, h3, h4⟩ => ⟨a1rA1, p1rA1, a2rA1, p2rA1, h1, h2.out.hand (lo := 0) (hi := w'.heap.size) (fun g hg => ⟨Nat.zero_le _, (h3.out.2 g hg).2⟩), hb.trans (h4.out.mono hb.size)⟩
    have RE : Hid (∀ (wx : World) (ys : List Value) (lo hi : Nat), Below w7.heap.size w7 wx → uH wx lo hi dA1 ys → Calls Try.prog 27 #[.agg #[.string z0A1, .slice a1A1x n1A1 p1A1x, .slice a2A1x n2A1 p2A1x, .int .i64 z3A1], .agg ys.toArray] wx fun e w' => e = .returned (.bool true) ∧ Hid (Below w7.heap.size w7 w')) := fun wx ys lo hi hb h => (HeqA1.out wx _ _ lo hi _ ys ((XA1.out.below hb).hand XA1w.out.2) h).mono fun e w' h => ⟨h.1, hb.trans (h.2.out.mono hb.size)⟩
    have hb8r : Hid (Below w7.heap.size w7 w7) := Below.refl _ _
    go_wp2
    have hbr := hb8r
    go_region_with (first
      | (go_at_call 25; refine (RT.out _ (by repeat (first | with_reducible exact Below.refl _ _ | with_reducible exact hbr.out | with_reducible refine Below.drew ?_ | with_reducible refine below_drewN ?_ _))).mono ?_; rintro e wt ⟨a1A1t, p1A1t, a2A1t, p2A1t, rfl, XT, hbt⟩; replace hbr := hbt; have qBYA10r := (BYA1.out.below hbr.out).cell 0 _ rfl; have qBYA11r := (BYA1.out.below hbr.out).cell 1 _ rfl; have qBYA12r := (BYA1.out.below hbr.out).cell 2 _ rfl; have qBYA13r := (BYA1.out.below hbr.out).cell 3 _ rfl)
      | (go_at_call 27; refine (RE.out _ _ _ _ (by repeat (first | with_reducible exact Below.refl _ _ | with_reducible exact hbr.out | with_reducible refine Below.drew ?_ | with_reducible refine below_drewN ?_ _)) (by first | exact XT.out | exact XT.out.below (by repeat (first | with_reducible exact Below.refl _ _ | with_reducible refine Below.drew ?_ | with_reducible refine below_drewN ?_ _)))).mono ?_; rintro e w8 ⟨rfl, hb8⟩))
    all_goals (
      have HB8 := hb8
      have Z8 : Hid (w7.heap.size + 0 ≤ w8.heap.size) := HB8.out.size
      replace BXA0 := uhide (BXA0.out.below HB8.out)
      replace BXA1 := uhide (BXA1.out.below HB8.out)
      replace OXA0 := uhide (OXA0.out.below HB8.out)
      replace OXA1 := uhide (OXA1.out.below HB8.out)
      replace XA0 := uhide (XA0.out.below HB8.out)
      replace BYA0 := uhide (BYA0.out.below HB8.out)
      replace XA1 := uhide (XA1.out.below HB8.out)
      replace BYA1 := uhide (BYA1.out.below HB8.out)
      have B8 : Hid (Below w.heap.size w w8) := B7.out.trans (HB8.out.mono B7.out.size)
      clear hb8 HB8
      go_wp2
      go_ret
      exact ⟨rfl, by repeat (first | with_reducible exact B8.out | with_reducible refine Below.drew ?_ | with_reducible refine below_drewN ?_ _)⟩))
set_option maxRecDepth 100000 in
theorem lifted (os : Os) (started : os.Started) (H : Type) (enc : TypeId × Value → H) :
    ReturnsInHanded {} Try.checked os 6 .any (Rows.fnExactEligibleSpec.pre6 enc Try.prog Try.f6 Rows.fnExactEligibleRow.domain false) (Rows.fnExactEligibleSpec.post enc Try.prog Try.f6 false true false false) := by
  refine returnsInHanded_of_change (C := Try.checked) own started (by kernel_rfl) Try.func6
    (ChangeSpec.witness6 (enc := enc) (C := Try.checked) false ⟨#[], #[.agg #[.int .i64 0, .slice none 0 0, .slice none 0 0, .slice none 0 0], .agg #[.string ByteArray.empty, .slice none 0 0, .slice none 0 0, .int .i64 0]], []⟩ 12 (by kernel_rfl) (by kernel_rfl) (by kernel_rfl) (by kernel_rfl)) ?_
  intro W base args ds gs before hval0 hW hcnd _
  have hval : ∀ (j : Nat) t v, Try.f6.params[j]? = some t → args[j]? = some v → Value.okWide Try.prog W .any base t v := hval0
  have hW' := hW
  obtain ⟨p, q, hA0, hV, rfl, hfz, hnd⟩ := hW
  have hA : DataW.TrodAll enc Try.prog W 0 (fun _ => true) true Try.f6.params.toList args.toList ds p := hA0
  rw [Try.params6] at hA hval
  obtain ⟨v0, vs0, d0, ds0, p0, q0, hargs, rfl, rfl, h0, r0⟩ := trodAll_cons hA
  obtain ⟨v1, vs1, d1, ds1, p1, q1, rfl, rfl, rfl, h1, r1⟩ := trodAll_cons r0
  obtain ⟨rfl, rfl, rfl⟩ := trodAll_nil r1
  obtain rfl : args = #[v0, v1] := by cases args; simp_all
  obtain ⟨rfl, rfl⟩ := trodVars_none hV
  obtain ⟨cs0, rfl, hsz0⟩ := okWide_struct Try.underlying35 (hval 0 35 v0 rfl rfl)
  have k0 := h0
  have lt0 : ∀ x ∈ p0, x.block < W.heap.size := by obtain ⟨m, hm⟩ := k0; exact DataW.trod_lt m _ _ _ hm
  obtain ⟨fuel0, hf0⟩ := h0
  obtain ⟨xs0, rfl⟩ : ∃ xs : List Value, cs0 = xs.toArray := ⟨cs0.toList, by simp⟩
  have hl0 : xs0.length = (uE 16).length := (show xs0.length = xs0.toArray.size by simp).trans (hsz0.trans (show Try.prog.cellsOf 35 = (uE 16).length by kernel_rfl))
  obtain ⟨dd0, hd0, hh0⟩ := openU (enc := enc) flatU fuel0 _ _ flatWant xs0 _ hl0 (by simpa [Value.cells] using hf0)
  obtain ⟨cs1, rfl, hsz1⟩ := okWide_struct Try.underlying49 (hval 1 49 v1 rfl rfl)
  have k1 := h1
  have lt1 : ∀ x ∈ p1, x.block < W.heap.size := by obtain ⟨m, hm⟩ := k1; exact DataW.trod_lt m _ _ _ hm
  obtain ⟨fuel1, hf1⟩ := h1
  obtain ⟨xs1, rfl⟩ : ∃ xs : List Value, cs1 = xs.toArray := ⟨cs1.toList, by simp⟩
  have hl1 : xs1.length = (uE 14).length := (show xs1.length = xs1.toArray.size by simp).trans (hsz1.trans (show Try.prog.cellsOf 49 = (uE 14).length by kernel_rfl))
  obtain ⟨dd1, hd1, hh1⟩ := openU (enc := enc) flatU fuel1 _ _ flatIsland xs1 _ hl1 (by simpa [Value.cells] using hf1)
  clear hA0 hval0
  refine (walk dd0 xs0 dd1 xs1 W hd0 hh0 hd1 hh1).mono fun e W' ⟨he, bel⟩ => ?_
  subst he
  exact ⟨_, rfl, _, _, _, [], _, [], hW', trodAll_mk1 (shut_bool Try.underlying4 _), (trodAll_cons_mk (Below.trod laidOut (by kernel_rfl) (of_decide_eq_true (by kernel_rfl)) k0 bel lt0) (trodAll_cons_mk (Below.trod laidOut (by kernel_rfl) (of_decide_eq_true (by kernel_rfl)) k1 bel lt1) trodAll_mk0)), rfl, bel.frame _, fun h => by cases h⟩
end LEligible
theorem eligible_holds : Rows.FnExactEligibleSaid :=
  OpenClaim.holds_of_wide 6 Try.f6 rfl rfl rfl rfl rfl rfl rfl ⟨rfl, rfl, rfl, rfl, rfl⟩ rfl rfl rfl rfl rfl (by kernel_rfl) Try.func6 (by kernel_rfl)
    (of_decide_eq_true (by kernel_rfl)) (by unfold Func.isWrapper; first | (rw [if_pos (by decide +kernel)]; kernel_rfl) | (rw [if_neg (by decide +kernel)]; exact ⟨rfl, rfl⟩))
    (fun os started H enc _ => LEligible.lifted os started H enc)
#print axioms eligible_holds
end Go.Proofs.Ytdnodaoeflbfkaa
