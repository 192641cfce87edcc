/- Texts of one claim, joined: each in its own section, in build order. -/
import Derived.Test.YtdnodaoeflbfkaaGreatRows
import Derived.Test.YtdnodaoeflbfkaaGreatJ6
import Derived.Test.YtdnodaoeflbfkaaGreatJ7
import Derived.Test.YtdnodaoeflbfkaaGreatJ1
import Derived.WalkKit
import Derived.ProofKit
import Derived.OpenShut
import Derived.ShutString
import Derived.ChangeOld
import Derived.Below
/- LShares: the walk and the row. -/
namespace Go.Proofs.YtdnodaoeflbfkaaGreat
open Go.ChangeShapes Go.WideShapes Go.ChangeAt Go.RowKit Go.BigFrame
open Go.ChangeMaps (open_string shut_string)
set_option linter.unusedVariables false
namespace LShares
theorem laidOut : laidOutB Tryz.prog = true := by kernel_rfl
theorem own : ownKnob Tryz.prog.godebug = none := by kernel_rfl
def TYU : Nat → TypeId
  | 5 => 177
  | 0 => 9
  | 15 => 180
  | 14 => 106
  | 4 => 241
  | 1 => 3
  | _ => 0
def GU (n : Nat) : Prop := n = 5 ∨ n = 0 ∨ n = 15 ∨ n = 14 ∨ n = 4 ∨ n = 1
theorem flatWant : Flat Tryz.prog TYU GU 26 (uE 16) := by
  refine Flat.struct [[.i .i64], [.l 3 5], [.l 1 0], [.l 2 15]] Tryz.underlying26 rfl (fun i f s hf hs => ?_) (fun i f s hf hs => ?_)
  · match i, hf, hs with
    | 0, hf, hs => cases hf; cases hs; exact (Flat.i64 Tryz.underlying3)
    | 1, hf, hs => cases hf; cases hs; exact (Flat.slice 5 Tryz.underlying22 (by simp [GU]) (by kernel_rfl) (by decide))
    | 2, hf, hs => cases hf; cases hs; exact (Flat.slice 0 Tryz.underlying23 (by simp [GU]) (by kernel_rfl) (by decide))
    | 3, hf, hs => cases hf; cases hs; exact (Flat.slice 15 Tryz.underlying24 (by simp [GU]) (by kernel_rfl) (by decide))
    | i + 4, hf, hs => simp at hs
  · match i, hf, hs with
    | 0, hf, hs => cases hf; cases hs; exact ⟨by kernel_rfl, rfl⟩
    | 1, hf, hs => cases hf; cases hs; exact ⟨by kernel_rfl, rfl⟩
    | 2, hf, hs => cases hf; cases hs; exact ⟨by kernel_rfl, rfl⟩
    | 3, hf, hs => cases hf; cases hs; exact ⟨by kernel_rfl, rfl⟩
    | i + 4, hf, hs => simp at hs
theorem flatTerm : Flat Tryz.prog TYU GU 177 (uE 5) := by
  refine Flat.struct [[.i .i64], [.s], [.l 1 0]] Tryz.underlying177 rfl (fun i f s hf hs => ?_) (fun i f s hf hs => ?_)
  · match i, hf, hs with
    | 0, hf, hs => cases hf; cases hs; exact (Flat.i64 Tryz.underlying3)
    | 1, hf, hs => cases hf; cases hs; exact (Flat.str Tryz.underlying9)
    | 2, hf, hs => cases hf; cases hs; exact (Flat.slice 0 Tryz.underlying23 (by simp [GU]) (by kernel_rfl) (by decide))
    | i + 3, hf, hs => simp at hs
  · match i, hf, hs with
    | 0, hf, hs => cases hf; cases hs; exact ⟨by kernel_rfl, rfl⟩
    | 1, hf, hs => cases hf; cases hs; exact ⟨by kernel_rfl, rfl⟩
    | 2, hf, hs => cases hf; cases hs; exact ⟨by kernel_rfl, rfl⟩
    | i + 3, hf, hs => simp at hs
theorem flatWeigh : Flat Tryz.prog TYU GU 180 (uE 15) := by
  refine Flat.struct [[.s], [.i .i64]] Tryz.underlying180 rfl (fun i f s hf hs => ?_) (fun i f s hf hs => ?_)
  · match i, hf, hs with
    | 0, hf, hs => cases hf; cases hs; exact (Flat.str Tryz.underlying9)
    | 1, hf, hs => cases hf; cases hs; exact (Flat.i64 Tryz.underlying3)
    | i + 2, hf, hs => simp at hs
  · match i, hf, hs with
    | 0, hf, hs => cases hf; cases hs; exact ⟨by kernel_rfl, rfl⟩
    | 1, hf, hs => cases hf; cases hs; exact ⟨by kernel_rfl, rfl⟩
    | i + 2, hf, hs => simp at hs
theorem flatIsland : Flat Tryz.prog TYU GU 106 (uE 14) := by
  refine Flat.struct [[.s], [.l 2 4], [.l 1 0], [.i .i64]] Tryz.underlying106 rfl (fun i f s hf hs => ?_) (fun i f s hf hs => ?_)
  · match i, hf, hs with
    | 0, hf, hs => cases hf; cases hs; exact (Flat.str Tryz.underlying9)
    | 1, hf, hs => cases hf; cases hs; exact (Flat.slice 4 Tryz.underlying104 (by simp [GU]) (by kernel_rfl) (by decide))
    | 2, hf, hs => cases hf; cases hs; exact (Flat.slice 0 Tryz.underlying23 (by simp [GU]) (by kernel_rfl) (by decide))
    | 3, hf, hs => cases hf; cases hs; exact (Flat.i64 Tryz.underlying3)
    | i + 4, hf, hs => simp at hs
  · match i, hf, hs with
    | 0, hf, hs => cases hf; cases hs; exact ⟨by kernel_rfl, rfl⟩
    | 1, hf, hs => cases hf; cases hs; exact ⟨by kernel_rfl, rfl⟩
    | 2, hf, hs => cases hf; cases hs; exact ⟨by kernel_rfl, rfl⟩
    | 3, hf, hs => cases hf; cases hs; exact ⟨by kernel_rfl, rfl⟩
    | i + 4, hf, hs => simp at hs
theorem flatLabel : Flat Tryz.prog TYU GU 241 (uE 4) := by
  refine Flat.struct [[.s], [.s]] Tryz.underlying241 rfl (fun i f s hf hs => ?_) (fun i f s hf hs => ?_)
  · match i, hf, hs with
    | 0, hf, hs => cases hf; cases hs; exact (Flat.str Tryz.underlying9)
    | 1, hf, hs => cases hf; cases hs; exact (Flat.str Tryz.underlying9)
    | i + 2, hf, hs => simp at hs
  · match i, hf, hs with
    | 0, hf, hs => cases hf; cases hs; exact ⟨by kernel_rfl, rfl⟩
    | 1, hf, hs => cases hf; cases hs; exact ⟨by kernel_rfl, rfl⟩
    | i + 2, hf, hs => simp at hs
theorem flatU : ∀ n, GU n → Flat Tryz.prog TYU GU (TYU n) (uE n) := by
  intro n h
  unfold GU at h
  rcases h with rfl | rfl | rfl | rfl | rfl | rfl
  · exact flatTerm
  · exact (Flat.str Tryz.underlying9)
  · exact flatWeigh
  · exact flatIsland
  · exact flatLabel
  · exact (Flat.i64 Tryz.underlying3)
set_option maxRecDepth 20000 in
set_option maxHeartbeats 3200000 in
theorem walk (dA0 : UD) (xsA0 : List Value) (nA1 : Nat) (csA1 : UD) (cA1 : Value) (nA2 : Nat) (csA2 : UD) (cA2 : Value) (w : World) (htA0 : tyL dA0 (uE 16)) (hxA0 : uH w 0 w.heap.size dA0 xsA0) (htA1 : tyS 4 nA1 csA1 14) (hxA1 : uS w 0 w.heap.size 4 nA1 csA1 cA1) (htA2 : tyS 1 nA2 csA2 1) (hxA2 : uS w 0 w.heap.size 1 nA2 csA2 cA2) :
    Calls Tryz.prog 3 #[.agg xsA0.toArray, cA1, cA2] w fun e w' => e = .returned (.bool true) ∧ Below w.heap.size w w' := by
  obtain ⟨z0A0, n1A0, c1A0, n2A0, c2A0, n3A0, c3A0, hdA0, g0A0, g1A0, g2A0, g3A0⟩ := partsWant htA0
  have SHA0 : Hid (∀ (wx : World) (lo hi : Nat) (ys : List Value), uH wx lo hi dA0 ys → ∃ a1A0 p1A0 a2A0 p2A0 a3A0 p3A0, ys = [.int .i64 z0A0, .slice a1A0 n1A0 p1A0, .slice a2A0 n2A0 p2A0, .slice a3A0 n3A0 p3A0]) := by
    intro wx lo hi ys h
    rw [hdA0] at h
    obtain ⟨_, rfl, ⟨v1A0, _, rfl, s1, ⟨v2A0, _, rfl, s2, ⟨v3A0, _, rfl, s3, rfl⟩⟩⟩⟩ := h
    obtain ⟨a1A0, p1A0, rfl, t1A0⟩ := s1
    obtain ⟨a2A0, p2A0, rfl, t2A0⟩ := s2
    obtain ⟨a3A0, p3A0, rfl, t3A0⟩ := s3
    exact ⟨a1A0, p1A0, a2A0, p2A0, a3A0, p3A0, rfl⟩
  obtain ⟨a1A0, p1A0, a2A0, p2A0, a3A0, p3A0, rfl⟩ := SHA0.out w _ _ xsA0 hxA0
  have OXA0 : Hid (uH w 0 w.heap.size dA0 [.int .i64 z0A0, .slice a1A0 n1A0 p1A0, .slice a2A0 n2A0 p2A0, .slice a3A0 n3A0 p3A0]) := hxA0
  have HtA0 := uhide htA0
  clear hxA0 hdA0 g0A0 g1A0 g2A0 g3A0
  obtain ⟨aA1, pA1, rfl, hx2A1⟩ := hxA1
  have OXA1 : Hid (uS w 0 w.heap.size 4 nA1 csA1 (.slice aA1 nA1 pA1)) := ⟨_, _, rfl, hx2A1⟩
  have HtA1 := uhide htA1
  clear hx2A1
  obtain ⟨aA2, pA2, rfl, hx2A2⟩ := hxA2
  have OXA2 : Hid (uS w 0 w.heap.size 1 nA2 csA2 (.slice aA2 nA2 pA2)) := ⟨_, _, rfl, hx2A2⟩
  have HtA2 := uhide htA2
  clear hx2A2
  by_cases hbA2 : (1048576 : Int) < (nA2 : Int)
  · go_enter Tryz.func3, Tryz.ntmps3
    go_wp2
    go_ret
    exact ⟨rfl, by repeat (first | exact Below.refl _ _ | refine Below.alloc ?_ (by simp <;> omega) _)⟩
  obtain ⟨l1, hl1⟩ : ∃ l, leftI (1048576 : Int) (wt dA0) = l := ⟨_, rfl⟩
  have HsA0 : Hid (∀ wx, Below w.heap.size w wx → Calls Tryz.prog 10 #[.agg #[.int .i64 z0A0, .slice a1A0 n1A0 p1A0, .slice a2A0 n2A0 p2A0, .slice a3A0 n3A0 p3A0], .int .i64 1048576] wx fun e w' => e = .returned (.int .i64 l1) ∧ Hid (Below wx.heap.size wx w')) := fun wx hb => hl1 ▸ uszWant_any (lo := 0) (hi := w.heap.size) dA0 [.int .i64 z0A0, .slice a1A0 n1A0 p1A0, .slice a2A0 n2A0 p2A0, .slice a3A0 n3A0 p3A0] 1048576 wx HtA0.out (OXA0.out.below hb) (by decide) (by decide)
  have hle0 : l1 ≤ 1048576 := by rw [← hl1]; unfold leftI; split <;> omega
  by_cases hn0 : l1 < 0
  · go_enter Tryz.func3, Tryz.ntmps3
    go_wp2_with fail
    refine (HsA0.out _ (by repeat (first | with_reducible exact Below.refl _ _ | with_reducible refine Below.alloc ?_ (by simp <;> omega) _ | with_reducible refine Below.drew ?_ | with_reducible refine below_drewN ?_ _))).mono ?_
    rintro e w1 ⟨rfl, hb1⟩
    have HB1 : Hid (Below w.heap.size w w1) := Below.trans (by repeat (first | with_reducible exact Below.refl _ _ | with_reducible refine Below.alloc ?_ (by simp <;> omega) _ | with_reducible refine Below.drew ?_ | with_reducible refine below_drewN ?_ _)) (hb1.out.mono (by simp <;> omega))
    have BXA0_1 : Hid (objU w1 (w.heap.size) 26 [.int .i64 z0A0, .slice a1A0 n1A0 p1A0, .slice a2A0 n2A0 p2A0, .slice a3A0 n3A0 p3A0]) := objU.below (by repeat (first | with_reducible exact objU.new2 _ _ (by simp) | with_reducible refine objU.old ?_ _)) hb1.out
    have B1 : Hid (Below w.heap.size w w1) := HB1
    clear hb1
    go_wp2
    go_ret
    exact ⟨rfl, B1.out⟩
  have Hw0 : Hid (l1 = 1048576 - ((wt dA0) : Nat)) := by show _ = _; rw [← hl1]; exact (leftI_pos 0 (by rw [hl1]; exact hn0)).2.1
  obtain ⟨l2, hl2⟩ : ∃ l, leftI l1 (nA1 + wt csA1) = l := ⟨_, rfl⟩
  have HsA1 : Hid (∀ wx, Below w.heap.size w wx → Calls Tryz.prog 11 #[.slice aA1 nA1 pA1, .int .i64 l1] wx fun e w' => e = .returned (.int .i64 l2) ∧ Hid (Below wx.heap.size wx w')) := fun wx hb => hl2 ▸ uszIslandS_any (lo := 0) (hi := w.heap.size) nA1 csA1 _ l1 wx HtA1.out (by omega) (by omega) (OXA1.out.below hb)
  have hle1 : l2 ≤ 1048576 := by rw [← hl2]; unfold leftI; split <;> omega
  by_cases hn1 : l2 < 0
  · go_enter Tryz.func3, Tryz.ntmps3
    go_wp2_with fail
    refine (HsA0.out _ (by repeat (first | with_reducible exact Below.refl _ _ | with_reducible refine Below.alloc ?_ (by simp <;> omega) _ | with_reducible refine Below.drew ?_ | with_reducible refine below_drewN ?_ _))).mono ?_
    rintro e w1 ⟨rfl, hb1⟩
    have HB1 : Hid (Below w.heap.size w w1) := Below.trans (by repeat (first | with_reducible exact Below.refl _ _ | with_reducible refine Below.alloc ?_ (by simp <;> omega) _ | with_reducible refine Below.drew ?_ | with_reducible refine below_drewN ?_ _)) (hb1.out.mono (by simp <;> omega))
    have BXA0_1 : Hid (objU w1 (w.heap.size) 26 [.int .i64 z0A0, .slice a1A0 n1A0 p1A0, .slice a2A0 n2A0 p2A0, .slice a3A0 n3A0 p3A0]) := objU.below (by repeat (first | with_reducible exact objU.new2 _ _ (by simp) | with_reducible refine objU.old ?_ _)) hb1.out
    have B1 : Hid (Below w.heap.size w w1) := HB1
    clear hb1
    go_wp2_with fail
    refine (HsA1.out _ (by repeat (first | with_reducible exact B1.out | with_reducible refine Below.alloc ?_ (by have := B1.out.size; (try simp) <;> omega) _ | with_reducible refine Below.drew ?_ | with_reducible refine below_drewN ?_ _))).mono ?_
    rintro e w2 ⟨rfl, hb2⟩
    have HB2 : Hid (Below w1.heap.size w1 w2) := Below.trans (by repeat (first | with_reducible exact Below.refl _ _ | with_reducible refine Below.alloc ?_ (by simp <;> omega) _ | with_reducible refine Below.drew ?_ | with_reducible refine below_drewN ?_ _)) (hb2.out.mono (by simp <;> omega))
    have BXA0_2 := uhide (BXA0_1.out.below HB2.out)
    have B2 : Hid (Below w.heap.size w w2) := B1.out.trans (HB2.out.mono B1.out.size)
    clear hb2
    go_wp2
    go_ret
    exact ⟨rfl, B2.out⟩
  have Hw1 : Hid (l2 = l1 - ((nA1 + wt csA1) : Nat)) := by show _ = _; rw [← hl2]; exact (leftI_pos 0 (by rw [hl2]; exact hn1)).2.1
  have hw0 := Hw0.out
  have hw1 := Hw1.out
  obtain ⟨nR0, csR0, hrR0, hcR0, HSP, HIM⟩ := shares_both dA0 nA1 csA1 nA2 csA2 HtA0.out HtA1.out HtA2.out (by omega) (by omega)
  replace HSP := uhide HSP
  replace HIM := uhide HIM
  have HrR0 := uhide hrR0
  clear hrR0
  have HSQ : Hid (∀ (wx : World) (loA0 hiA0 : Nat) (xsA0 : List Value) (loA1 hiA1 : Nat) (cA1 : Value) (loA2 hiA2 : Nat) (cA2 : Value), uH wx loA0 hiA0 dA0 xsA0 → uS wx loA1 hiA1 4 nA1 csA1 cA1 → uS wx loA2 hiA2 1 nA2 csA2 cA2 → Calls Tryz.prog 12 #[.agg xsA0.toArray, cA1, cA2] wx fun e w' => ∃ aR0 pR0, e = .returned (.slice aR0 nR0 pR0) ∧ Hid (uS w' 0 w'.heap.size 1 nR0 csR0 (.slice aR0 nR0 pR0)) ∧ Hid (Below wx.heap.size wx w')) := fun wx loA0 hiA0 xsA0 loA1 hiA1 cA1 loA2 hiA2 cA2 hA0 hA1 hA2 => (HSP.out _ _ _ _ _ _ _ _ _ _ hA0 hA1 hA2).mono fun e w' ⟨cR0, h1, kR0, hb⟩ => by
    obtain ⟨aR0, pR0, rfl⟩ := (show ∃ a p, cR0 = .slice a nR0 p from by obtain ⟨a, p, h, _⟩ := kR0; exact ⟨a, p, h⟩)
    exact ⟨aR0, pR0, h1, kR0, hb⟩
  have HIQ : Hid (∀ (wx : World) (loA0 hiA0 : Nat) (xsA0 : List Value) (loA1 hiA1 : Nat) (cA1 : Value) (loA2 hiA2 : Nat) (cA2 : Value), uH wx loA0 hiA0 dA0 xsA0 → uS wx loA1 hiA1 4 nA1 csA1 cA1 → uS wx loA2 hiA2 1 nA2 csA2 cA2 → Calls Tryz.prog 16 #[.agg xsA0.toArray, cA1, cA2] wx fun e w' => ∃ aR0 pR0 SR0, e = .returned (.slice aR0 nR0 pR0) ∧ Hid (oS w' 1 nR0 csR0 (.slice aR0 nR0 pR0) SR0) ∧ Hid (own2 SR0 wx.heap.size w'.heap.size) ∧ Hid (Below wx.heap.size wx w')) := fun wx loA0 hiA0 xsA0 loA1 hiA1 cA1 loA2 hiA2 cA2 hA0 hA1 hA2 => (HIM.out _ _ _ _ _ _ _ _ _ _ hA0 hA1 hA2).mono fun e w' ⟨cR0, SR0, h1, kR0, oR0, hb⟩ => by
    obtain ⟨aR0, pR0, rfl⟩ := kR0.slice
    exact ⟨aR0, pR0, SR0, h1, kR0, oR0, hb⟩
  clear HSP HIM
  have hctA0 : cntT dA0 ≤ 42000000 := by have := cntT_wt HtA0.out; omega
  have hctA1 : cnt csA1 ≤ 42000000 := by have := cnt_wt HtA1.out; omega
  have hctA2 : cnt csA2 ≤ 2000000 := by rw [cnt_int HtA2.out]; omega
  have hctR0 : cnt csR0 ≤ 50000000 := by exact hcR0
  have HtoA0 : Hid (∀ wx, Below w.heap.size w wx → Calls Tryz.prog 13 #[.agg #[.int .i64 z0A0, .slice a1A0 n1A0 p1A0, .slice a2A0 n2A0 p2A0, .slice a3A0 n3A0 p3A0]] wx fun e w' => ∃ a1rA0 p1rA0 a2rA0 p2rA0 a3rA0 p3rA0 S, e = .returned (.agg #[.int .i64 z0A0, .slice a1rA0 n1A0 p1rA0, .slice a2rA0 n2A0 p2rA0, .slice a3rA0 n3A0 p3rA0]) ∧ Hid (oH w' dA0 [.int .i64 z0A0, .slice a1rA0 n1A0 p1rA0, .slice a2rA0 n2A0 p2rA0, .slice a3rA0 n3A0 p3rA0] S) ∧ Hid (own2 S wx.heap.size w'.heap.size) ∧ Hid (Below wx.heap.size wx w')) := fun wx hb => (utoWant_any (lo := 0) (hi := w.heap.size) dA0 [.int .i64 z0A0, .slice a1A0 n1A0 p1A0, .slice a2A0 n2A0 p2A0, .slice a3A0 n3A0 p3A0] wx HtA0.out (by omega) (OXA0.out.below hb)).mono fun e w' ⟨ys, S, h1, h2, h3, h4, h5⟩ => by
    have hO : own2 S wx.heap.size w'.heap.size := ⟨h3, fun s hs => ⟨h4 s hs, h2.lt _ _ _ s hs⟩⟩
    obtain ⟨a1A0, p1A0, a2A0, p2A0, a3A0, p3A0, rfl⟩ := SHA0.out w' _ _ ys (h2.hand hO.2)
    exact ⟨a1A0, p1A0, a2A0, p2A0, a3A0, p3A0, S, h1, h2, hO, h5⟩
  have HtoA1 : Hid (∀ wx, Below w.heap.size w wx → Calls Tryz.prog 14 #[.slice aA1 nA1 pA1] wx fun e w' => ∃ aA1r pA1r S, e = .returned (.slice aA1r nA1 pA1r) ∧ Hid (oS w' 4 nA1 csA1 (.slice aA1r nA1 pA1r) S) ∧ Hid (own2 S wx.heap.size w'.heap.size) ∧ Hid (Below wx.heap.size wx w')) := fun wx hb => (utoIslandS_any (lo := 0) (hi := w.heap.size) nA1 csA1 _ wx HtA1.out (by omega) (OXA1.out.below hb)).mono fun e w' ⟨c, S, h1, h2, h3, h4, h5⟩ => by
    obtain ⟨a, p, rfl⟩ := h2.slice
    exact ⟨a, p, S, h1, h2, ⟨h3, fun s hs => ⟨h4 s hs, h2.lt s hs⟩⟩, h5⟩
  have HtoA2 : Hid (∀ wx, Below w.heap.size w wx → Calls Tryz.prog 15 #[.slice aA2 nA2 pA2] wx fun e w' => ∃ aA2r pA2r S, e = .returned (.slice aA2r nA2 pA2r) ∧ Hid (oS w' 1 nA2 csA2 (.slice aA2r nA2 pA2r) S) ∧ Hid (own2 S wx.heap.size w'.heap.size) ∧ Hid (Below wx.heap.size wx w')) := fun wx hb => (utoIntS_any (lo := 0) (hi := w.heap.size) nA2 csA2 _ wx HtA2.out (by omega) (OXA2.out.below hb)).mono fun e w' ⟨c, S, h1, h2, h3, h4, h5⟩ => by
    obtain ⟨a, p, rfl⟩ := h2.slice
    exact ⟨a, p, S, h1, h2, ⟨h3, fun s hs => ⟨h4 s hs, h2.lt s hs⟩⟩, h5⟩
  have HeqA0 : Hid (∀ (wx : World) (lo hi lo' hi' : Nat) (ys ys' : List Value), uH wx lo hi dA0 ys → uH wx lo' hi' dA0 ys' → Calls Tryz.prog 18 #[.agg ys.toArray, .agg ys'.toArray] wx fun e w' => e = .returned (.bool true) ∧ Hid (Below wx.heap.size wx w')) := fun wx lo hi lo' hi' ys ys' h1 h2 => ueqWant_any (lo := lo) (hi := hi) (lo' := lo') (hi' := hi') _ _ _ wx HtA0.out h1 h2
  have HeqA1 : Hid (∀ (wx : World) (lo hi lo' hi' : Nat) (y y' : Value), uS wx lo hi 4 nA1 csA1 y → uS wx lo' hi' 4 nA1 csA1 y' → Calls Tryz.prog 19 #[y, y'] wx fun e w' => e = .returned (.bool true) ∧ Hid (Below wx.heap.size wx w')) := fun wx lo hi lo' hi' y y' h1 h2 => ueqIslandS_any (lo := lo) (hi := hi) (lo' := lo') (hi' := hi') _ _ _ _ wx HtA1.out h1 h2
  have HeqA2 : Hid (∀ (wx : World) (lo hi lo' hi' : Nat) (y y' : Value), uS wx lo hi 1 nA2 csA2 y → uS wx lo' hi' 1 nA2 csA2 y' → Calls Tryz.prog 17 #[y, y'] wx fun e w' => e = .returned (.bool true) ∧ Hid (Below wx.heap.size wx w')) := fun wx lo hi lo' hi' y y' h1 h2 => ueqIntS_any (lo := lo) (hi := hi) (lo' := lo') (hi' := hi') _ _ _ _ wx HtA2.out h1 h2
  have HeqR0 : Hid (∀ (wx : World) (lo hi lo' hi' : Nat) (y y' : Value), uS wx lo hi 1 nR0 csR0 y → uS wx lo' hi' 1 nR0 csR0 y' → Calls Tryz.prog 17 #[y, y'] wx fun e w' => e = .returned (.bool true) ∧ Hid (Below wx.heap.size wx w')) := fun wx lo hi lo' hi' y y' h1 h2 => ueqIntS_any (lo := lo) (hi := hi) (lo' := lo') (hi' := hi') _ _ _ _ wx HrR0.out h1 h2
  have HmkA0 : Hid (∀ (wx : World) (ys : List Value) (S : List Nat) (x : Int) (lo hi : Nat), oH wx dA0 ys S → own2 S lo hi → x = ((1 : Nat) : Int) → Calls Tryz.prog 20 #[.agg ys.toArray, .int .i64 x] wx fun e w' => e = .returned (.int .i64 ((1 + cntT dA0) : Nat)) ∧ OutS S wx w') := fun wx y S x lo hi h hO hx => by
    rw [hx]
    exact (umarkWant_any dA0 1 _ S wx HtA0.out hO.1 (by omega) (by omega) h).mono fun e w' h => ⟨h.1, h.2.2⟩
  have HmkA1 : Hid (∀ (wx : World) (y : Value) (S : List Nat) (x : Int) (lo hi : Nat), oS wx 4 nA1 csA1 y S → own2 S lo hi → x = (((1 + cntT dA0) : Nat) : Int) → Calls Tryz.prog 21 #[y, .int .i64 x] wx fun e w' => e = .returned (.int .i64 (((1 + cntT dA0) + cnt csA1) : Nat)) ∧ OutS S wx w') := fun wx y S x lo hi h hO hx => by
    rw [hx]
    exact (umarkIslandS_any nA1 (1 + cntT dA0) csA1 _ S wx HtA1.out hO.1 (by omega) (by omega) h).mono fun e w' h => ⟨h.1, h.2.2⟩
  have HmkA2 : Hid (∀ (wx : World) (y : Value) (S : List Nat) (x : Int) (lo hi : Nat), oS wx 1 nA2 csA2 y S → own2 S lo hi → x = ((((1 + cntT dA0) + cnt csA1) : Nat) : Int) → Calls Tryz.prog 22 #[y, .int .i64 x] wx fun e w' => e = .returned (.int .i64 ((((1 + cntT dA0) + cnt csA1) + cnt csA2) : Nat)) ∧ OutS S wx w') := fun wx y S x lo hi h hO hx => by
    rw [hx]
    exact (umarkIntS_any nA2 ((1 + cntT dA0) + cnt csA1) csA2 _ S wx HtA2.out hO.1 (by omega) (by omega) h).mono fun e w' h => ⟨h.1, h.2.2⟩
  have HmkR0 : Hid (∀ (wx : World) (y : Value) (S : List Nat) (x : Int) (lo hi : Nat), oS wx 1 nR0 csR0 y S → own2 S lo hi → x = ((1 : Nat) : Int) → Calls Tryz.prog 22 #[y, .int .i64 x] wx fun e w' => e = .returned (.int .i64 ((1 + cnt csR0) : Nat)) ∧ oS w' 1 nR0 (mk csR0 1) y S ∧ OutS S wx w') := fun wx y S x lo hi h hO hx => by
    rw [hx]
    exact umarkIntS_any nR0 1 csR0 _ S wx HrR0.out hO.1 (by omega) (by omega) h
  have HhdR0 : Hid (∀ (wx : World) (y : Value) (x : Int) (lo hi : Nat), uS wx lo hi 1 nR0 (mk csR0 1) y → x = ((1 : Nat) : Int) → Calls Tryz.prog 23 #[y, .int .i64 x] wx fun e w' => e = .returned (.int .i64 ((1 + cnt csR0) : Nat)) ∧ Hid (Below wx.heap.size wx w')) := fun wx y x lo hi h hx => by
    rw [hx]
    exact uheldIntS_any (lo := lo) (hi := hi) nR0 1 csR0 _ wx HrR0.out (by omega) (by omega) h
  clear hw0 hw1 hle0 hle1 hl1 hl2 htA0 htA1 htA2 hcR0
  go_enter Tryz.func3, Tryz.ntmps3
  generalize cntT dA0 = mA0 at *
  generalize cnt csA1 = mA1 at *
  generalize cnt csA2 = mA2 at *
  generalize cnt csR0 = mR0 at *
  go_wp2_with fail
  refine (HsA0.out _ (by repeat (first | with_reducible exact Below.refl _ _ | with_reducible refine Below.alloc ?_ (by simp <;> omega) _ | with_reducible refine Below.drew ?_ | with_reducible refine below_drewN ?_ _))).mono ?_
  rintro e w1 ⟨rfl, hb1⟩
  have HB1 : Hid (Below w.heap.size w w1) := Below.trans (by repeat (first | with_reducible exact Below.refl _ _ | with_reducible refine Below.alloc ?_ (by simp <;> omega) _ | with_reducible refine Below.drew ?_ | with_reducible refine below_drewN ?_ _)) (hb1.out.mono (by simp <;> omega))
  have BXA0_1 : Hid (objU w1 (w.heap.size) 26 [.int .i64 z0A0, .slice a1A0 n1A0 p1A0, .slice a2A0 n2A0 p2A0, .slice a3A0 n3A0 p3A0]) := objU.below (by repeat (first | with_reducible exact objU.new2 _ _ (by simp) | with_reducible refine objU.old ?_ _)) hb1.out
  have B1 : Hid (Below w.heap.size w w1) := HB1
  clear hb1
  go_wp2_with fail
  refine (HsA1.out _ (by repeat (first | with_reducible exact B1.out | with_reducible refine Below.alloc ?_ (by have := B1.out.size; (try simp) <;> omega) _ | with_reducible refine Below.drew ?_ | with_reducible refine below_drewN ?_ _))).mono ?_
  rintro e w2 ⟨rfl, hb2⟩
  have HB2 : Hid (Below w1.heap.size w1 w2) := Below.trans (by repeat (first | with_reducible exact Below.refl _ _ | with_reducible refine Below.alloc ?_ (by simp <;> omega) _ | with_reducible refine Below.drew ?_ | with_reducible refine below_drewN ?_ _)) (hb2.out.mono (by simp <;> omega))
  have BXA0_2 := uhide (BXA0_1.out.below HB2.out)
  have B2 : Hid (Below w.heap.size w w2) := B1.out.trans (HB2.out.mono B1.out.size)
  clear hb2
  have BXA0 := BXA0_2
  clear BXA0_1 BXA0_2
  replace OXA0 := uhide (OXA0.out.below B2.out)
  replace OXA1 := uhide (OXA1.out.below B2.out)
  replace OXA2 := uhide (OXA2.out.below B2.out)
  have Zb : Hid (w.heap.size + 1 ≤ w2.heap.size) := BXA0.out.lt
  have qBXA00 := BXA0.out.cell 0 _ rfl
  have qBXA01 := BXA0.out.cell 1 _ rfl
  have qBXA02 := BXA0.out.cell 2 _ rfl
  have qBXA03 := BXA0.out.cell 3 _ rfl
  go_wp2_with fail
  refine (HtoA0.out _ (by repeat (first | with_reducible exact B2.out | with_reducible refine Below.alloc ?_ (by have := B2.out.size; (try simp) <;> omega) _ | with_reducible refine Below.drew ?_ | with_reducible refine below_drewN ?_ _))).mono ?_
  rintro e w3 ⟨a1A0y, p1A0y, a2A0y, p2A0y, a3A0y, p3A0y, SYA0, rfl, YA0, YA0w, hb3⟩
  clear qBXA00 qBXA01 qBXA02 qBXA03
  have HB3 : Hid (Below w2.heap.size w2 w3) := Below.trans (by repeat (first | with_reducible exact Below.refl _ _ | with_reducible refine Below.alloc ?_ (by simp <;> omega) _ | with_reducible refine Below.drew ?_ | with_reducible refine below_drewN ?_ _)) (hb3.out.mono (by simp <;> omega))
  have Z3 : Hid (w2.heap.size + 0 ≤ w3.heap.size) := by have h := hb3.out.size; (try simp at h); show _ ≤ _; omega
  replace YA0w := uhide (YA0w.out.mono (a' := w2.heap.size + 0) (by (try simp) <;> omega) (Nat.le_refl _))
  replace BXA0 := uhide (BXA0.out.below HB3.out)
  replace OXA0 := uhide (OXA0.out.below HB3.out)
  replace OXA1 := uhide (OXA1.out.below HB3.out)
  replace OXA2 := uhide (OXA2.out.below HB3.out)
  have B3 : Hid (Below w.heap.size w w3) := B2.out.trans (HB3.out.mono B2.out.size)
  clear hb3 HB3
  go_wp2_with fail
  refine (HtoA1.out _ (by repeat (first | with_reducible exact B3.out | with_reducible refine Below.alloc ?_ (by have := B3.out.size; (try simp) <;> omega) _ | with_reducible refine Below.drew ?_ | with_reducible refine below_drewN ?_ _))).mono ?_
  rintro e w4 ⟨aA1y, pA1y, SYA1, rfl, YA1, YA1w, hb4⟩
  have HB4 : Hid (Below w3.heap.size w3 w4) := Below.trans (by repeat (first | with_reducible exact Below.refl _ _ | with_reducible refine Below.alloc ?_ (by simp <;> omega) _ | with_reducible refine Below.drew ?_ | with_reducible refine below_drewN ?_ _)) (hb4.out.mono (by simp <;> omega))
  have Z4 : Hid (w3.heap.size + 0 ≤ w4.heap.size) := by have h := hb4.out.size; (try simp at h); show _ ≤ _; omega
  replace YA1w := uhide (YA1w.out.mono (a' := w3.heap.size + 0) (by (try simp) <;> omega) (Nat.le_refl _))
  replace BXA0 := uhide (BXA0.out.below HB4.out)
  replace OXA0 := uhide (OXA0.out.below HB4.out)
  replace OXA1 := uhide (OXA1.out.below HB4.out)
  replace OXA2 := uhide (OXA2.out.below HB4.out)
  replace YA0 := uhide (YA0.out.below HB4.out)
  have B4 : Hid (Below w.heap.size w w4) := B3.out.trans (HB4.out.mono B3.out.size)
  clear hb4 HB4
  go_wp2_with fail
  refine (HtoA2.out _ (by repeat (first | with_reducible exact B4.out | with_reducible refine Below.alloc ?_ (by have := B4.out.size; (try simp) <;> omega) _ | with_reducible refine Below.drew ?_ | with_reducible refine below_drewN ?_ _))).mono ?_
  rintro e w5 ⟨aA2y, pA2y, SYA2, rfl, YA2, YA2w, hb5⟩
  have HB5 : Hid (Below w4.heap.size w4 w5) := Below.trans (by repeat (first | with_reducible exact Below.refl _ _ | with_reducible refine Below.alloc ?_ (by simp <;> omega) _ | with_reducible refine Below.drew ?_ | with_reducible refine below_drewN ?_ _)) (hb5.out.mono (by simp <;> omega))
  have Z5 : Hid (w4.heap.size + 0 ≤ w5.heap.size) := by have h := hb5.out.size; (try simp at h); show _ ≤ _; omega
  replace YA2w := uhide (YA2w.out.mono (a' := w4.heap.size + 0) (by (try simp) <;> omega) (Nat.le_refl _))
  replace BXA0 := uhide (BXA0.out.below HB5.out)
  replace OXA0 := uhide (OXA0.out.below HB5.out)
  replace OXA1 := uhide (OXA1.out.below HB5.out)
  replace OXA2 := uhide (OXA2.out.below HB5.out)
  replace YA0 := uhide (YA0.out.below HB5.out)
  replace YA1 := uhide (YA1.out.below HB5.out)
  have B5 : Hid (Below w.heap.size w w5) := B4.out.trans (HB5.out.mono B4.out.size)
  clear hb5 HB5
  go_wp2_with fail
  refine (HSQ.out _ _ _ _ _ _ _ _ _ _ ((YA0.out.below (by repeat (first | with_reducible exact Below.refl _ _ | with_reducible refine Below.alloc ?_ (by simp <;> omega) _ | with_reducible refine Below.drew ?_ | with_reducible refine below_drewN ?_ _))).hand YA0w.out.2) ((YA1.out.below (by repeat (first | with_reducible exact Below.refl _ _ | with_reducible refine Below.alloc ?_ (by simp <;> omega) _ | with_reducible refine Below.drew ?_ | with_reducible refine below_drewN ?_ _))).u YA1w.out.2) ((YA2.out.below (by repeat (first | with_reducible exact Below.refl _ _ | with_reducible refine Below.alloc ?_ (by simp <;> omega) _ | with_reducible refine Below.drew ?_ | with_reducible refine below_drewN ?_ _))).u YA2w.out.2)).mono ?_
  rintro e w6 ⟨aR0w, pR0w, rfl, WR0, hb6⟩
  have HB6 : Hid (Below w5.heap.size w5 w6) := Below.trans (by repeat (first | with_reducible exact Below.refl _ _ | with_reducible refine Below.alloc ?_ (by simp <;> omega) _ | with_reducible refine Below.drew ?_ | with_reducible refine below_drewN ?_ _)) (hb6.out.mono (by simp <;> omega))
  have Z6 : Hid (w5.heap.size + 0 ≤ w6.heap.size) := by have h := hb6.out.size; (try simp at h); show _ ≤ _; omega
  replace BXA0 := uhide (BXA0.out.below HB6.out)
  replace OXA0 := uhide (OXA0.out.below HB6.out)
  replace OXA1 := uhide (OXA1.out.below HB6.out)
  replace OXA2 := uhide (OXA2.out.below HB6.out)
  replace YA0 := uhide (YA0.out.below HB6.out)
  replace YA1 := uhide (YA1.out.below HB6.out)
  replace YA2 := uhide (YA2.out.below HB6.out)
  have B6 : Hid (Below w.heap.size w w6) := B5.out.trans (HB6.out.mono B5.out.size)
  clear hb6 HB6
  clear YA0 YA0w YA1 YA1w YA2 YA2w
  have qBXA00 := BXA0.out.cell 0 _ rfl
  have qBXA01 := BXA0.out.cell 1 _ rfl
  have qBXA02 := BXA0.out.cell 2 _ rfl
  have qBXA03 := BXA0.out.cell 3 _ rfl
  go_wp2_with fail
  refine (HtoA0.out _ (by repeat (first | with_reducible exact B6.out | with_reducible refine Below.alloc ?_ (by have := B6.out.size; (try simp) <;> omega) _ | with_reducible refine Below.drew ?_ | with_reducible refine below_drewN ?_ _))).mono ?_
  rintro e w7 ⟨a1A0x, p1A0x, a2A0x, p2A0x, a3A0x, p3A0x, SXA0, rfl, XA0, XA0w, hb7⟩
  clear qBXA00 qBXA01 qBXA02 qBXA03
  have HB7 : Hid (Below w6.heap.size w6 w7) := Below.trans (by repeat (first | with_reducible exact Below.refl _ _ | with_reducible refine Below.alloc ?_ (by simp <;> omega) _ | with_reducible refine Below.drew ?_ | with_reducible refine below_drewN ?_ _)) (hb7.out.mono (by simp <;> omega))
  have Z7 : Hid (w6.heap.size + 0 ≤ w7.heap.size) := by have h := hb7.out.size; (try simp at h); show _ ≤ _; omega
  replace XA0w := uhide (XA0w.out.mono (a' := w6.heap.size + 0) (by (try simp) <;> omega) (Nat.le_refl _))
  replace BXA0 := uhide (BXA0.out.below HB7.out)
  replace OXA0 := uhide (OXA0.out.below HB7.out)
  replace OXA1 := uhide (OXA1.out.below HB7.out)
  replace OXA2 := uhide (OXA2.out.below HB7.out)
  replace WR0 := uhide (WR0.out.below HB7.out)
  have B7 : Hid (Below w.heap.size w w7) := B6.out.trans (HB7.out.mono B6.out.size)
  clear hb7 HB7
  go_wp2_with fail
  refine (HtoA1.out _ (by repeat (first | with_reducible exact B7.out | with_reducible refine Below.alloc ?_ (by have := B7.out.size; (try simp) <;> omega) _ | with_reducible refine Below.drew ?_ | with_reducible refine below_drewN ?_ _))).mono ?_
  rintro e w8 ⟨aA1x, pA1x, SXA1, rfl, XA1, XA1w, hb8⟩
  have HB8 : Hid (Below w7.heap.size w7 w8) := Below.trans (by repeat (first | with_reducible exact Below.refl _ _ | with_reducible refine Below.alloc ?_ (by simp <;> omega) _ | with_reducible refine Below.drew ?_ | with_reducible refine below_drewN ?_ _)) (hb8.out.mono (by simp <;> omega))
  have BYA0 : Hid (objU w8 (w7.heap.size) 35 [.int .i64 z0A0, .slice a1A0x n1A0 p1A0x, .slice a2A0x n2A0 p2A0x, .slice a3A0x n3A0 p3A0x]) := objU.below (by repeat (first | with_reducible exact objU.new2 _ _ (by simp) | with_reducible refine objU.old ?_ _)) hb8.out
  have Z8 : Hid (w7.heap.size + 1 ≤ w8.heap.size) := by have h := hb8.out.size; (try simp at h); show _ ≤ _; omega
  replace XA1w := uhide (XA1w.out.mono (a' := w7.heap.size + 1) (by (try simp) <;> omega) (Nat.le_refl _))
  replace BXA0 := uhide (BXA0.out.below HB8.out)
  replace OXA0 := uhide (OXA0.out.below HB8.out)
  replace OXA1 := uhide (OXA1.out.below HB8.out)
  replace OXA2 := uhide (OXA2.out.below HB8.out)
  replace WR0 := uhide (WR0.out.below HB8.out)
  replace XA0 := uhide (XA0.out.below HB8.out)
  have B8 : Hid (Below w.heap.size w w8) := B7.out.trans (HB8.out.mono B7.out.size)
  clear hb8 HB8
  go_wp2_with fail
  refine (HtoA2.out _ (by repeat (first | with_reducible exact B8.out | with_reducible refine Below.alloc ?_ (by have := B8.out.size; (try simp) <;> omega) _ | with_reducible refine Below.drew ?_ | with_reducible refine below_drewN ?_ _))).mono ?_
  rintro e w9 ⟨aA2x, pA2x, SXA2, rfl, XA2, XA2w, hb9⟩
  have HB9 : Hid (Below w8.heap.size w8 w9) := Below.trans (by repeat (first | with_reducible exact Below.refl _ _ | with_reducible refine Below.alloc ?_ (by simp <;> omega) _ | with_reducible refine Below.drew ?_ | with_reducible refine below_drewN ?_ _)) (hb9.out.mono (by simp <;> omega))
  have Z9 : Hid (w8.heap.size + 0 ≤ w9.heap.size) := by have h := hb9.out.size; (try simp at h); show _ ≤ _; omega
  replace XA2w := uhide (XA2w.out.mono (a' := w8.heap.size + 0) (by (try simp) <;> omega) (Nat.le_refl _))
  replace BXA0 := uhide (BXA0.out.below HB9.out)
  replace OXA0 := uhide (OXA0.out.below HB9.out)
  replace OXA1 := uhide (OXA1.out.below HB9.out)
  replace OXA2 := uhide (OXA2.out.below HB9.out)
  replace WR0 := uhide (WR0.out.below HB9.out)
  replace XA0 := uhide (XA0.out.below HB9.out)
  replace BYA0 := uhide (BYA0.out.below HB9.out)
  replace XA1 := uhide (XA1.out.below HB9.out)
  have B9 : Hid (Below w.heap.size w w9) := B8.out.trans (HB9.out.mono B8.out.size)
  clear hb9 HB9
  have qBYA00 := BYA0.out.cell 0 _ rfl
  have qBYA01 := BYA0.out.cell 1 _ rfl
  have qBYA02 := BYA0.out.cell 2 _ rfl
  have qBYA03 := BYA0.out.cell 3 _ rfl
  go_wp2_with fail
  refine (HIQ.out _ _ _ _ _ _ _ _ _ _ ((XA0.out.below (by repeat (first | with_reducible exact Below.refl _ _ | with_reducible refine Below.alloc ?_ (by simp <;> omega) _ | with_reducible refine Below.drew ?_ | with_reducible refine below_drewN ?_ _))).hand XA0w.out.2) ((XA1.out.below (by repeat (first | with_reducible exact Below.refl _ _ | with_reducible refine Below.alloc ?_ (by simp <;> omega) _ | with_reducible refine Below.drew ?_ | with_reducible refine below_drewN ?_ _))).u XA1w.out.2) ((XA2.out.below (by repeat (first | with_reducible exact Below.refl _ _ | with_reducible refine Below.alloc ?_ (by simp <;> omega) _ | with_reducible refine Below.drew ?_ | with_reducible refine below_drewN ?_ _))).u XA2w.out.2)).mono ?_
  rintro e w10 ⟨aR0g, pR0g, SR0g, rfl, GR0, GR0w, hb10⟩
  clear qBYA00 qBYA01 qBYA02 qBYA03
  have HB10 : Hid (Below w9.heap.size w9 w10) := Below.trans (by repeat (first | with_reducible exact Below.refl _ _ | with_reducible refine Below.alloc ?_ (by simp <;> omega) _ | with_reducible refine Below.drew ?_ | with_reducible refine below_drewN ?_ _)) (hb10.out.mono (by simp <;> omega))
  have Z10 : Hid (w9.heap.size + 0 ≤ w10.heap.size) := by have h := hb10.out.size; (try simp at h); show _ ≤ _; omega
  replace GR0w := uhide (GR0w.out.mono (a' := w9.heap.size + 0) (by (try simp) <;> omega) (Nat.le_refl _))
  replace BXA0 := uhide (BXA0.out.below HB10.out)
  replace OXA0 := uhide (OXA0.out.below HB10.out)
  replace OXA1 := uhide (OXA1.out.below HB10.out)
  replace OXA2 := uhide (OXA2.out.below HB10.out)
  replace WR0 := uhide (WR0.out.below HB10.out)
  replace XA0 := uhide (XA0.out.below HB10.out)
  replace BYA0 := uhide (BYA0.out.below HB10.out)
  replace XA1 := uhide (XA1.out.below HB10.out)
  replace XA2 := uhide (XA2.out.below HB10.out)
  have B10 : Hid (Below w.heap.size w w10) := B9.out.trans (HB10.out.mono B9.out.size)
  clear hb10 HB10
  go_wp2_with fail
  refine (HeqR0.out _ _ _ _ _ _ _ ((GR0.out.below (by repeat (first | with_reducible exact Below.refl _ _ | with_reducible refine Below.alloc ?_ (by simp <;> omega) _ | with_reducible refine Below.drew ?_ | with_reducible refine below_drewN ?_ _))).u GR0w.out.2) (WR0.out.below (by repeat (first | with_reducible exact Below.refl _ _ | with_reducible refine Below.alloc ?_ (by simp <;> omega) _ | with_reducible refine Below.drew ?_ | with_reducible refine below_drewN ?_ _)))).mono ?_
  rintro e w11 ⟨rfl, hb11⟩
  have HB11 : Hid (Below w10.heap.size w10 w11) := Below.trans (by repeat (first | with_reducible exact Below.refl _ _ | with_reducible refine Below.alloc ?_ (by simp <;> omega) _ | with_reducible refine Below.drew ?_ | with_reducible refine below_drewN ?_ _)) (hb11.out.mono (by simp <;> omega))
  have Z11 : Hid (w10.heap.size + 0 ≤ w11.heap.size) := by have h := hb11.out.size; (try simp at h); show _ ≤ _; omega
  replace BXA0 := uhide (BXA0.out.below HB11.out)
  replace OXA0 := uhide (OXA0.out.below HB11.out)
  replace OXA1 := uhide (OXA1.out.below HB11.out)
  replace OXA2 := uhide (OXA2.out.below HB11.out)
  replace WR0 := uhide (WR0.out.below HB11.out)
  replace XA0 := uhide (XA0.out.below HB11.out)
  replace BYA0 := uhide (BYA0.out.below HB11.out)
  replace XA1 := uhide (XA1.out.below HB11.out)
  replace XA2 := uhide (XA2.out.below HB11.out)
  replace GR0 := uhide (GR0.out.below HB11.out)
  have B11 : Hid (Below w.heap.size w w11) := B10.out.trans (HB11.out.mono B10.out.size)
  clear hb11 HB11
  have qBYA00 := BYA0.out.cell 0 _ rfl
  have qBYA01 := BYA0.out.cell 1 _ rfl
  have qBYA02 := BYA0.out.cell 2 _ rfl
  have qBYA03 := BYA0.out.cell 3 _ rfl
  have qBXA00 := BXA0.out.cell 0 _ rfl
  have qBXA01 := BXA0.out.cell 1 _ rfl
  have qBXA02 := BXA0.out.cell 2 _ rfl
  have qBXA03 := BXA0.out.cell 3 _ rfl
  have RT : Hid (∀ wx, Below w11.heap.size w11 wx → Calls Tryz.prog 13 #[.agg #[.int .i64 z0A0, .slice a1A0 n1A0 p1A0, .slice a2A0 n2A0 p2A0, .slice a3A0 n3A0 p3A0]] wx fun e w' => ∃ a1rA0 p1rA0 a2rA0 p2rA0 a3rA0 p3rA0, e = .returned (.agg #[.int .i64 z0A0, .slice a1rA0 n1A0 p1rA0, .slice a2rA0 n2A0 p2rA0, .slice a3rA0 n3A0 p3rA0]) ∧ Hid (uH w' 0 w'.heap.size dA0 [.int .i64 z0A0, .slice a1rA0 n1A0 p1rA0, .slice a2rA0 n2A0 p2rA0, .slice a3rA0 n3A0 p3rA0]) ∧ Hid (Below w11.heap.size w11 w')) := fun wx hb => (HtoA0.out wx (B11.out.trans (hb.mono B11.out.size))).mono fun e w' ⟨a1rA0, p1rA0, a2rA0, p2rA0, a3rA0, p3rA0, S, h1, h2, h3, h4⟩ => ⟨a1rA0, p1rA0, a2rA0, p2rA0, a3rA0, p3rA0, h1, h2.out.hand (lo := 0) (hi := w'.heap.size) (fun g hg => ⟨Nat.zero_le _, (h3.out.2 g hg).2⟩), hb.trans (h4.out.mono hb.size)⟩
  have RE : Hid (∀ (wx : World) (ys : List Value) (lo hi : Nat), Below w11.heap.size w11 wx → uH wx lo hi dA0 ys → Calls Tryz.prog 18 #[.agg #[.int .i64 z0A0, .slice a1A0x n1A0 p1A0x, .slice a2A0x n2A0 p2A0x, .slice a3A0x n3A0 p3A0x], .agg ys.toArray] wx fun e w' => e = .returned (.bool true) ∧ Hid (Below w11.heap.size w11 w')) := fun wx ys lo hi hb h => (HeqA0.out wx _ _ lo hi _ ys ((XA0.out.below hb).hand XA0w.out.2) h).mono fun e w' h => ⟨h.1, hb.trans (h.2.out.mono hb.size)⟩
  have hb12r : Hid (Below w11.heap.size w11 w11) := Below.refl _ _
  go_wp2
  have hbr := hb12r
  go_region_with (first
    | (go_at_call 13; refine (RT.out _ (by repeat (first | with_reducible exact Below.refl _ _ | with_reducible exact hbr.out | with_reducible refine Below.drew ?_ | with_reducible refine below_drewN ?_ _))).mono ?_; rintro e wt ⟨a1A0t, p1A0t, a2A0t, p2A0t, a3A0t, p3A0t, rfl, XT, hbt⟩; replace hbr := hbt; have qBYA00r := (BYA0.out.below hbr.out).cell 0 _ rfl; have qBYA01r := (BYA0.out.below hbr.out).cell 1 _ rfl; have qBYA02r := (BYA0.out.below hbr.out).cell 2 _ rfl; have qBYA03r := (BYA0.out.below hbr.out).cell 3 _ rfl)
    | (go_at_call 18; refine (RE.out _ _ _ _ (by repeat (first | with_reducible exact Below.refl _ _ | with_reducible exact hbr.out | with_reducible refine Below.drew ?_ | with_reducible refine below_drewN ?_ _)) (by first | exact XT.out | exact XT.out.below (by repeat (first | with_reducible exact Below.refl _ _ | with_reducible refine Below.drew ?_ | with_reducible refine below_drewN ?_ _)))).mono ?_; rintro e w12 ⟨rfl, hb12⟩))
  all_goals (
    have HB12 := hb12
    have Z12 : Hid (w11.heap.size + 0 ≤ w12.heap.size) := HB12.out.size
    replace BXA0 := uhide (BXA0.out.below HB12.out)
    replace OXA0 := uhide (OXA0.out.below HB12.out)
    replace OXA1 := uhide (OXA1.out.below HB12.out)
    replace OXA2 := uhide (OXA2.out.below HB12.out)
    replace WR0 := uhide (WR0.out.below HB12.out)
    replace XA0 := uhide (XA0.out.below HB12.out)
    replace BYA0 := uhide (BYA0.out.below HB12.out)
    replace XA1 := uhide (XA1.out.below HB12.out)
    replace XA2 := uhide (XA2.out.below HB12.out)
    replace GR0 := uhide (GR0.out.below HB12.out)
    have B12 : Hid (Below w.heap.size w w12) := B11.out.trans (HB12.out.mono B11.out.size)
    clear hb12 HB12
    go_wp2_with fail
    refine (HtoA1.out _ (by repeat (first | with_reducible exact B12.out | with_reducible refine Below.alloc ?_ (by have := B12.out.size; (try simp) <;> omega) _ | with_reducible refine Below.drew ?_ | with_reducible refine below_drewN ?_ _))).mono ?_
    rintro e w13 ⟨aA1v, pA1v, SVA1, rfl, VA1, VA1w, hb13⟩
    have HB13 : Hid (Below w12.heap.size w12 w13) := Below.trans (by repeat (first | with_reducible exact Below.refl _ _ | with_reducible refine Below.alloc ?_ (by simp <;> omega) _ | with_reducible refine Below.drew ?_ | with_reducible refine below_drewN ?_ _)) (hb13.out.mono (by simp <;> omega))
    have Z13 : Hid (w12.heap.size + 0 ≤ w13.heap.size) := by have h := hb13.out.size; (try simp at h); show _ ≤ _; omega
    replace VA1w := uhide (VA1w.out.mono (a' := w12.heap.size + 0) (by (try simp) <;> omega) (Nat.le_refl _))
    replace BXA0 := uhide (BXA0.out.below HB13.out)
    replace OXA0 := uhide (OXA0.out.below HB13.out)
    replace OXA1 := uhide (OXA1.out.below HB13.out)
    replace OXA2 := uhide (OXA2.out.below HB13.out)
    replace WR0 := uhide (WR0.out.below HB13.out)
    replace XA0 := uhide (XA0.out.below HB13.out)
    replace BYA0 := uhide (BYA0.out.below HB13.out)
    replace XA1 := uhide (XA1.out.below HB13.out)
    replace XA2 := uhide (XA2.out.below HB13.out)
    replace GR0 := uhide (GR0.out.below HB13.out)
    have B13 : Hid (Below w.heap.size w w13) := B12.out.trans (HB13.out.mono B12.out.size)
    clear hb13 HB13
    go_wp2_with fail
    refine (HeqA1.out _ _ _ _ _ _ _ ((XA1.out.below (by repeat (first | with_reducible exact Below.refl _ _ | with_reducible refine Below.alloc ?_ (by simp <;> omega) _ | with_reducible refine Below.drew ?_ | with_reducible refine below_drewN ?_ _))).u XA1w.out.2) ((VA1.out.below (by repeat (first | with_reducible exact Below.refl _ _ | with_reducible refine Below.alloc ?_ (by simp <;> omega) _ | with_reducible refine Below.drew ?_ | with_reducible refine below_drewN ?_ _))).u VA1w.out.2)).mono ?_
    rintro e w14 ⟨rfl, hb14⟩
    have HB14 : Hid (Below w13.heap.size w13 w14) := Below.trans (by repeat (first | with_reducible exact Below.refl _ _ | with_reducible refine Below.alloc ?_ (by simp <;> omega) _ | with_reducible refine Below.drew ?_ | with_reducible refine below_drewN ?_ _)) (hb14.out.mono (by simp <;> omega))
    have Z14 : Hid (w13.heap.size + 0 ≤ w14.heap.size) := by have h := hb14.out.size; (try simp at h); show _ ≤ _; omega
    replace BXA0 := uhide (BXA0.out.below HB14.out)
    replace OXA0 := uhide (OXA0.out.below HB14.out)
    replace OXA1 := uhide (OXA1.out.below HB14.out)
    replace OXA2 := uhide (OXA2.out.below HB14.out)
    replace WR0 := uhide (WR0.out.below HB14.out)
    replace XA0 := uhide (XA0.out.below HB14.out)
    replace BYA0 := uhide (BYA0.out.below HB14.out)
    replace XA1 := uhide (XA1.out.below HB14.out)
    replace XA2 := uhide (XA2.out.below HB14.out)
    replace GR0 := uhide (GR0.out.below HB14.out)
    replace VA1 := uhide (VA1.out.below HB14.out)
    have B14 : Hid (Below w.heap.size w w14) := B13.out.trans (HB14.out.mono B13.out.size)
    clear hb14 HB14
    go_wp2_with fail
    refine (HtoA2.out _ (by repeat (first | with_reducible exact B14.out | with_reducible refine Below.alloc ?_ (by have := B14.out.size; (try simp) <;> omega) _ | with_reducible refine Below.drew ?_ | with_reducible refine below_drewN ?_ _))).mono ?_
    rintro e w15 ⟨aA2v, pA2v, SVA2, rfl, VA2, VA2w, hb15⟩
    have HB15 : Hid (Below w14.heap.size w14 w15) := Below.trans (by repeat (first | with_reducible exact Below.refl _ _ | with_reducible refine Below.alloc ?_ (by simp <;> omega) _ | with_reducible refine Below.drew ?_ | with_reducible refine below_drewN ?_ _)) (hb15.out.mono (by simp <;> omega))
    have Z15 : Hid (w14.heap.size + 0 ≤ w15.heap.size) := by have h := hb15.out.size; (try simp at h); show _ ≤ _; omega
    replace VA2w := uhide (VA2w.out.mono (a' := w14.heap.size + 0) (by (try simp) <;> omega) (Nat.le_refl _))
    replace BXA0 := uhide (BXA0.out.below HB15.out)
    replace OXA0 := uhide (OXA0.out.below HB15.out)
    replace OXA1 := uhide (OXA1.out.below HB15.out)
    replace OXA2 := uhide (OXA2.out.below HB15.out)
    replace WR0 := uhide (WR0.out.below HB15.out)
    replace XA0 := uhide (XA0.out.below HB15.out)
    replace BYA0 := uhide (BYA0.out.below HB15.out)
    replace XA1 := uhide (XA1.out.below HB15.out)
    replace XA2 := uhide (XA2.out.below HB15.out)
    replace GR0 := uhide (GR0.out.below HB15.out)
    have B15 : Hid (Below w.heap.size w w15) := B14.out.trans (HB15.out.mono B14.out.size)
    clear hb15 HB15
    go_wp2_with fail
    refine (HeqA2.out _ _ _ _ _ _ _ ((XA2.out.below (by repeat (first | with_reducible exact Below.refl _ _ | with_reducible refine Below.alloc ?_ (by simp <;> omega) _ | with_reducible refine Below.drew ?_ | with_reducible refine below_drewN ?_ _))).u XA2w.out.2) ((VA2.out.below (by repeat (first | with_reducible exact Below.refl _ _ | with_reducible refine Below.alloc ?_ (by simp <;> omega) _ | with_reducible refine Below.drew ?_ | with_reducible refine below_drewN ?_ _))).u VA2w.out.2)).mono ?_
    rintro e w16 ⟨rfl, hb16⟩
    have HB16 : Hid (Below w15.heap.size w15 w16) := Below.trans (by repeat (first | with_reducible exact Below.refl _ _ | with_reducible refine Below.alloc ?_ (by simp <;> omega) _ | with_reducible refine Below.drew ?_ | with_reducible refine below_drewN ?_ _)) (hb16.out.mono (by simp <;> omega))
    have Z16 : Hid (w15.heap.size + 0 ≤ w16.heap.size) := by have h := hb16.out.size; (try simp at h); show _ ≤ _; omega
    replace BXA0 := uhide (BXA0.out.below HB16.out)
    replace OXA0 := uhide (OXA0.out.below HB16.out)
    replace OXA1 := uhide (OXA1.out.below HB16.out)
    replace OXA2 := uhide (OXA2.out.below HB16.out)
    replace WR0 := uhide (WR0.out.below HB16.out)
    replace XA0 := uhide (XA0.out.below HB16.out)
    replace BYA0 := uhide (BYA0.out.below HB16.out)
    replace XA1 := uhide (XA1.out.below HB16.out)
    replace XA2 := uhide (XA2.out.below HB16.out)
    replace GR0 := uhide (GR0.out.below HB16.out)
    replace VA2 := uhide (VA2.out.below HB16.out)
    have B16 : Hid (Below w.heap.size w w16) := B15.out.trans (HB16.out.mono B15.out.size)
    clear hb16 HB16
    have qBYA00 := BYA0.out.cell 0 _ rfl
    have qBYA01 := BYA0.out.cell 1 _ rfl
    have qBYA02 := BYA0.out.cell 2 _ rfl
    have qBYA03 := BYA0.out.cell 3 _ rfl
    go_wp2_with fail
    refine (HmkA0.out _ _ _ _ _ _ XA0.out XA0w.out (by omega)).mono ?_
    rintro e w17 ⟨rfl, ho17⟩
    clear qBYA00 qBYA01 qBYA02 qBYA03
    replace BXA0 := uhide (BXA0.out.outS ho17 (XA0w.out.not (by have := Zb.out; have := Z3.out; have := Z4.out; have := Z5.out; have := Z6.out; have := Z7.out; have := Z8.out; have := Z9.out; have := Z10.out; have := Z11.out; have := Z12.out; have := Z13.out; have := Z14.out; have := Z15.out; have := Z16.out; omega)))
    replace OXA0 := uhide (OXA0.out.out (XA0w.out.out ho17) (by have := Zb.out; have := Z3.out; have := Z4.out; have := Z5.out; have := Z6.out; have := Z7.out; have := Z8.out; have := Z9.out; have := Z10.out; have := Z11.out; have := Z12.out; have := Z13.out; have := Z14.out; have := Z15.out; have := Z16.out; omega))
    replace OXA1 := uhide (OXA1.out.out (XA0w.out.out ho17) (by have := Zb.out; have := Z3.out; have := Z4.out; have := Z5.out; have := Z6.out; have := Z7.out; have := Z8.out; have := Z9.out; have := Z10.out; have := Z11.out; have := Z12.out; have := Z13.out; have := Z14.out; have := Z15.out; have := Z16.out; omega))
    replace OXA2 := uhide (OXA2.out.out (XA0w.out.out ho17) (by have := Zb.out; have := Z3.out; have := Z4.out; have := Z5.out; have := Z6.out; have := Z7.out; have := Z8.out; have := Z9.out; have := Z10.out; have := Z11.out; have := Z12.out; have := Z13.out; have := Z14.out; have := Z15.out; have := Z16.out; omega))
    replace WR0 := uhide (WR0.out.out (XA0w.out.out ho17) (by have := Zb.out; have := Z3.out; have := Z4.out; have := Z5.out; have := Z6.out; have := Z7.out; have := Z8.out; have := Z9.out; have := Z10.out; have := Z11.out; have := Z12.out; have := Z13.out; have := Z14.out; have := Z15.out; have := Z16.out; omega))
    replace BYA0 := uhide (BYA0.out.outS ho17 (XA0w.out.not (by have := Zb.out; have := Z3.out; have := Z4.out; have := Z5.out; have := Z6.out; have := Z7.out; have := Z8.out; have := Z9.out; have := Z10.out; have := Z11.out; have := Z12.out; have := Z13.out; have := Z14.out; have := Z15.out; have := Z16.out; omega)))
    replace XA1 := uhide (XA1.out.outs ho17 XA1w.out (fun x hx => by have := XA0w.out.2 x hx; have := Zb.out; have := Z3.out; have := Z4.out; have := Z5.out; have := Z6.out; have := Z7.out; have := Z8.out; have := Z9.out; have := Z10.out; have := Z11.out; have := Z12.out; have := Z13.out; have := Z14.out; have := Z15.out; have := Z16.out; omega))
    replace XA2 := uhide (XA2.out.outs ho17 XA2w.out (fun x hx => by have := XA0w.out.2 x hx; have := Zb.out; have := Z3.out; have := Z4.out; have := Z5.out; have := Z6.out; have := Z7.out; have := Z8.out; have := Z9.out; have := Z10.out; have := Z11.out; have := Z12.out; have := Z13.out; have := Z14.out; have := Z15.out; have := Z16.out; omega))
    replace GR0 := uhide (GR0.out.outs ho17 GR0w.out (fun x hx => by have := XA0w.out.2 x hx; have := Zb.out; have := Z3.out; have := Z4.out; have := Z5.out; have := Z6.out; have := Z7.out; have := Z8.out; have := Z9.out; have := Z10.out; have := Z11.out; have := Z12.out; have := Z13.out; have := Z14.out; have := Z15.out; have := Z16.out; omega))
    have Z17 : Hid (w16.heap.size + 0 ≤ w17.heap.size) := ho17.size
    have B17 : Hid (Below w.heap.size w w17) := B16.out.trans (XA0w.out.below ho17 (by have := B2.out.size; have := Zb.out; have := Z3.out; have := Z4.out; have := Z5.out; have := Z6.out; have := Z7.out; have := Z8.out; have := Z9.out; have := Z10.out; have := Z11.out; have := Z12.out; have := Z13.out; have := Z14.out; have := Z15.out; have := Z16.out; omega) B16.out.size)
    clear ho17
    go_wp2_with fail
    refine (HmkA1.out _ _ _ _ _ _ XA1.out XA1w.out (by omega)).mono ?_
    rintro e w18 ⟨rfl, ho18⟩
    replace BXA0 := uhide (BXA0.out.outS ho18 (XA1w.out.not (by have := Zb.out; have := Z3.out; have := Z4.out; have := Z5.out; have := Z6.out; have := Z7.out; have := Z8.out; have := Z9.out; have := Z10.out; have := Z11.out; have := Z12.out; have := Z13.out; have := Z14.out; have := Z15.out; have := Z16.out; have := Z17.out; omega)))
    replace OXA0 := uhide (OXA0.out.out (XA1w.out.out ho18) (by have := Zb.out; have := Z3.out; have := Z4.out; have := Z5.out; have := Z6.out; have := Z7.out; have := Z8.out; have := Z9.out; have := Z10.out; have := Z11.out; have := Z12.out; have := Z13.out; have := Z14.out; have := Z15.out; have := Z16.out; have := Z17.out; omega))
    replace OXA1 := uhide (OXA1.out.out (XA1w.out.out ho18) (by have := Zb.out; have := Z3.out; have := Z4.out; have := Z5.out; have := Z6.out; have := Z7.out; have := Z8.out; have := Z9.out; have := Z10.out; have := Z11.out; have := Z12.out; have := Z13.out; have := Z14.out; have := Z15.out; have := Z16.out; have := Z17.out; omega))
    replace OXA2 := uhide (OXA2.out.out (XA1w.out.out ho18) (by have := Zb.out; have := Z3.out; have := Z4.out; have := Z5.out; have := Z6.out; have := Z7.out; have := Z8.out; have := Z9.out; have := Z10.out; have := Z11.out; have := Z12.out; have := Z13.out; have := Z14.out; have := Z15.out; have := Z16.out; have := Z17.out; omega))
    replace WR0 := uhide (WR0.out.out (XA1w.out.out ho18) (by have := Zb.out; have := Z3.out; have := Z4.out; have := Z5.out; have := Z6.out; have := Z7.out; have := Z8.out; have := Z9.out; have := Z10.out; have := Z11.out; have := Z12.out; have := Z13.out; have := Z14.out; have := Z15.out; have := Z16.out; have := Z17.out; omega))
    replace BYA0 := uhide (BYA0.out.outS ho18 (XA1w.out.not (by have := Zb.out; have := Z3.out; have := Z4.out; have := Z5.out; have := Z6.out; have := Z7.out; have := Z8.out; have := Z9.out; have := Z10.out; have := Z11.out; have := Z12.out; have := Z13.out; have := Z14.out; have := Z15.out; have := Z16.out; have := Z17.out; omega)))
    replace XA2 := uhide (XA2.out.outs ho18 XA2w.out (fun x hx => by have := XA1w.out.2 x hx; have := Zb.out; have := Z3.out; have := Z4.out; have := Z5.out; have := Z6.out; have := Z7.out; have := Z8.out; have := Z9.out; have := Z10.out; have := Z11.out; have := Z12.out; have := Z13.out; have := Z14.out; have := Z15.out; have := Z16.out; have := Z17.out; omega))
    replace GR0 := uhide (GR0.out.outs ho18 GR0w.out (fun x hx => by have := XA1w.out.2 x hx; have := Zb.out; have := Z3.out; have := Z4.out; have := Z5.out; have := Z6.out; have := Z7.out; have := Z8.out; have := Z9.out; have := Z10.out; have := Z11.out; have := Z12.out; have := Z13.out; have := Z14.out; have := Z15.out; have := Z16.out; have := Z17.out; omega))
    have Z18 : Hid (w17.heap.size + 0 ≤ w18.heap.size) := ho18.size
    have B18 : Hid (Below w.heap.size w w18) := B17.out.trans (XA1w.out.below ho18 (by have := B2.out.size; have := Zb.out; have := Z3.out; have := Z4.out; have := Z5.out; have := Z6.out; have := Z7.out; have := Z8.out; have := Z9.out; have := Z10.out; have := Z11.out; have := Z12.out; have := Z13.out; have := Z14.out; have := Z15.out; have := Z16.out; have := Z17.out; omega) B17.out.size)
    clear ho18
    go_wp2_with fail
    refine (HmkA2.out _ _ _ _ _ _ XA2.out XA2w.out (by omega)).mono ?_
    rintro e w19 ⟨rfl, ho19⟩
    replace BXA0 := uhide (BXA0.out.outS ho19 (XA2w.out.not (by have := Zb.out; have := Z3.out; have := Z4.out; have := Z5.out; have := Z6.out; have := Z7.out; have := Z8.out; have := Z9.out; have := Z10.out; have := Z11.out; have := Z12.out; have := Z13.out; have := Z14.out; have := Z15.out; have := Z16.out; have := Z17.out; have := Z18.out; omega)))
    replace OXA0 := uhide (OXA0.out.out (XA2w.out.out ho19) (by have := Zb.out; have := Z3.out; have := Z4.out; have := Z5.out; have := Z6.out; have := Z7.out; have := Z8.out; have := Z9.out; have := Z10.out; have := Z11.out; have := Z12.out; have := Z13.out; have := Z14.out; have := Z15.out; have := Z16.out; have := Z17.out; have := Z18.out; omega))
    replace OXA1 := uhide (OXA1.out.out (XA2w.out.out ho19) (by have := Zb.out; have := Z3.out; have := Z4.out; have := Z5.out; have := Z6.out; have := Z7.out; have := Z8.out; have := Z9.out; have := Z10.out; have := Z11.out; have := Z12.out; have := Z13.out; have := Z14.out; have := Z15.out; have := Z16.out; have := Z17.out; have := Z18.out; omega))
    replace OXA2 := uhide (OXA2.out.out (XA2w.out.out ho19) (by have := Zb.out; have := Z3.out; have := Z4.out; have := Z5.out; have := Z6.out; have := Z7.out; have := Z8.out; have := Z9.out; have := Z10.out; have := Z11.out; have := Z12.out; have := Z13.out; have := Z14.out; have := Z15.out; have := Z16.out; have := Z17.out; have := Z18.out; omega))
    replace WR0 := uhide (WR0.out.out (XA2w.out.out ho19) (by have := Zb.out; have := Z3.out; have := Z4.out; have := Z5.out; have := Z6.out; have := Z7.out; have := Z8.out; have := Z9.out; have := Z10.out; have := Z11.out; have := Z12.out; have := Z13.out; have := Z14.out; have := Z15.out; have := Z16.out; have := Z17.out; have := Z18.out; omega))
    replace BYA0 := uhide (BYA0.out.outS ho19 (XA2w.out.not (by have := Zb.out; have := Z3.out; have := Z4.out; have := Z5.out; have := Z6.out; have := Z7.out; have := Z8.out; have := Z9.out; have := Z10.out; have := Z11.out; have := Z12.out; have := Z13.out; have := Z14.out; have := Z15.out; have := Z16.out; have := Z17.out; have := Z18.out; omega)))
    replace GR0 := uhide (GR0.out.outs ho19 GR0w.out (fun x hx => by have := XA2w.out.2 x hx; have := Zb.out; have := Z3.out; have := Z4.out; have := Z5.out; have := Z6.out; have := Z7.out; have := Z8.out; have := Z9.out; have := Z10.out; have := Z11.out; have := Z12.out; have := Z13.out; have := Z14.out; have := Z15.out; have := Z16.out; have := Z17.out; have := Z18.out; omega))
    have Z19 : Hid (w18.heap.size + 0 ≤ w19.heap.size) := ho19.size
    have B19 : Hid (Below w.heap.size w w19) := B18.out.trans (XA2w.out.below ho19 (by have := B2.out.size; have := Zb.out; have := Z3.out; have := Z4.out; have := Z5.out; have := Z6.out; have := Z7.out; have := Z8.out; have := Z9.out; have := Z10.out; have := Z11.out; have := Z12.out; have := Z13.out; have := Z14.out; have := Z15.out; have := Z16.out; have := Z17.out; have := Z18.out; omega) B18.out.size)
    clear ho19
    have hk0 : ¬ ((((((1 + mA0) + mA1) + mA2) : Nat) : Int) < 0) := by omega
    go_wp2_with fail
    refine (HeqR0.out _ _ _ _ _ _ _ ((GR0.out.below (by repeat (first | with_reducible exact Below.refl _ _ | with_reducible refine Below.alloc ?_ (by simp <;> omega) _ | with_reducible refine Below.drew ?_ | with_reducible refine below_drewN ?_ _))).u GR0w.out.2) (WR0.out.below (by repeat (first | with_reducible exact Below.refl _ _ | with_reducible refine Below.alloc ?_ (by simp <;> omega) _ | with_reducible refine Below.drew ?_ | with_reducible refine below_drewN ?_ _)))).mono ?_
    rintro e w20 ⟨rfl, hb20⟩
    have HB20 : Hid (Below w19.heap.size w19 w20) := Below.trans (by repeat (first | with_reducible exact Below.refl _ _ | with_reducible refine Below.alloc ?_ (by simp <;> omega) _ | with_reducible refine Below.drew ?_ | with_reducible refine below_drewN ?_ _)) (hb20.out.mono (by simp <;> omega))
    have Z20 : Hid (w19.heap.size + 0 ≤ w20.heap.size) := by have h := hb20.out.size; (try simp at h); show _ ≤ _; omega
    replace BXA0 := uhide (BXA0.out.below HB20.out)
    replace OXA0 := uhide (OXA0.out.below HB20.out)
    replace OXA1 := uhide (OXA1.out.below HB20.out)
    replace OXA2 := uhide (OXA2.out.below HB20.out)
    replace WR0 := uhide (WR0.out.below HB20.out)
    replace BYA0 := uhide (BYA0.out.below HB20.out)
    replace GR0 := uhide (GR0.out.below HB20.out)
    have B20 : Hid (Below w.heap.size w w20) := B19.out.trans (HB20.out.mono B19.out.size)
    clear hb20 HB20
    go_wp2_with fail
    refine (HmkR0.out _ _ _ _ _ _ GR0.out GR0w.out (by omega)).mono ?_
    rintro e w21 ⟨rfl, GMR0, ho21⟩
    replace BXA0 := uhide (BXA0.out.outS ho21 (GR0w.out.not (by have := Zb.out; have := Z3.out; have := Z4.out; have := Z5.out; have := Z6.out; have := Z7.out; have := Z8.out; have := Z9.out; have := Z10.out; have := Z11.out; have := Z12.out; have := Z13.out; have := Z14.out; have := Z15.out; have := Z16.out; have := Z17.out; have := Z18.out; have := Z19.out; have := Z20.out; omega)))
    replace OXA0 := uhide (OXA0.out.out (GR0w.out.out ho21) (by have := Zb.out; have := Z3.out; have := Z4.out; have := Z5.out; have := Z6.out; have := Z7.out; have := Z8.out; have := Z9.out; have := Z10.out; have := Z11.out; have := Z12.out; have := Z13.out; have := Z14.out; have := Z15.out; have := Z16.out; have := Z17.out; have := Z18.out; have := Z19.out; have := Z20.out; omega))
    replace OXA1 := uhide (OXA1.out.out (GR0w.out.out ho21) (by have := Zb.out; have := Z3.out; have := Z4.out; have := Z5.out; have := Z6.out; have := Z7.out; have := Z8.out; have := Z9.out; have := Z10.out; have := Z11.out; have := Z12.out; have := Z13.out; have := Z14.out; have := Z15.out; have := Z16.out; have := Z17.out; have := Z18.out; have := Z19.out; have := Z20.out; omega))
    replace OXA2 := uhide (OXA2.out.out (GR0w.out.out ho21) (by have := Zb.out; have := Z3.out; have := Z4.out; have := Z5.out; have := Z6.out; have := Z7.out; have := Z8.out; have := Z9.out; have := Z10.out; have := Z11.out; have := Z12.out; have := Z13.out; have := Z14.out; have := Z15.out; have := Z16.out; have := Z17.out; have := Z18.out; have := Z19.out; have := Z20.out; omega))
    replace WR0 := uhide (WR0.out.out (GR0w.out.out ho21) (by have := Zb.out; have := Z3.out; have := Z4.out; have := Z5.out; have := Z6.out; have := Z7.out; have := Z8.out; have := Z9.out; have := Z10.out; have := Z11.out; have := Z12.out; have := Z13.out; have := Z14.out; have := Z15.out; have := Z16.out; have := Z17.out; have := Z18.out; have := Z19.out; have := Z20.out; omega))
    replace BYA0 := uhide (BYA0.out.outS ho21 (GR0w.out.not (by have := Zb.out; have := Z3.out; have := Z4.out; have := Z5.out; have := Z6.out; have := Z7.out; have := Z8.out; have := Z9.out; have := Z10.out; have := Z11.out; have := Z12.out; have := Z13.out; have := Z14.out; have := Z15.out; have := Z16.out; have := Z17.out; have := Z18.out; have := Z19.out; have := Z20.out; omega)))
    have Z21 : Hid (w20.heap.size + 0 ≤ w21.heap.size) := ho21.size
    have B21 : Hid (Below w.heap.size w w21) := B20.out.trans (GR0w.out.below ho21 (by have := B2.out.size; have := Zb.out; have := Z3.out; have := Z4.out; have := Z5.out; have := Z6.out; have := Z7.out; have := Z8.out; have := Z9.out; have := Z10.out; have := Z11.out; have := Z12.out; have := Z13.out; have := Z14.out; have := Z15.out; have := Z16.out; have := Z17.out; have := Z18.out; have := Z19.out; have := Z20.out; omega) B20.out.size)
    clear ho21
    replace GMR0 := uhide GMR0
    have GMR0w := GR0w
    have hq0 : ¬ ((((1 + mR0) : Nat) : Int) < 0) := by omega
    have hq1 : (((((1 + mR0) : Nat) : Int)) != ((((1 + mR0) : Nat) : Int))) = false := by simp
    go_wp2_with fail
    refine (HhdR0.out _ _ _ _ _ ((GMR0.out.below (by repeat (first | with_reducible exact Below.refl _ _ | with_reducible refine Below.alloc ?_ (by simp <;> omega) _ | with_reducible refine Below.drew ?_ | with_reducible refine below_drewN ?_ _))).u GMR0w.out.2) (by omega)).mono ?_
    rintro e w22 ⟨rfl, hb22⟩
    have HB22 : Hid (Below w21.heap.size w21 w22) := Below.trans (by repeat (first | with_reducible exact Below.refl _ _ | with_reducible refine Below.alloc ?_ (by simp <;> omega) _ | with_reducible refine Below.drew ?_ | with_reducible refine below_drewN ?_ _)) (hb22.out.mono (by simp <;> omega))
    have Z22 : Hid (w21.heap.size + 0 ≤ w22.heap.size) := by have h := hb22.out.size; (try simp at h); show _ ≤ _; omega
    replace BXA0 := uhide (BXA0.out.below HB22.out)
    replace OXA0 := uhide (OXA0.out.below HB22.out)
    replace OXA1 := uhide (OXA1.out.below HB22.out)
    replace OXA2 := uhide (OXA2.out.below HB22.out)
    replace WR0 := uhide (WR0.out.below HB22.out)
    replace BYA0 := uhide (BYA0.out.below HB22.out)
    replace GMR0 := uhide (GMR0.out.below HB22.out)
    have B22 : Hid (Below w.heap.size w w22) := B21.out.trans (HB22.out.mono B21.out.size)
    clear hb22 HB22
    have qBXA00 := BXA0.out.cell 0 _ rfl
    have qBXA01 := BXA0.out.cell 1 _ rfl
    have qBXA02 := BXA0.out.cell 2 _ rfl
    have qBXA03 := BXA0.out.cell 3 _ rfl
    go_wp2_with fail
    refine (HtoA0.out _ (by repeat (first | with_reducible exact B22.out | with_reducible refine Below.alloc ?_ (by have := B22.out.size; (try simp) <;> omega) _ | with_reducible refine Below.drew ?_ | with_reducible refine below_drewN ?_ _))).mono ?_
    rintro e w23 ⟨a1A0u, p1A0u, a2A0u, p2A0u, a3A0u, p3A0u, SUA0, rfl, UA0, UA0w, hb23⟩
    clear qBXA00 qBXA01 qBXA02 qBXA03
    have HB23 : Hid (Below w22.heap.size w22 w23) := Below.trans (by repeat (first | with_reducible exact Below.refl _ _ | with_reducible refine Below.alloc ?_ (by simp <;> omega) _ | with_reducible refine Below.drew ?_ | with_reducible refine below_drewN ?_ _)) (hb23.out.mono (by simp <;> omega))
    have Z23 : Hid (w22.heap.size + 0 ≤ w23.heap.size) := by have h := hb23.out.size; (try simp at h); show _ ≤ _; omega
    replace UA0w := uhide (UA0w.out.mono (a' := w22.heap.size + 0) (by (try simp) <;> omega) (Nat.le_refl _))
    replace BXA0 := uhide (BXA0.out.below HB23.out)
    replace OXA0 := uhide (OXA0.out.below HB23.out)
    replace OXA1 := uhide (OXA1.out.below HB23.out)
    replace OXA2 := uhide (OXA2.out.below HB23.out)
    replace WR0 := uhide (WR0.out.below HB23.out)
    replace BYA0 := uhide (BYA0.out.below HB23.out)
    replace GMR0 := uhide (GMR0.out.below HB23.out)
    have B23 : Hid (Below w.heap.size w w23) := B22.out.trans (HB23.out.mono B22.out.size)
    clear hb23 HB23
    go_wp2_with fail
    refine (HtoA1.out _ (by repeat (first | with_reducible exact B23.out | with_reducible refine Below.alloc ?_ (by have := B23.out.size; (try simp) <;> omega) _ | with_reducible refine Below.drew ?_ | with_reducible refine below_drewN ?_ _))).mono ?_
    rintro e w24 ⟨aA1u, pA1u, SUA1, rfl, UA1, UA1w, hb24⟩
    have HB24 : Hid (Below w23.heap.size w23 w24) := Below.trans (by repeat (first | with_reducible exact Below.refl _ _ | with_reducible refine Below.alloc ?_ (by simp <;> omega) _ | with_reducible refine Below.drew ?_ | with_reducible refine below_drewN ?_ _)) (hb24.out.mono (by simp <;> omega))
    have Z24 : Hid (w23.heap.size + 0 ≤ w24.heap.size) := by have h := hb24.out.size; (try simp at h); show _ ≤ _; omega
    replace UA1w := uhide (UA1w.out.mono (a' := w23.heap.size + 0) (by (try simp) <;> omega) (Nat.le_refl _))
    replace BXA0 := uhide (BXA0.out.below HB24.out)
    replace OXA0 := uhide (OXA0.out.below HB24.out)
    replace OXA1 := uhide (OXA1.out.below HB24.out)
    replace OXA2 := uhide (OXA2.out.below HB24.out)
    replace WR0 := uhide (WR0.out.below HB24.out)
    replace BYA0 := uhide (BYA0.out.below HB24.out)
    replace GMR0 := uhide (GMR0.out.below HB24.out)
    replace UA0 := uhide (UA0.out.below HB24.out)
    have B24 : Hid (Below w.heap.size w w24) := B23.out.trans (HB24.out.mono B23.out.size)
    clear hb24 HB24
    go_wp2_with fail
    refine (HtoA2.out _ (by repeat (first | with_reducible exact B24.out | with_reducible refine Below.alloc ?_ (by have := B24.out.size; (try simp) <;> omega) _ | with_reducible refine Below.drew ?_ | with_reducible refine below_drewN ?_ _))).mono ?_
    rintro e w25 ⟨aA2u, pA2u, SUA2, rfl, UA2, UA2w, hb25⟩
    have HB25 : Hid (Below w24.heap.size w24 w25) := Below.trans (by repeat (first | with_reducible exact Below.refl _ _ | with_reducible refine Below.alloc ?_ (by simp <;> omega) _ | with_reducible refine Below.drew ?_ | with_reducible refine below_drewN ?_ _)) (hb25.out.mono (by simp <;> omega))
    have Z25 : Hid (w24.heap.size + 0 ≤ w25.heap.size) := by have h := hb25.out.size; (try simp at h); show _ ≤ _; omega
    replace UA2w := uhide (UA2w.out.mono (a' := w24.heap.size + 0) (by (try simp) <;> omega) (Nat.le_refl _))
    replace BXA0 := uhide (BXA0.out.below HB25.out)
    replace OXA0 := uhide (OXA0.out.below HB25.out)
    replace OXA1 := uhide (OXA1.out.below HB25.out)
    replace OXA2 := uhide (OXA2.out.below HB25.out)
    replace WR0 := uhide (WR0.out.below HB25.out)
    replace BYA0 := uhide (BYA0.out.below HB25.out)
    replace GMR0 := uhide (GMR0.out.below HB25.out)
    replace UA0 := uhide (UA0.out.below HB25.out)
    replace UA1 := uhide (UA1.out.below HB25.out)
    have B25 : Hid (Below w.heap.size w w25) := B24.out.trans (HB25.out.mono B24.out.size)
    clear hb25 HB25
    go_wp2_with fail
    refine (HIQ.out _ _ _ _ _ _ _ _ _ _ ((UA0.out.below (by repeat (first | with_reducible exact Below.refl _ _ | with_reducible refine Below.alloc ?_ (by simp <;> omega) _ | with_reducible refine Below.drew ?_ | with_reducible refine below_drewN ?_ _))).hand UA0w.out.2) ((UA1.out.below (by repeat (first | with_reducible exact Below.refl _ _ | with_reducible refine Below.alloc ?_ (by simp <;> omega) _ | with_reducible refine Below.drew ?_ | with_reducible refine below_drewN ?_ _))).u UA1w.out.2) ((UA2.out.below (by repeat (first | with_reducible exact Below.refl _ _ | with_reducible refine Below.alloc ?_ (by simp <;> omega) _ | with_reducible refine Below.drew ?_ | with_reducible refine below_drewN ?_ _))).u UA2w.out.2)).mono ?_
    rintro e w26 ⟨aR0h, pR0h, SR0h, rfl, KR0, KR0w, hb26⟩
    have HB26 : Hid (Below w25.heap.size w25 w26) := Below.trans (by repeat (first | with_reducible exact Below.refl _ _ | with_reducible refine Below.alloc ?_ (by simp <;> omega) _ | with_reducible refine Below.drew ?_ | with_reducible refine below_drewN ?_ _)) (hb26.out.mono (by simp <;> omega))
    have Z26 : Hid (w25.heap.size + 0 ≤ w26.heap.size) := by have h := hb26.out.size; (try simp at h); show _ ≤ _; omega
    replace KR0w := uhide (KR0w.out.mono (a' := w25.heap.size + 0) (by (try simp) <;> omega) (Nat.le_refl _))
    replace BXA0 := uhide (BXA0.out.below HB26.out)
    replace OXA0 := uhide (OXA0.out.below HB26.out)
    replace OXA1 := uhide (OXA1.out.below HB26.out)
    replace OXA2 := uhide (OXA2.out.below HB26.out)
    replace WR0 := uhide (WR0.out.below HB26.out)
    replace BYA0 := uhide (BYA0.out.below HB26.out)
    replace GMR0 := uhide (GMR0.out.below HB26.out)
    replace UA0 := uhide (UA0.out.below HB26.out)
    replace UA1 := uhide (UA1.out.below HB26.out)
    replace UA2 := uhide (UA2.out.below HB26.out)
    have B26 : Hid (Below w.heap.size w w26) := B25.out.trans (HB26.out.mono B25.out.size)
    clear hb26 HB26
    go_wp2_with fail
    refine (HeqR0.out _ _ _ _ _ _ _ ((KR0.out.below (by repeat (first | with_reducible exact Below.refl _ _ | with_reducible refine Below.alloc ?_ (by simp <;> omega) _ | with_reducible refine Below.drew ?_ | with_reducible refine below_drewN ?_ _))).u KR0w.out.2) (WR0.out.below (by repeat (first | with_reducible exact Below.refl _ _ | with_reducible refine Below.alloc ?_ (by simp <;> omega) _ | with_reducible refine Below.drew ?_ | with_reducible refine below_drewN ?_ _)))).mono ?_
    rintro e w27 ⟨rfl, hb27⟩
    have HB27 : Hid (Below w26.heap.size w26 w27) := Below.trans (by repeat (first | with_reducible exact Below.refl _ _ | with_reducible refine Below.alloc ?_ (by simp <;> omega) _ | with_reducible refine Below.drew ?_ | with_reducible refine below_drewN ?_ _)) (hb27.out.mono (by simp <;> omega))
    have Z27 : Hid (w26.heap.size + 0 ≤ w27.heap.size) := by have h := hb27.out.size; (try simp at h); show _ ≤ _; omega
    replace BXA0 := uhide (BXA0.out.below HB27.out)
    replace OXA0 := uhide (OXA0.out.below HB27.out)
    replace OXA1 := uhide (OXA1.out.below HB27.out)
    replace OXA2 := uhide (OXA2.out.below HB27.out)
    replace WR0 := uhide (WR0.out.below HB27.out)
    replace BYA0 := uhide (BYA0.out.below HB27.out)
    replace GMR0 := uhide (GMR0.out.below HB27.out)
    replace UA0 := uhide (UA0.out.below HB27.out)
    replace UA1 := uhide (UA1.out.below HB27.out)
    replace UA2 := uhide (UA2.out.below HB27.out)
    replace KR0 := uhide (KR0.out.below HB27.out)
    have B27 : Hid (Below w.heap.size w w27) := B26.out.trans (HB27.out.mono B26.out.size)
    clear hb27 HB27
    go_wp2_with fail
    refine (HhdR0.out _ _ _ _ _ ((GMR0.out.below (by repeat (first | with_reducible exact Below.refl _ _ | with_reducible refine Below.alloc ?_ (by simp <;> omega) _ | with_reducible refine Below.drew ?_ | with_reducible refine below_drewN ?_ _))).u GMR0w.out.2) (by omega)).mono ?_
    rintro e w28 ⟨rfl, hb28⟩
    have HB28 : Hid (Below w27.heap.size w27 w28) := Below.trans (by repeat (first | with_reducible exact Below.refl _ _ | with_reducible refine Below.alloc ?_ (by simp <;> omega) _ | with_reducible refine Below.drew ?_ | with_reducible refine below_drewN ?_ _)) (hb28.out.mono (by simp <;> omega))
    have Z28 : Hid (w27.heap.size + 0 ≤ w28.heap.size) := by have h := hb28.out.size; (try simp at h); show _ ≤ _; omega
    replace BXA0 := uhide (BXA0.out.below HB28.out)
    replace OXA0 := uhide (OXA0.out.below HB28.out)
    replace OXA1 := uhide (OXA1.out.below HB28.out)
    replace OXA2 := uhide (OXA2.out.below HB28.out)
    replace WR0 := uhide (WR0.out.below HB28.out)
    replace BYA0 := uhide (BYA0.out.below HB28.out)
    replace GMR0 := uhide (GMR0.out.below HB28.out)
    replace UA0 := uhide (UA0.out.below HB28.out)
    replace UA1 := uhide (UA1.out.below HB28.out)
    replace UA2 := uhide (UA2.out.below HB28.out)
    replace KR0 := uhide (KR0.out.below HB28.out)
    have B28 : Hid (Below w.heap.size w w28) := B27.out.trans (HB28.out.mono B27.out.size)
    clear hb28 HB28
    go_wp2
    go_ret
    exact ⟨rfl, by repeat (first | with_reducible exact B28.out | with_reducible refine Below.drew ?_ | with_reducible refine below_drewN ?_ _)⟩)
set_option maxRecDepth 100000 in
theorem lifted (os : Os) (started : os.Started) (H : Type) (enc : TypeId × Value → H) :
    ReturnsInHanded {} Tryz.checked os 3 .any (Rows.fnExactSharesSpec.pre6 enc Tryz.prog Tryz.f3 Rows.fnExactSharesRow.domain false) (Rows.fnExactSharesSpec.post enc Tryz.prog Tryz.f3 false true false false) := by
  refine returnsInHanded_of_change (C := Tryz.checked) own started (by kernel_rfl) Tryz.func3
    (ChangeSpec.witness6 (enc := enc) (C := Tryz.checked) false ⟨#[], #[.agg #[.int .i64 0, .slice none 0 0, .slice none 0 0, .slice none 0 0], .slice none 0 0, .slice none 0 0], []⟩ 12 (by kernel_rfl) (by kernel_rfl) (by kernel_rfl) (by kernel_rfl)) ?_
  intro W base args ds gs before hval0 hW hcnd _
  have hval : ∀ (j : Nat) t v, Tryz.f3.params[j]? = some t → args[j]? = some v → Value.okWide Tryz.prog W .any base t v := hval0
  have hW' := hW
  obtain ⟨p, q, hA0, hV, rfl, hfz, hnd⟩ := hW
  have hA : DataW.TrodAll enc Tryz.prog W 0 (fun _ => true) true Tryz.f3.params.toList args.toList ds p := hA0
  rw [Tryz.params3] at hA hval
  obtain ⟨v0, vs0, d0, ds0, p0, q0, hargs, rfl, rfl, h0, r0⟩ := trodAll_cons hA
  obtain ⟨v1, vs1, d1, ds1, p1, q1, rfl, rfl, rfl, h1, r1⟩ := trodAll_cons r0
  obtain ⟨v2, vs2, d2, ds2, p2, q2, rfl, rfl, rfl, h2, r2⟩ := trodAll_cons r1
  obtain ⟨rfl, rfl, rfl⟩ := trodAll_nil r2
  obtain rfl : args = #[v0, v1, v2] := by cases args; simp_all
  obtain ⟨rfl, rfl⟩ := trodVars_none hV
  obtain ⟨cs0, rfl, hsz0⟩ := okWide_struct Tryz.underlying26 (hval 0 26 v0 rfl rfl)
  have k0 := h0
  have lt0 : ∀ x ∈ p0, x.block < W.heap.size := by obtain ⟨m, hm⟩ := k0; exact DataW.trod_lt m _ _ _ hm
  obtain ⟨fuel0, hf0⟩ := h0
  obtain ⟨xs0, rfl⟩ : ∃ xs : List Value, cs0 = xs.toArray := ⟨cs0.toList, by simp⟩
  have hl0 : xs0.length = (uE 16).length := (show xs0.length = xs0.toArray.size by simp).trans (hsz0.trans (show Tryz.prog.cellsOf 26 = (uE 16).length by kernel_rfl))
  obtain ⟨dd0, hd0, hh0⟩ := openU (enc := enc) flatU fuel0 _ _ flatWant xs0 _ hl0 (by simpa [Value.cells] using hf0)
  obtain ⟨a1, len1, cap1, rfl⟩ := okWide_slice Tryz.underlying27 (hval 1 27 v1 rfl rfl)
  have k1 := h1
  have lt1 : ∀ x ∈ p1, x.block < W.heap.size := by obtain ⟨m, hm⟩ := k1; exact DataW.trod_lt m _ _ _ hm
  obtain ⟨fuel1, hf1⟩ := h1
  obtain ⟨dd1, hd1, hh1⟩ := openU (enc := enc) flatU fuel1 27 [.l 4 14] (Flat.slice 14 Tryz.underlying27 (by simp [GU]) (by kernel_rfl) (by decide)) [.slice a1 len1 cap1] _ rfl (by simpa [Value.cells] using hf1)
  obtain ⟨n1, ee1, rr1, rfl, ht1, hr1⟩ := tyL.l hd1
  obtain rfl := tyL.nil hr1
  obtain ⟨c1, ys1, hc1, hs1, -⟩ := hh1
  obtain ⟨rfl, -⟩ := List.cons.inj hc1
  obtain ⟨a2, len2, cap2, rfl⟩ := okWide_slice Tryz.underlying28 (hval 2 28 v2 rfl rfl)
  have k2 := h2
  have lt2 : ∀ x ∈ p2, x.block < W.heap.size := by obtain ⟨m, hm⟩ := k2; exact DataW.trod_lt m _ _ _ hm
  obtain ⟨fuel2, hf2⟩ := h2
  obtain ⟨dd2, hd2, hh2⟩ := openU (enc := enc) flatU fuel2 28 [.l 1 1] (Flat.slice 1 Tryz.underlying28 (by simp [GU]) (by kernel_rfl) (by decide)) [.slice a2 len2 cap2] _ rfl (by simpa [Value.cells] using hf2)
  obtain ⟨n2, ee2, rr2, rfl, ht2, hr2⟩ := tyL.l hd2
  obtain rfl := tyL.nil hr2
  obtain ⟨c2, ys2, hc2, hs2, -⟩ := hh2
  obtain ⟨rfl, -⟩ := List.cons.inj hc2
  clear hA0 hval0
  refine (walk dd0 xs0 n1 ee1 _ n2 ee2 _ W hd0 hh0 ht1 hs1 ht2 hs2).mono fun e W' ⟨he, bel⟩ => ?_
  subst he
  exact ⟨_, rfl, _, _, _, [], _, [], hW', trodAll_mk1 (shut_bool Tryz.underlying4 _), (trodAll_cons_mk (Below.trod laidOut (by kernel_rfl) (of_decide_eq_true (by kernel_rfl)) k0 bel lt0) (trodAll_cons_mk (Below.trod laidOut (by kernel_rfl) (of_decide_eq_true (by kernel_rfl)) k1 bel lt1) (trodAll_cons_mk (Below.trod laidOut (by kernel_rfl) (of_decide_eq_true (by kernel_rfl)) k2 bel lt2) trodAll_mk0))), rfl, bel.frame _, fun h => by cases h⟩
end LShares
end Go.Proofs.YtdnodaoeflbfkaaGreat
