/- FnExactWeightOf holds: at every want and name impl.WeightOf answers what spec.WeightOf answers. No conditions. -/
import Derived.Test.YtdnodaoeflbfkaaRows
import Derived.Test.YtdnodaoeflbfkaaFbWo
import Derived.Test.YtdnodaoeflbfkaaUTWant
import Derived.Test.YtdnodaoeflbfkaaU3
import Derived.WalkKit
import Derived.ProofKit
import Derived.OpenShut
import Derived.ShutString
import Derived.ChangeOld
import Derived.Below
namespace Go.Proofs.Ytdnodaoeflbfkaa
open Go.ChangeShapes Go.WideShapes Go.ChangeAt Go.RowKit Go.BigFrame
open Go.ChangeMaps (open_string shut_string)
set_option linter.unusedVariables false
namespace LWeightOf
theorem laidOut : laidOutB Try.prog = true := by kernel_rfl
theorem own : ownKnob Try.prog.godebug = none := by kernel_rfl
def TYU : Nat → TypeId
  | 5 => 195
  | 0 => 9
  | 15 => 197
  | _ => 0
def GU (n : Nat) : Prop := n = 5 ∨ n = 0 ∨ n = 15
theorem flatWant : Flat Try.prog TYU GU 35 (uE 16) := by
  refine Flat.struct [[.i .i64], [.l 3 5], [.l 1 0], [.l 2 15]] Try.underlying35 rfl (fun i f s hf hs => ?_) (fun i f s hf hs => ?_)
  · match i, hf, hs with
    | 0, hf, hs => cases hf; cases hs; exact (Flat.i64 Try.underlying3)
    | 1, hf, hs => cases hf; cases hs; exact (Flat.slice 5 Try.underlying32 (by simp [GU]) (by kernel_rfl) (by decide))
    | 2, hf, hs => cases hf; cases hs; exact (Flat.slice 0 Try.underlying25 (by simp [GU]) (by kernel_rfl) (by decide))
    | 3, hf, hs => cases hf; cases hs; exact (Flat.slice 15 Try.underlying33 (by simp [GU]) (by kernel_rfl) (by decide))
    | i + 4, hf, hs => simp at hs
  · match i, hf, hs with
    | 0, hf, hs => cases hf; cases hs; exact ⟨by kernel_rfl, rfl⟩
    | 1, hf, hs => cases hf; cases hs; exact ⟨by kernel_rfl, rfl⟩
    | 2, hf, hs => cases hf; cases hs; exact ⟨by kernel_rfl, rfl⟩
    | 3, hf, hs => cases hf; cases hs; exact ⟨by kernel_rfl, rfl⟩
    | i + 4, hf, hs => simp at hs
theorem flatTerm : Flat Try.prog TYU GU 195 (uE 5) := by
  refine Flat.struct [[.i .i64], [.s], [.l 1 0]] Try.underlying195 rfl (fun i f s hf hs => ?_) (fun i f s hf hs => ?_)
  · match i, hf, hs with
    | 0, hf, hs => cases hf; cases hs; exact (Flat.i64 Try.underlying3)
    | 1, hf, hs => cases hf; cases hs; exact (Flat.str Try.underlying9)
    | 2, hf, hs => cases hf; cases hs; exact (Flat.slice 0 Try.underlying25 (by simp [GU]) (by kernel_rfl) (by decide))
    | i + 3, hf, hs => simp at hs
  · match i, hf, hs with
    | 0, hf, hs => cases hf; cases hs; exact ⟨by kernel_rfl, rfl⟩
    | 1, hf, hs => cases hf; cases hs; exact ⟨by kernel_rfl, rfl⟩
    | 2, hf, hs => cases hf; cases hs; exact ⟨by kernel_rfl, rfl⟩
    | i + 3, hf, hs => simp at hs
theorem flatWeigh : Flat Try.prog TYU GU 197 (uE 15) := by
  refine Flat.struct [[.s], [.i .i64]] Try.underlying197 rfl (fun i f s hf hs => ?_) (fun i f s hf hs => ?_)
  · match i, hf, hs with
    | 0, hf, hs => cases hf; cases hs; exact (Flat.str Try.underlying9)
    | 1, hf, hs => cases hf; cases hs; exact (Flat.i64 Try.underlying3)
    | i + 2, hf, hs => simp at hs
  · match i, hf, hs with
    | 0, hf, hs => cases hf; cases hs; exact ⟨by kernel_rfl, rfl⟩
    | 1, hf, hs => cases hf; cases hs; exact ⟨by kernel_rfl, rfl⟩
    | i + 2, hf, hs => simp at hs
theorem flatU : ∀ n, GU n → Flat Try.prog TYU GU (TYU n) (uE n) := by
  intro n h
  unfold GU at h
  rcases h with rfl | rfl | rfl
  · exact flatTerm
  · exact (Flat.str Try.underlying9)
  · exact flatWeigh
set_option maxRecDepth 20000 in
set_option maxHeartbeats 3200000 in
theorem walk (dA0 : UD) (xsA0 : List Value) (sA1 : ByteArray) (w : World) (htA0 : tyL dA0 (uE 16)) (hxA0 : uH w 0 w.heap.size dA0 xsA0) (hsA1 : sA1.size ≤ maxLen) :
    Calls Try.prog 5 #[.agg xsA0.toArray, .string sA1] w fun e w' => e = .returned (.bool true) ∧ Below w.heap.size w w' := by
  by_cases hbA1 : (1048576 : Int) < (sA1.size : Int)
  · go_enter Try.func5, Try.ntmps5
    go_wp2
    go_ret
    exact ⟨rfl, by repeat (first | exact Below.refl _ _ | refine Below.alloc ?_ (by simp <;> omega) _)⟩
  obtain ⟨z0A0, n1A0, c1A0, n2A0, c2A0, n3A0, c3A0, hdA0, g0A0, g1A0, g2A0, g3A0⟩ := partsWant htA0
  have SHA0 : Hid (∀ (wx : World) (lo hi : Nat) (ys : List Value), uH wx lo hi dA0 ys → ∃ a1A0 p1A0 a2A0 p2A0 a3A0 p3A0, ys = [.int .i64 z0A0, .slice a1A0 n1A0 p1A0, .slice a2A0 n2A0 p2A0, .slice a3A0 n3A0 p3A0]) := by
    intro wx lo hi ys h
    rw [hdA0] at h
    obtain ⟨_, rfl, ⟨v1A0, _, rfl, s1, ⟨v2A0, _, rfl, s2, ⟨v3A0, _, rfl, s3, rfl⟩⟩⟩⟩ := h
    obtain ⟨a1A0, p1A0, rfl, t1A0⟩ := s1
    obtain ⟨a2A0, p2A0, rfl, t2A0⟩ := s2
    obtain ⟨a3A0, p3A0, rfl, t3A0⟩ := s3
    exact ⟨a1A0, p1A0, a2A0, p2A0, a3A0, p3A0, rfl⟩
  obtain ⟨a1A0, p1A0, a2A0, p2A0, a3A0, p3A0, rfl⟩ := SHA0.out w _ _ xsA0 hxA0
  have OXA0 : Hid (uH w 0 w.heap.size dA0 [.int .i64 z0A0, .slice a1A0 n1A0 p1A0, .slice a2A0 n2A0 p2A0, .slice a3A0 n3A0 p3A0]) := hxA0
  have HtA0 := uhide htA0
  clear hxA0 hdA0 g0A0 g1A0 g2A0 g3A0
  obtain ⟨l1, hl1⟩ : ∃ l, leftI (1048576 : Int) (wt dA0) = l := ⟨_, rfl⟩
  have HsA0 : Hid (∀ wx, Below w.heap.size w wx → Calls Try.prog 16 #[.agg #[.int .i64 z0A0, .slice a1A0 n1A0 p1A0, .slice a2A0 n2A0 p2A0, .slice a3A0 n3A0 p3A0], .int .i64 1048576] wx fun e w' => e = .returned (.int .i64 l1) ∧ Hid (Below wx.heap.size wx w')) := fun wx hb => hl1 ▸ uszWant_any (lo := 0) (hi := w.heap.size) dA0 [.int .i64 z0A0, .slice a1A0 n1A0 p1A0, .slice a2A0 n2A0 p2A0, .slice a3A0 n3A0 p3A0] 1048576 wx HtA0.out (OXA0.out.below hb) (by decide) (by decide)
  have hle0 : l1 ≤ 1048576 := by rw [← hl1]; unfold leftI; split <;> omega
  by_cases hn0 : l1 < 0
  · go_enter Try.func5, Try.ntmps5
    go_wp2_with fail
    refine (HsA0.out _ (by repeat (first | with_reducible exact Below.refl _ _ | with_reducible refine Below.alloc ?_ (by simp <;> omega) _ | with_reducible refine Below.drew ?_ | with_reducible refine below_drewN ?_ _))).mono ?_
    rintro e w1 ⟨rfl, hb1⟩
    have HB1 : Hid (Below w.heap.size w w1) := Below.trans (by repeat (first | with_reducible exact Below.refl _ _ | with_reducible refine Below.alloc ?_ (by simp <;> omega) _ | with_reducible refine Below.drew ?_ | with_reducible refine below_drewN ?_ _)) (hb1.out.mono (by simp <;> omega))
    have BXA0_1 : Hid (objU w1 (w.heap.size) 35 [.int .i64 z0A0, .slice a1A0 n1A0 p1A0, .slice a2A0 n2A0 p2A0, .slice a3A0 n3A0 p3A0]) := objU.below (by repeat (first | with_reducible exact objU.new2 _ _ (by simp) | with_reducible refine objU.old ?_ _)) hb1.out
    have B1 : Hid (Below w.heap.size w w1) := HB1
    clear hb1
    go_wp2
    go_ret
    exact ⟨rfl, B1.out⟩
  have Hw0 : Hid (l1 = 1048576 - ((wt dA0) : Nat)) := by show _ = _; rw [← hl1]; exact (leftI_pos 0 (by rw [hl1]; exact hn0)).2.1
  have hw0 := Hw0.out
  obtain ⟨iR0, HSP, HIM⟩ := weightOf_both dA0 sA1 HtA0.out (by omega) (by omega)
  replace HSP := uhide HSP
  replace HIM := uhide HIM
  have HSQ : Hid (∀ (wx : World) (loA0 hiA0 : Nat) (xsA0 : List Value), uH wx loA0 hiA0 dA0 xsA0 → Calls Try.prog 21 #[.agg xsA0.toArray, .string sA1] wx fun e w' => e = .returned (.int .i64 iR0) ∧ Hid (Below wx.heap.size wx w')) := fun wx loA0 hiA0 xsA0 hA0 => (HSP.out _ _ _ _ hA0).mono fun e w' ⟨h1, hb⟩ => by
    exact ⟨h1, hb⟩
  have HIQ : Hid (∀ (wx : World) (loA0 hiA0 : Nat) (xsA0 : List Value), uH wx loA0 hiA0 dA0 xsA0 → Calls Try.prog 22 #[.agg xsA0.toArray, .string sA1] wx fun e w' => e = .returned (.int .i64 iR0) ∧ Hid (Below wx.heap.size wx w')) := fun wx loA0 hiA0 xsA0 hA0 => (HIM.out _ _ _ _ hA0).mono fun e w' ⟨h1, hb⟩ => by
    exact ⟨h1, hb⟩
  clear HSP HIM
  have hctA0 : cntT dA0 ≤ 42000000 := by have := cntT_wt HtA0.out; omega
  have HtoA0 : Hid (∀ wx, Below w.heap.size w wx → Calls Try.prog 18 #[.agg #[.int .i64 z0A0, .slice a1A0 n1A0 p1A0, .slice a2A0 n2A0 p2A0, .slice a3A0 n3A0 p3A0]] wx fun e w' => ∃ a1rA0 p1rA0 a2rA0 p2rA0 a3rA0 p3rA0 S, e = .returned (.agg #[.int .i64 z0A0, .slice a1rA0 n1A0 p1rA0, .slice a2rA0 n2A0 p2rA0, .slice a3rA0 n3A0 p3rA0]) ∧ Hid (oH w' dA0 [.int .i64 z0A0, .slice a1rA0 n1A0 p1rA0, .slice a2rA0 n2A0 p2rA0, .slice a3rA0 n3A0 p3rA0] S) ∧ Hid (own2 S wx.heap.size w'.heap.size) ∧ Hid (Below wx.heap.size wx w')) := fun wx hb => (utoWant_any (lo := 0) (hi := w.heap.size) dA0 [.int .i64 z0A0, .slice a1A0 n1A0 p1A0, .slice a2A0 n2A0 p2A0, .slice a3A0 n3A0 p3A0] wx HtA0.out (by omega) (OXA0.out.below hb)).mono fun e w' ⟨ys, S, h1, h2, h3, h4, h5⟩ => by
    have hO : own2 S wx.heap.size w'.heap.size := ⟨h3, fun s hs => ⟨h4 s hs, h2.lt _ _ _ s hs⟩⟩
    obtain ⟨a1A0, p1A0, a2A0, p2A0, a3A0, p3A0, rfl⟩ := SHA0.out w' _ _ ys (h2.hand hO.2)
    exact ⟨a1A0, p1A0, a2A0, p2A0, a3A0, p3A0, S, h1, h2, hO, h5⟩
  have HeqA0 : Hid (∀ (wx : World) (lo hi lo' hi' : Nat) (ys ys' : List Value), uH wx lo hi dA0 ys → uH wx lo' hi' dA0 ys' → Calls Try.prog 20 #[.agg ys.toArray, .agg ys'.toArray] wx fun e w' => e = .returned (.bool true) ∧ Hid (Below wx.heap.size wx w')) := fun wx lo hi lo' hi' ys ys' h1 h2 => ueqWant_any (lo := lo) (hi := hi) (lo' := lo') (hi' := hi') _ _ _ wx HtA0.out h1 h2
  clear hw0 hle0 hl1 htA0
  have hqR0 : (iR0 != iR0) = false := by simp
  go_enter Try.func5, Try.ntmps5
  go_wp2_with fail
  refine (HsA0.out _ (by repeat (first | with_reducible exact Below.refl _ _ | with_reducible refine Below.alloc ?_ (by simp <;> omega) _ | with_reducible refine Below.drew ?_ | with_reducible refine below_drewN ?_ _))).mono ?_
  rintro e w1 ⟨rfl, hb1⟩
  have HB1 : Hid (Below w.heap.size w w1) := Below.trans (by repeat (first | with_reducible exact Below.refl _ _ | with_reducible refine Below.alloc ?_ (by simp <;> omega) _ | with_reducible refine Below.drew ?_ | with_reducible refine below_drewN ?_ _)) (hb1.out.mono (by simp <;> omega))
  have BXA0_1 : Hid (objU w1 (w.heap.size) 35 [.int .i64 z0A0, .slice a1A0 n1A0 p1A0, .slice a2A0 n2A0 p2A0, .slice a3A0 n3A0 p3A0]) := objU.below (by repeat (first | with_reducible exact objU.new2 _ _ (by simp) | with_reducible refine objU.old ?_ _)) hb1.out
  have B1 : Hid (Below w.heap.size w w1) := HB1
  clear hb1
  have BXA0 := BXA0_1
  clear BXA0_1
  replace OXA0 := uhide (OXA0.out.below B1.out)
  have Zb : Hid (w.heap.size + 1 ≤ w1.heap.size) := BXA0.out.lt
  have qBXA00 := BXA0.out.cell 0 _ rfl
  have qBXA01 := BXA0.out.cell 1 _ rfl
  have qBXA02 := BXA0.out.cell 2 _ rfl
  have qBXA03 := BXA0.out.cell 3 _ rfl
  go_wp2_with fail
  refine (HtoA0.out _ (by repeat (first | with_reducible exact B1.out | with_reducible refine Below.alloc ?_ (by have := B1.out.size; (try simp) <;> omega) _ | with_reducible refine Below.drew ?_ | with_reducible refine below_drewN ?_ _))).mono ?_
  rintro e w2 ⟨a1A0y, p1A0y, a2A0y, p2A0y, a3A0y, p3A0y, SYA0, rfl, YA0, YA0w, hb2⟩
  clear qBXA00 qBXA01 qBXA02 qBXA03
  have HB2 : Hid (Below w1.heap.size w1 w2) := Below.trans (by repeat (first | with_reducible exact Below.refl _ _ | with_reducible refine Below.alloc ?_ (by simp <;> omega) _ | with_reducible refine Below.drew ?_ | with_reducible refine below_drewN ?_ _)) (hb2.out.mono (by simp <;> omega))
  have Z2 : Hid (w1.heap.size + 0 ≤ w2.heap.size) := by have h := hb2.out.size; (try simp at h); show _ ≤ _; omega
  replace YA0w := uhide (YA0w.out.mono (a' := w1.heap.size + 0) (by (try simp) <;> omega) (Nat.le_refl _))
  replace BXA0 := uhide (BXA0.out.below HB2.out)
  replace OXA0 := uhide (OXA0.out.below HB2.out)
  have B2 : Hid (Below w.heap.size w w2) := B1.out.trans (HB2.out.mono B1.out.size)
  clear hb2 HB2
  go_wp2_with fail
  refine (HSQ.out _ _ _ _ ((YA0.out.below (by repeat (first | with_reducible exact Below.refl _ _ | with_reducible refine Below.alloc ?_ (by simp <;> omega) _ | with_reducible refine Below.drew ?_ | with_reducible refine below_drewN ?_ _))).hand YA0w.out.2)).mono ?_
  rintro e w3 ⟨rfl, hb3⟩
  have HB3 : Hid (Below w2.heap.size w2 w3) := Below.trans (by repeat (first | with_reducible exact Below.refl _ _ | with_reducible refine Below.alloc ?_ (by simp <;> omega) _ | with_reducible refine Below.drew ?_ | with_reducible refine below_drewN ?_ _)) (hb3.out.mono (by simp <;> omega))
  have Z3 : Hid (w2.heap.size + 0 ≤ w3.heap.size) := by have h := hb3.out.size; (try simp at h); show _ ≤ _; omega
  replace BXA0 := uhide (BXA0.out.below HB3.out)
  replace OXA0 := uhide (OXA0.out.below HB3.out)
  replace YA0 := uhide (YA0.out.below HB3.out)
  have B3 : Hid (Below w.heap.size w w3) := B2.out.trans (HB3.out.mono B2.out.size)
  clear hb3 HB3
  clear YA0 YA0w
  have qBXA00 := BXA0.out.cell 0 _ rfl
  have qBXA01 := BXA0.out.cell 1 _ rfl
  have qBXA02 := BXA0.out.cell 2 _ rfl
  have qBXA03 := BXA0.out.cell 3 _ rfl
  go_wp2_with fail
  refine (HtoA0.out _ (by repeat (first | with_reducible exact B3.out | with_reducible refine Below.alloc ?_ (by have := B3.out.size; (try simp) <;> omega) _ | with_reducible refine Below.drew ?_ | with_reducible refine below_drewN ?_ _))).mono ?_
  rintro e w4 ⟨a1A0x, p1A0x, a2A0x, p2A0x, a3A0x, p3A0x, SXA0, rfl, XA0, XA0w, hb4⟩
  clear qBXA00 qBXA01 qBXA02 qBXA03
  have HB4 : Hid (Below w3.heap.size w3 w4) := Below.trans (by repeat (first | with_reducible exact Below.refl _ _ | with_reducible refine Below.alloc ?_ (by simp <;> omega) _ | with_reducible refine Below.drew ?_ | with_reducible refine below_drewN ?_ _)) (hb4.out.mono (by simp <;> omega))
  have Z4 : Hid (w3.heap.size + 0 ≤ w4.heap.size) := by have h := hb4.out.size; (try simp at h); show _ ≤ _; omega
  replace XA0w := uhide (XA0w.out.mono (a' := w3.heap.size + 0) (by (try simp) <;> omega) (Nat.le_refl _))
  replace BXA0 := uhide (BXA0.out.below HB4.out)
  replace OXA0 := uhide (OXA0.out.below HB4.out)
  have B4 : Hid (Below w.heap.size w w4) := B3.out.trans (HB4.out.mono B3.out.size)
  clear hb4 HB4
  go_wp2_with fail
  refine (HIQ.out _ _ _ _ ((XA0.out.below (by repeat (first | with_reducible exact Below.refl _ _ | with_reducible refine Below.alloc ?_ (by simp <;> omega) _ | with_reducible refine Below.drew ?_ | with_reducible refine below_drewN ?_ _))).hand XA0w.out.2)).mono ?_
  rintro e w5 ⟨rfl, hb5⟩
  have HB5 : Hid (Below w4.heap.size w4 w5) := Below.trans (by repeat (first | with_reducible exact Below.refl _ _ | with_reducible refine Below.alloc ?_ (by simp <;> omega) _ | with_reducible refine Below.drew ?_ | with_reducible refine below_drewN ?_ _)) (hb5.out.mono (by simp <;> omega))
  have BYA0 : Hid (objU w5 (w4.heap.size) 41 [.int .i64 z0A0, .slice a1A0x n1A0 p1A0x, .slice a2A0x n2A0 p2A0x, .slice a3A0x n3A0 p3A0x]) := objU.below (by repeat (first | with_reducible exact objU.new2 _ _ (by simp) | with_reducible refine objU.old ?_ _)) hb5.out
  have Z5 : Hid (w4.heap.size + 1 ≤ w5.heap.size) := by have h := hb5.out.size; (try simp at h); show _ ≤ _; omega
  replace BXA0 := uhide (BXA0.out.below HB5.out)
  replace OXA0 := uhide (OXA0.out.below HB5.out)
  replace XA0 := uhide (XA0.out.below HB5.out)
  have B5 : Hid (Below w.heap.size w w5) := B4.out.trans (HB5.out.mono B4.out.size)
  clear hb5 HB5
  have qBYA00 := BYA0.out.cell 0 _ rfl
  have qBYA01 := BYA0.out.cell 1 _ rfl
  have qBYA02 := BYA0.out.cell 2 _ rfl
  have qBYA03 := BYA0.out.cell 3 _ rfl
  have qBXA00 := BXA0.out.cell 0 _ rfl
  have qBXA01 := BXA0.out.cell 1 _ rfl
  have qBXA02 := BXA0.out.cell 2 _ rfl
  have qBXA03 := BXA0.out.cell 3 _ rfl
  have RT : Hid (∀ wx, Below w5.heap.size w5 wx → Calls Try.prog 18 #[.agg #[.int .i64 z0A0, .slice a1A0 n1A0 p1A0, .slice a2A0 n2A0 p2A0, .slice a3A0 n3A0 p3A0]] wx fun e w' => ∃ a1rA0 p1rA0 a2rA0 p2rA0 a3rA0 p3rA0, e = .returned (.agg #[.int .i64 z0A0, .slice a1rA0 n1A0 p1rA0, .slice a2rA0 n2A0 p2rA0, .slice a3rA0 n3A0 p3rA0]) ∧ Hid (uH w' 0 w'.heap.size dA0 [.int .i64 z0A0, .slice a1rA0 n1A0 p1rA0, .slice a2rA0 n2A0 p2rA0, .slice a3rA0 n3A0 p3rA0]) ∧ Hid (Below w5.heap.size w5 w')) := fun wx hb => (HtoA0.out wx (B5.out.trans (hb.mono B5.out.size))).mono fun e w' ⟨a1rA0, p1rA0, a2rA0, p2rA0, a3rA0, p3rA0, S, h1, h2, h3, h4⟩ => ⟨a1rA0, p1rA0, a2rA0, p2rA0, a3rA0, p3rA0, h1, h2.out.hand (lo := 0) (hi := w'.heap.size) (fun g hg => ⟨Nat.zero_le _, (h3.out.2 g hg).2⟩), hb.trans (h4.out.mono hb.size)⟩
  have RE : Hid (∀ (wx : World) (ys : List Value) (lo hi : Nat), Below w5.heap.size w5 wx → uH wx lo hi dA0 ys → Calls Try.prog 20 #[.agg #[.int .i64 z0A0, .slice a1A0x n1A0 p1A0x, .slice a2A0x n2A0 p2A0x, .slice a3A0x n3A0 p3A0x], .agg ys.toArray] wx fun e w' => e = .returned (.bool true) ∧ Hid (Below w5.heap.size w5 w')) := fun wx ys lo hi hb h => (HeqA0.out wx _ _ lo hi _ ys ((XA0.out.below hb).hand XA0w.out.2) h).mono fun e w' h => ⟨h.1, hb.trans (h.2.out.mono hb.size)⟩
  have hb6r : Hid (Below w5.heap.size w5 w5) := Below.refl _ _
  go_wp2
  have hbr := hb6r
  go_region_with (first
    | (go_at_call 18; refine (RT.out _ (by repeat (first | with_reducible exact Below.refl _ _ | with_reducible exact hbr.out | with_reducible refine Below.drew ?_ | with_reducible refine below_drewN ?_ _))).mono ?_; rintro e wt ⟨a1A0t, p1A0t, a2A0t, p2A0t, a3A0t, p3A0t, rfl, XT, hbt⟩; replace hbr := hbt; have qBYA00r := (BYA0.out.below hbr.out).cell 0 _ rfl; have qBYA01r := (BYA0.out.below hbr.out).cell 1 _ rfl; have qBYA02r := (BYA0.out.below hbr.out).cell 2 _ rfl; have qBYA03r := (BYA0.out.below hbr.out).cell 3 _ rfl)
    | (go_at_call 20; refine (RE.out _ _ _ _ (by repeat (first | with_reducible exact Below.refl _ _ | with_reducible exact hbr.out | with_reducible refine Below.drew ?_ | with_reducible refine below_drewN ?_ _)) (by first | exact XT.out | exact XT.out.below (by repeat (first | with_reducible exact Below.refl _ _ | with_reducible refine Below.drew ?_ | with_reducible refine below_drewN ?_ _)))).mono ?_; rintro e w6 ⟨rfl, hb6⟩))
  all_goals (
    have HB6 := hb6
    have Z6 : Hid (w5.heap.size + 0 ≤ w6.heap.size) := HB6.out.size
    replace BXA0 := uhide (BXA0.out.below HB6.out)
    replace OXA0 := uhide (OXA0.out.below HB6.out)
    replace XA0 := uhide (XA0.out.below HB6.out)
    replace BYA0 := uhide (BYA0.out.below HB6.out)
    have B6 : Hid (Below w.heap.size w w6) := B5.out.trans (HB6.out.mono B5.out.size)
    clear hb6 HB6
    go_wp2
    go_ret
    exact ⟨rfl, by repeat (first | with_reducible exact B6.out | with_reducible refine Below.drew ?_ | with_reducible refine below_drewN ?_ _)⟩)
set_option maxRecDepth 100000 in
theorem lifted (os : Os) (started : os.Started) (H : Type) (enc : TypeId × Value → H) :
    ReturnsInHanded {} Try.checked os 5 .any (Rows.fnExactWeightOfSpec.pre6 enc Try.prog Try.f5 Rows.fnExactWeightOfRow.domain false) (Rows.fnExactWeightOfSpec.post enc Try.prog Try.f5 false true false false) := by
  refine returnsInHanded_of_change (C := Try.checked) own started (by kernel_rfl) Try.func5
    (ChangeSpec.witness6 (enc := enc) (C := Try.checked) false ⟨#[], #[.agg #[.int .i64 0, .slice none 0 0, .slice none 0 0, .slice none 0 0], .string ByteArray.empty], []⟩ 12 (by kernel_rfl) (by kernel_rfl) (by kernel_rfl) (by kernel_rfl)) ?_
  intro W base args ds gs before hval0 hW hcnd _
  have hval : ∀ (j : Nat) t v, Try.f5.params[j]? = some t → args[j]? = some v → Value.okWide Try.prog W .any base t v := hval0
  have hW' := hW
  obtain ⟨p, q, hA0, hV, rfl, hfz, hnd⟩ := hW
  have hA : DataW.TrodAll enc Try.prog W 0 (fun _ => true) true Try.f5.params.toList args.toList ds p := hA0
  rw [Try.params5] at hA hval
  obtain ⟨v0, vs0, d0, ds0, p0, q0, hargs, rfl, rfl, h0, r0⟩ := trodAll_cons hA
  obtain ⟨v1, vs1, d1, ds1, p1, q1, rfl, rfl, rfl, h1, r1⟩ := trodAll_cons r0
  obtain ⟨rfl, rfl, rfl⟩ := trodAll_nil r1
  obtain rfl : args = #[v0, v1] := by cases args; simp_all
  obtain ⟨rfl, rfl⟩ := trodVars_none hV
  obtain ⟨cs0, rfl, hsz0⟩ := okWide_struct Try.underlying35 (hval 0 35 v0 rfl rfl)
  have k0 := h0
  have lt0 : ∀ x ∈ p0, x.block < W.heap.size := by obtain ⟨m, hm⟩ := k0; exact DataW.trod_lt m _ _ _ hm
  obtain ⟨fuel0, hf0⟩ := h0
  obtain ⟨xs0, rfl⟩ : ∃ xs : List Value, cs0 = xs.toArray := ⟨cs0.toList, by simp⟩
  have hl0 : xs0.length = (uE 16).length := (show xs0.length = xs0.toArray.size by simp).trans (hsz0.trans (show Try.prog.cellsOf 35 = (uE 16).length by kernel_rfl))
  obtain ⟨dd0, hd0, hh0⟩ := openU (enc := enc) flatU fuel0 _ _ flatWant xs0 _ hl0 (by simpa [Value.cells] using hf0)
  obtain ⟨s1, rfl, rfl, rfl, w1⟩ := open_string Try.underlying9 (hval 1 9 v1 rfl rfl) h1
  clear hA0 hval0
  refine (walk dd0 xs0 s1 W hd0 hh0 w1).mono fun e W' ⟨he, bel⟩ => ?_
  subst he
  exact ⟨_, rfl, _, _, _, [], _, [], hW', trodAll_mk1 (shut_bool Try.underlying4 _), (trodAll_cons_mk (Below.trod laidOut (by kernel_rfl) (of_decide_eq_true (by kernel_rfl)) k0 bel lt0) (trodAll_cons_mk (shut_string Try.underlying9 w1) trodAll_mk0)), rfl, bel.frame _, fun h => by cases h⟩
end LWeightOf
theorem weightOf_holds : Rows.FnExactWeightOfSaid :=
  OpenClaim.holds_of_wide 5 Try.f5 rfl rfl rfl rfl rfl rfl rfl ⟨rfl, rfl, rfl, rfl, rfl⟩ rfl rfl rfl rfl rfl (by kernel_rfl) Try.func5 (by kernel_rfl)
    (of_decide_eq_true (by kernel_rfl)) (by unfold Func.isWrapper; first | (rw [if_pos (by decide +kernel)]; kernel_rfl) | (rw [if_neg (by decide +kernel)]; exact ⟨rfl, rfl⟩))
    (fun os started H enc _ => LWeightOf.lifted os started H enc)
#print axioms weightOf_holds
end Go.Proofs.Ytdnodaoeflbfkaa
