/- FnExactPlans holds: at any wants and islands impl.Plans answers what spec.Plans answers, in memory of its own. No conditions. -/
import Derived.Test.YtdnodaoeflbfkaaGreatRows
import Derived.Test.YtdnodaoeflbfkaaGreatJ7
import Derived.Test.YtdnodaoeflbfkaaGreatJ8
import Derived.Test.YtdnodaoeflbfkaaGreatJ1
import Derived.WalkKit
import Derived.ProofKit
import Derived.OpenShut
import Derived.ShutString
import Derived.ChangeOld
import Derived.Below
namespace Go.Proofs.YtdnodaoeflbfkaaGreat
open Go.ChangeShapes Go.WideShapes Go.ChangeAt Go.RowKit Go.BigFrame
open Go.ChangeMaps (open_string shut_string)
set_option linter.unusedVariables false
namespace LPlans
theorem laidOut : laidOutB Tryz.prog = true := by kernel_rfl
theorem own : ownKnob Tryz.prog.godebug = none := by kernel_rfl
def TYU : Nat → TypeId
  | 16 => 26
  | 5 => 177
  | 0 => 9
  | 15 => 180
  | 14 => 106
  | 4 => 241
  | _ => 0
def GU (n : Nat) : Prop := n = 16 ∨ n = 5 ∨ n = 0 ∨ n = 15 ∨ n = 14 ∨ n = 4
theorem flatWant : Flat Tryz.prog TYU GU 26 (uE 16) := by
  refine Flat.struct [[.i .i64], [.l 3 5], [.l 1 0], [.l 2 15]] Tryz.underlying26 rfl (fun i f s hf hs => ?_) (fun i f s hf hs => ?_)
  · match i, hf, hs with
    | 0, hf, hs => cases hf; cases hs; exact (Flat.i64 Tryz.underlying3)
    | 1, hf, hs => cases hf; cases hs; exact (Flat.slice 5 Tryz.underlying22 (by simp [GU]) (by kernel_rfl) (by decide))
    | 2, hf, hs => cases hf; cases hs; exact (Flat.slice 0 Tryz.underlying23 (by simp [GU]) (by kernel_rfl) (by decide))
    | 3, hf, hs => cases hf; cases hs; exact (Flat.slice 15 Tryz.underlying24 (by simp [GU]) (by kernel_rfl) (by decide))
    | i + 4, hf, hs => simp at hs
  · match i, hf, hs with
    | 0, hf, hs => cases hf; cases hs; exact ⟨by kernel_rfl, rfl⟩
    | 1, hf, hs => cases hf; cases hs; exact ⟨by kernel_rfl, rfl⟩
    | 2, hf, hs => cases hf; cases hs; exact ⟨by kernel_rfl, rfl⟩
    | 3, hf, hs => cases hf; cases hs; exact ⟨by kernel_rfl, rfl⟩
    | i + 4, hf, hs => simp at hs
theorem flatTerm : Flat Tryz.prog TYU GU 177 (uE 5) := by
  refine Flat.struct [[.i .i64], [.s], [.l 1 0]] Tryz.underlying177 rfl (fun i f s hf hs => ?_) (fun i f s hf hs => ?_)
  · match i, hf, hs with
    | 0, hf, hs => cases hf; cases hs; exact (Flat.i64 Tryz.underlying3)
    | 1, hf, hs => cases hf; cases hs; exact (Flat.str Tryz.underlying9)
    | 2, hf, hs => cases hf; cases hs; exact (Flat.slice 0 Tryz.underlying23 (by simp [GU]) (by kernel_rfl) (by decide))
    | i + 3, hf, hs => simp at hs
  · match i, hf, hs with
    | 0, hf, hs => cases hf; cases hs; exact ⟨by kernel_rfl, rfl⟩
    | 1, hf, hs => cases hf; cases hs; exact ⟨by kernel_rfl, rfl⟩
    | 2, hf, hs => cases hf; cases hs; exact ⟨by kernel_rfl, rfl⟩
    | i + 3, hf, hs => simp at hs
theorem flatWeigh : Flat Tryz.prog TYU GU 180 (uE 15) := by
  refine Flat.struct [[.s], [.i .i64]] Tryz.underlying180 rfl (fun i f s hf hs => ?_) (fun i f s hf hs => ?_)
  · match i, hf, hs with
    | 0, hf, hs => cases hf; cases hs; exact (Flat.str Tryz.underlying9)
    | 1, hf, hs => cases hf; cases hs; exact (Flat.i64 Tryz.underlying3)
    | i + 2, hf, hs => simp at hs
  · match i, hf, hs with
    | 0, hf, hs => cases hf; cases hs; exact ⟨by kernel_rfl, rfl⟩
    | 1, hf, hs => cases hf; cases hs; exact ⟨by kernel_rfl, rfl⟩
    | i + 2, hf, hs => simp at hs
theorem flatIsland : Flat Tryz.prog TYU GU 106 (uE 14) := by
  refine Flat.struct [[.s], [.l 2 4], [.l 1 0], [.i .i64]] Tryz.underlying106 rfl (fun i f s hf hs => ?_) (fun i f s hf hs => ?_)
  · match i, hf, hs with
    | 0, hf, hs => cases hf; cases hs; exact (Flat.str Tryz.underlying9)
    | 1, hf, hs => cases hf; cases hs; exact (Flat.slice 4 Tryz.underlying104 (by simp [GU]) (by kernel_rfl) (by decide))
    | 2, hf, hs => cases hf; cases hs; exact (Flat.slice 0 Tryz.underlying23 (by simp [GU]) (by kernel_rfl) (by decide))
    | 3, hf, hs => cases hf; cases hs; exact (Flat.i64 Tryz.underlying3)
    | i + 4, hf, hs => simp at hs
  · match i, hf, hs with
    | 0, hf, hs => cases hf; cases hs; exact ⟨by kernel_rfl, rfl⟩
    | 1, hf, hs => cases hf; cases hs; exact ⟨by kernel_rfl, rfl⟩
    | 2, hf, hs => cases hf; cases hs; exact ⟨by kernel_rfl, rfl⟩
    | 3, hf, hs => cases hf; cases hs; exact ⟨by kernel_rfl, rfl⟩
    | i + 4, hf, hs => simp at hs
theorem flatLabel : Flat Tryz.prog TYU GU 241 (uE 4) := by
  refine Flat.struct [[.s], [.s]] Tryz.underlying241 rfl (fun i f s hf hs => ?_) (fun i f s hf hs => ?_)
  · match i, hf, hs with
    | 0, hf, hs => cases hf; cases hs; exact (Flat.str Tryz.underlying9)
    | 1, hf, hs => cases hf; cases hs; exact (Flat.str Tryz.underlying9)
    | i + 2, hf, hs => simp at hs
  · match i, hf, hs with
    | 0, hf, hs => cases hf; cases hs; exact ⟨by kernel_rfl, rfl⟩
    | 1, hf, hs => cases hf; cases hs; exact ⟨by kernel_rfl, rfl⟩
    | i + 2, hf, hs => simp at hs
theorem flatU : ∀ n, GU n → Flat Tryz.prog TYU GU (TYU n) (uE n) := by
  intro n h
  unfold GU at h
  rcases h with rfl | rfl | rfl | rfl | rfl | rfl
  · exact flatWant
  · exact flatTerm
  · exact (Flat.str Tryz.underlying9)
  · exact flatWeigh
  · exact flatIsland
  · exact flatLabel
set_option maxRecDepth 20000 in
set_option maxHeartbeats 3200000 in
theorem walk (nA0 : Nat) (csA0 : UD) (cA0 : Value) (nA1 : Nat) (csA1 : UD) (cA1 : Value) (w : World) (htA0 : tyS 4 nA0 csA0 16) (hxA0 : uS w 0 w.heap.size 4 nA0 csA0 cA0) (htA1 : tyS 4 nA1 csA1 14) (hxA1 : uS w 0 w.heap.size 4 nA1 csA1 cA1) :
    Calls Tryz.prog 4 #[cA0, cA1] w fun e w' => e = .returned (.bool true) ∧ Below w.heap.size w w' := by
  obtain ⟨aA0, pA0, rfl, hx2A0⟩ := hxA0
  have OXA0 : Hid (uS w 0 w.heap.size 4 nA0 csA0 (.slice aA0 nA0 pA0)) := ⟨_, _, rfl, hx2A0⟩
  have HtA0 := uhide htA0
  clear hx2A0
  obtain ⟨aA1, pA1, rfl, hx2A1⟩ := hxA1
  have OXA1 : Hid (uS w 0 w.heap.size 4 nA1 csA1 (.slice aA1 nA1 pA1)) := ⟨_, _, rfl, hx2A1⟩
  have HtA1 := uhide htA1
  clear hx2A1
  obtain ⟨l1, hl1⟩ : ∃ l, leftI (1048576 : Int) (nA0 + wt csA0) = l := ⟨_, rfl⟩
  have HsA0 : Hid (∀ wx, Below w.heap.size w wx → Calls Tryz.prog 24 #[.slice aA0 nA0 pA0, .int .i64 1048576] wx fun e w' => e = .returned (.int .i64 l1) ∧ Hid (Below wx.heap.size wx w')) := fun wx hb => hl1 ▸ uszWantS_any (lo := 0) (hi := w.heap.size) nA0 csA0 _ 1048576 wx HtA0.out (by decide) (by decide) (OXA0.out.below hb)
  have hle0 : l1 ≤ 1048576 := by rw [← hl1]; unfold leftI; split <;> omega
  by_cases hn0 : l1 < 0
  · go_enter Tryz.func4, Tryz.ntmps4
    go_wp2_with fail
    refine (HsA0.out _ (by repeat (first | with_reducible exact Below.refl _ _ | with_reducible refine Below.alloc ?_ (by simp <;> omega) _ | with_reducible refine Below.drew ?_ | with_reducible refine below_drewN ?_ _))).mono ?_
    rintro e w1 ⟨rfl, hb1⟩
    have HB1 : Hid (Below w.heap.size w w1) := Below.trans (by repeat (first | with_reducible exact Below.refl _ _ | with_reducible refine Below.alloc ?_ (by simp <;> omega) _ | with_reducible refine Below.drew ?_ | with_reducible refine below_drewN ?_ _)) (hb1.out.mono (by simp <;> omega))
    have B1 : Hid (Below w.heap.size w w1) := HB1
    clear hb1
    go_wp2
    go_ret
    exact ⟨rfl, B1.out⟩
  have Hw0 : Hid (l1 = 1048576 - ((nA0 + wt csA0) : Nat)) := by show _ = _; rw [← hl1]; exact (leftI_pos 0 (by rw [hl1]; exact hn0)).2.1
  obtain ⟨l2, hl2⟩ : ∃ l, leftI l1 (nA1 + wt csA1) = l := ⟨_, rfl⟩
  have HsA1 : Hid (∀ wx, Below w.heap.size w wx → Calls Tryz.prog 11 #[.slice aA1 nA1 pA1, .int .i64 l1] wx fun e w' => e = .returned (.int .i64 l2) ∧ Hid (Below wx.heap.size wx w')) := fun wx hb => hl2 ▸ uszIslandS_any (lo := 0) (hi := w.heap.size) nA1 csA1 _ l1 wx HtA1.out (by omega) (by omega) (OXA1.out.below hb)
  have hle1 : l2 ≤ 1048576 := by rw [← hl2]; unfold leftI; split <;> omega
  by_cases hn1 : l2 < 0
  · go_enter Tryz.func4, Tryz.ntmps4
    go_wp2_with fail
    refine (HsA0.out _ (by repeat (first | with_reducible exact Below.refl _ _ | with_reducible refine Below.alloc ?_ (by simp <;> omega) _ | with_reducible refine Below.drew ?_ | with_reducible refine below_drewN ?_ _))).mono ?_
    rintro e w1 ⟨rfl, hb1⟩
    have HB1 : Hid (Below w.heap.size w w1) := Below.trans (by repeat (first | with_reducible exact Below.refl _ _ | with_reducible refine Below.alloc ?_ (by simp <;> omega) _ | with_reducible refine Below.drew ?_ | with_reducible refine below_drewN ?_ _)) (hb1.out.mono (by simp <;> omega))
    have B1 : Hid (Below w.heap.size w w1) := HB1
    clear hb1
    go_wp2_with fail
    refine (HsA1.out _ (by repeat (first | with_reducible exact B1.out | with_reducible refine Below.alloc ?_ (by have := B1.out.size; (try simp) <;> omega) _ | with_reducible refine Below.drew ?_ | with_reducible refine below_drewN ?_ _))).mono ?_
    rintro e w2 ⟨rfl, hb2⟩
    have HB2 : Hid (Below w1.heap.size w1 w2) := Below.trans (by repeat (first | with_reducible exact Below.refl _ _ | with_reducible refine Below.alloc ?_ (by simp <;> omega) _ | with_reducible refine Below.drew ?_ | with_reducible refine below_drewN ?_ _)) (hb2.out.mono (by simp <;> omega))
    have B2 : Hid (Below w.heap.size w w2) := B1.out.trans (HB2.out.mono B1.out.size)
    clear hb2
    go_wp2
    go_ret
    exact ⟨rfl, B2.out⟩
  have Hw1 : Hid (l2 = l1 - ((nA1 + wt csA1) : Nat)) := by show _ = _; rw [← hl2]; exact (leftI_pos 0 (by rw [hl2]; exact hn1)).2.1
  have hw0 := Hw0.out
  have hw1 := Hw1.out
  obtain ⟨nR0, csR0, hrR0, hcR0, HSP, HIM⟩ := plans_both nA0 csA0 nA1 csA1 HtA0.out HtA1.out (by omega)
  replace HSP := uhide HSP
  replace HIM := uhide HIM
  have HrR0 := uhide hrR0
  clear hrR0
  have HSQ : Hid (∀ (wx : World) (loA0 hiA0 : Nat) (cA0 : Value) (loA1 hiA1 : Nat) (cA1 : Value), uS wx loA0 hiA0 4 nA0 csA0 cA0 → uS wx loA1 hiA1 4 nA1 csA1 cA1 → Calls Tryz.prog 25 #[cA0, cA1] wx fun e w' => ∃ aR0 pR0, e = .returned (.slice aR0 nR0 pR0) ∧ Hid (uS w' 0 w'.heap.size 1 nR0 csR0 (.slice aR0 nR0 pR0)) ∧ Hid (Below wx.heap.size wx w')) := fun wx loA0 hiA0 cA0 loA1 hiA1 cA1 hA0 hA1 => (HSP.out _ _ _ _ _ _ _ hA0 hA1).mono fun e w' ⟨cR0, h1, kR0, hb⟩ => by
    obtain ⟨aR0, pR0, rfl⟩ := (show ∃ a p, cR0 = .slice a nR0 p from by obtain ⟨a, p, h, _⟩ := kR0; exact ⟨a, p, h⟩)
    exact ⟨aR0, pR0, h1, kR0, hb⟩
  have HIQ : Hid (∀ (wx : World) (loA0 hiA0 : Nat) (cA0 : Value) (loA1 hiA1 : Nat) (cA1 : Value), uS wx loA0 hiA0 4 nA0 csA0 cA0 → uS wx loA1 hiA1 4 nA1 csA1 cA1 → Calls Tryz.prog 27 #[cA0, cA1] wx fun e w' => ∃ aR0 pR0 SR0, e = .returned (.slice aR0 nR0 pR0) ∧ Hid (oS w' 1 nR0 csR0 (.slice aR0 nR0 pR0) SR0) ∧ Hid (own2 SR0 wx.heap.size w'.heap.size) ∧ Hid (Below wx.heap.size wx w')) := fun wx loA0 hiA0 cA0 loA1 hiA1 cA1 hA0 hA1 => (HIM.out _ _ _ _ _ _ _ hA0 hA1).mono fun e w' ⟨cR0, SR0, h1, kR0, oR0, hb⟩ => by
    obtain ⟨aR0, pR0, rfl⟩ := kR0.slice
    exact ⟨aR0, pR0, SR0, h1, kR0, oR0, hb⟩
  clear HSP HIM
  have hctA0 : cnt csA0 ≤ 42000000 := by have := cnt_wt HtA0.out; omega
  have hctA1 : cnt csA1 ≤ 42000000 := by have := cnt_wt HtA1.out; omega
  have hctR0 : cnt csR0 ≤ 50000000 := by exact hcR0
  have HtoA0 : Hid (∀ wx, Below w.heap.size w wx → Calls Tryz.prog 26 #[.slice aA0 nA0 pA0] wx fun e w' => ∃ aA0r pA0r S, e = .returned (.slice aA0r nA0 pA0r) ∧ Hid (oS w' 4 nA0 csA0 (.slice aA0r nA0 pA0r) S) ∧ Hid (own2 S wx.heap.size w'.heap.size) ∧ Hid (Below wx.heap.size wx w')) := fun wx hb => (utoWantS_any (lo := 0) (hi := w.heap.size) nA0 csA0 _ wx HtA0.out (by omega) (OXA0.out.below hb)).mono fun e w' ⟨c, S, h1, h2, h3, h4, h5⟩ => by
    obtain ⟨a, p, rfl⟩ := h2.slice
    exact ⟨a, p, S, h1, h2, ⟨h3, fun s hs => ⟨h4 s hs, h2.lt s hs⟩⟩, h5⟩
  have HtoA1 : Hid (∀ wx, Below w.heap.size w wx → Calls Tryz.prog 14 #[.slice aA1 nA1 pA1] wx fun e w' => ∃ aA1r pA1r S, e = .returned (.slice aA1r nA1 pA1r) ∧ Hid (oS w' 4 nA1 csA1 (.slice aA1r nA1 pA1r) S) ∧ Hid (own2 S wx.heap.size w'.heap.size) ∧ Hid (Below wx.heap.size wx w')) := fun wx hb => (utoIslandS_any (lo := 0) (hi := w.heap.size) nA1 csA1 _ wx HtA1.out (by omega) (OXA1.out.below hb)).mono fun e w' ⟨c, S, h1, h2, h3, h4, h5⟩ => by
    obtain ⟨a, p, rfl⟩ := h2.slice
    exact ⟨a, p, S, h1, h2, ⟨h3, fun s hs => ⟨h4 s hs, h2.lt s hs⟩⟩, h5⟩
  have HeqA0 : Hid (∀ (wx : World) (lo hi lo' hi' : Nat) (y y' : Value), uS wx lo hi 4 nA0 csA0 y → uS wx lo' hi' 4 nA0 csA0 y' → Calls Tryz.prog 29 #[y, y'] wx fun e w' => e = .returned (.bool true) ∧ Hid (Below wx.heap.size wx w')) := fun wx lo hi lo' hi' y y' h1 h2 => ueqWantS_any (lo := lo) (hi := hi) (lo' := lo') (hi' := hi') _ _ _ _ wx HtA0.out h1 h2
  have HeqA1 : Hid (∀ (wx : World) (lo hi lo' hi' : Nat) (y y' : Value), uS wx lo hi 4 nA1 csA1 y → uS wx lo' hi' 4 nA1 csA1 y' → Calls Tryz.prog 19 #[y, y'] wx fun e w' => e = .returned (.bool true) ∧ Hid (Below wx.heap.size wx w')) := fun wx lo hi lo' hi' y y' h1 h2 => ueqIslandS_any (lo := lo) (hi := hi) (lo' := lo') (hi' := hi') _ _ _ _ wx HtA1.out h1 h2
  have HeqR0 : Hid (∀ (wx : World) (lo hi lo' hi' : Nat) (y y' : Value), uS wx lo hi 1 nR0 csR0 y → uS wx lo' hi' 1 nR0 csR0 y' → Calls Tryz.prog 28 #[y, y'] wx fun e w' => e = .returned (.bool true) ∧ Hid (Below wx.heap.size wx w')) := fun wx lo hi lo' hi' y y' h1 h2 => ueqIntSS_any (lo := lo) (hi := hi) (lo' := lo') (hi' := hi') _ _ _ _ wx HrR0.out h1 h2
  have HmkA0 : Hid (∀ (wx : World) (y : Value) (S : List Nat) (x : Int) (lo hi : Nat), oS wx 4 nA0 csA0 y S → own2 S lo hi → x = ((1 : Nat) : Int) → Calls Tryz.prog 30 #[y, .int .i64 x] wx fun e w' => e = .returned (.int .i64 ((1 + cnt csA0) : Nat)) ∧ OutS S wx w') := fun wx y S x lo hi h hO hx => by
    rw [hx]
    exact (umarkWantS_any nA0 1 csA0 _ S wx HtA0.out hO.1 (by omega) (by omega) h).mono fun e w' h => ⟨h.1, h.2.2⟩
  have HmkA1 : Hid (∀ (wx : World) (y : Value) (S : List Nat) (x : Int) (lo hi : Nat), oS wx 4 nA1 csA1 y S → own2 S lo hi → x = (((1 + cnt csA0) : Nat) : Int) → Calls Tryz.prog 21 #[y, .int .i64 x] wx fun e w' => e = .returned (.int .i64 (((1 + cnt csA0) + cnt csA1) : Nat)) ∧ OutS S wx w') := fun wx y S x lo hi h hO hx => by
    rw [hx]
    exact (umarkIslandS_any nA1 (1 + cnt csA0) csA1 _ S wx HtA1.out hO.1 (by omega) (by omega) h).mono fun e w' h => ⟨h.1, h.2.2⟩
  have HmkR0 : Hid (∀ (wx : World) (y : Value) (S : List Nat) (x : Int) (lo hi : Nat), oS wx 1 nR0 csR0 y S → own2 S lo hi → x = ((1 : Nat) : Int) → Calls Tryz.prog 31 #[y, .int .i64 x] wx fun e w' => e = .returned (.int .i64 ((1 + cnt csR0) : Nat)) ∧ oS w' 1 nR0 (mk csR0 1) y S ∧ OutS S wx w') := fun wx y S x lo hi h hO hx => by
    rw [hx]
    exact umarkIntSS_any nR0 1 csR0 _ S wx HrR0.out hO.1 (by omega) (by omega) h
  have HhdR0 : Hid (∀ (wx : World) (y : Value) (x : Int) (lo hi : Nat), uS wx lo hi 1 nR0 (mk csR0 1) y → x = ((1 : Nat) : Int) → Calls Tryz.prog 32 #[y, .int .i64 x] wx fun e w' => e = .returned (.int .i64 ((1 + cnt csR0) : Nat)) ∧ Hid (Below wx.heap.size wx w')) := fun wx y x lo hi h hx => by
    rw [hx]
    exact uheldIntSS_any (lo := lo) (hi := hi) nR0 1 csR0 _ wx HrR0.out (by omega) (by omega) h
  clear hw0 hw1 hle0 hle1 hl1 hl2 htA0 htA1 hcR0
  go_enter Tryz.func4, Tryz.ntmps4
  generalize cnt csA0 = mA0 at *
  generalize cnt csA1 = mA1 at *
  generalize cnt csR0 = mR0 at *
  go_wp2_with fail
  refine (HsA0.out _ (by repeat (first | with_reducible exact Below.refl _ _ | with_reducible refine Below.alloc ?_ (by simp <;> omega) _ | with_reducible refine Below.drew ?_ | with_reducible refine below_drewN ?_ _))).mono ?_
  rintro e w1 ⟨rfl, hb1⟩
  have HB1 : Hid (Below w.heap.size w w1) := Below.trans (by repeat (first | with_reducible exact Below.refl _ _ | with_reducible refine Below.alloc ?_ (by simp <;> omega) _ | with_reducible refine Below.drew ?_ | with_reducible refine below_drewN ?_ _)) (hb1.out.mono (by simp <;> omega))
  have B1 : Hid (Below w.heap.size w w1) := HB1
  clear hb1
  go_wp2_with fail
  refine (HsA1.out _ (by repeat (first | with_reducible exact B1.out | with_reducible refine Below.alloc ?_ (by have := B1.out.size; (try simp) <;> omega) _ | with_reducible refine Below.drew ?_ | with_reducible refine below_drewN ?_ _))).mono ?_
  rintro e w2 ⟨rfl, hb2⟩
  have HB2 : Hid (Below w1.heap.size w1 w2) := Below.trans (by repeat (first | with_reducible exact Below.refl _ _ | with_reducible refine Below.alloc ?_ (by simp <;> omega) _ | with_reducible refine Below.drew ?_ | with_reducible refine below_drewN ?_ _)) (hb2.out.mono (by simp <;> omega))
  have B2 : Hid (Below w.heap.size w w2) := B1.out.trans (HB2.out.mono B1.out.size)
  clear hb2
  replace OXA0 := uhide (OXA0.out.below B2.out)
  replace OXA1 := uhide (OXA1.out.below B2.out)
  have Zb : Hid (w.heap.size + 0 ≤ w2.heap.size) := B2.out.size
  go_wp2_with fail
  refine (HtoA0.out _ (by repeat (first | with_reducible exact B2.out | with_reducible refine Below.alloc ?_ (by have := B2.out.size; (try simp) <;> omega) _ | with_reducible refine Below.drew ?_ | with_reducible refine below_drewN ?_ _))).mono ?_
  rintro e w3 ⟨aA0y, pA0y, SYA0, rfl, YA0, YA0w, hb3⟩
  have HB3 : Hid (Below w2.heap.size w2 w3) := Below.trans (by repeat (first | with_reducible exact Below.refl _ _ | with_reducible refine Below.alloc ?_ (by simp <;> omega) _ | with_reducible refine Below.drew ?_ | with_reducible refine below_drewN ?_ _)) (hb3.out.mono (by simp <;> omega))
  have Z3 : Hid (w2.heap.size + 0 ≤ w3.heap.size) := by have h := hb3.out.size; (try simp at h); show _ ≤ _; omega
  replace YA0w := uhide (YA0w.out.mono (a' := w2.heap.size + 0) (by (try simp) <;> omega) (Nat.le_refl _))
  replace OXA0 := uhide (OXA0.out.below HB3.out)
  replace OXA1 := uhide (OXA1.out.below HB3.out)
  have B3 : Hid (Below w.heap.size w w3) := B2.out.trans (HB3.out.mono B2.out.size)
  clear hb3 HB3
  go_wp2_with fail
  refine (HtoA1.out _ (by repeat (first | with_reducible exact B3.out | with_reducible refine Below.alloc ?_ (by have := B3.out.size; (try simp) <;> omega) _ | with_reducible refine Below.drew ?_ | with_reducible refine below_drewN ?_ _))).mono ?_
  rintro e w4 ⟨aA1y, pA1y, SYA1, rfl, YA1, YA1w, hb4⟩
  have HB4 : Hid (Below w3.heap.size w3 w4) := Below.trans (by repeat (first | with_reducible exact Below.refl _ _ | with_reducible refine Below.alloc ?_ (by simp <;> omega) _ | with_reducible refine Below.drew ?_ | with_reducible refine below_drewN ?_ _)) (hb4.out.mono (by simp <;> omega))
  have Z4 : Hid (w3.heap.size + 0 ≤ w4.heap.size) := by have h := hb4.out.size; (try simp at h); show _ ≤ _; omega
  replace YA1w := uhide (YA1w.out.mono (a' := w3.heap.size + 0) (by (try simp) <;> omega) (Nat.le_refl _))
  replace OXA0 := uhide (OXA0.out.below HB4.out)
  replace OXA1 := uhide (OXA1.out.below HB4.out)
  replace YA0 := uhide (YA0.out.below HB4.out)
  have B4 : Hid (Below w.heap.size w w4) := B3.out.trans (HB4.out.mono B3.out.size)
  clear hb4 HB4
  go_wp2_with fail
  refine (HSQ.out _ _ _ _ _ _ _ ((YA0.out.below (by repeat (first | with_reducible exact Below.refl _ _ | with_reducible refine Below.alloc ?_ (by simp <;> omega) _ | with_reducible refine Below.drew ?_ | with_reducible refine below_drewN ?_ _))).u YA0w.out.2) ((YA1.out.below (by repeat (first | with_reducible exact Below.refl _ _ | with_reducible refine Below.alloc ?_ (by simp <;> omega) _ | with_reducible refine Below.drew ?_ | with_reducible refine below_drewN ?_ _))).u YA1w.out.2)).mono ?_
  rintro e w5 ⟨aR0w, pR0w, rfl, WR0, hb5⟩
  have HB5 : Hid (Below w4.heap.size w4 w5) := Below.trans (by repeat (first | with_reducible exact Below.refl _ _ | with_reducible refine Below.alloc ?_ (by simp <;> omega) _ | with_reducible refine Below.drew ?_ | with_reducible refine below_drewN ?_ _)) (hb5.out.mono (by simp <;> omega))
  have Z5 : Hid (w4.heap.size + 0 ≤ w5.heap.size) := by have h := hb5.out.size; (try simp at h); show _ ≤ _; omega
  replace OXA0 := uhide (OXA0.out.below HB5.out)
  replace OXA1 := uhide (OXA1.out.below HB5.out)
  replace YA0 := uhide (YA0.out.below HB5.out)
  replace YA1 := uhide (YA1.out.below HB5.out)
  have B5 : Hid (Below w.heap.size w w5) := B4.out.trans (HB5.out.mono B4.out.size)
  clear hb5 HB5
  clear YA0 YA0w YA1 YA1w
  go_wp2_with fail
  refine (HtoA0.out _ (by repeat (first | with_reducible exact B5.out | with_reducible refine Below.alloc ?_ (by have := B5.out.size; (try simp) <;> omega) _ | with_reducible refine Below.drew ?_ | with_reducible refine below_drewN ?_ _))).mono ?_
  rintro e w6 ⟨aA0x, pA0x, SXA0, rfl, XA0, XA0w, hb6⟩
  have HB6 : Hid (Below w5.heap.size w5 w6) := Below.trans (by repeat (first | with_reducible exact Below.refl _ _ | with_reducible refine Below.alloc ?_ (by simp <;> omega) _ | with_reducible refine Below.drew ?_ | with_reducible refine below_drewN ?_ _)) (hb6.out.mono (by simp <;> omega))
  have Z6 : Hid (w5.heap.size + 0 ≤ w6.heap.size) := by have h := hb6.out.size; (try simp at h); show _ ≤ _; omega
  replace XA0w := uhide (XA0w.out.mono (a' := w5.heap.size + 0) (by (try simp) <;> omega) (Nat.le_refl _))
  replace OXA0 := uhide (OXA0.out.below HB6.out)
  replace OXA1 := uhide (OXA1.out.below HB6.out)
  replace WR0 := uhide (WR0.out.below HB6.out)
  have B6 : Hid (Below w.heap.size w w6) := B5.out.trans (HB6.out.mono B5.out.size)
  clear hb6 HB6
  go_wp2_with fail
  refine (HtoA1.out _ (by repeat (first | with_reducible exact B6.out | with_reducible refine Below.alloc ?_ (by have := B6.out.size; (try simp) <;> omega) _ | with_reducible refine Below.drew ?_ | with_reducible refine below_drewN ?_ _))).mono ?_
  rintro e w7 ⟨aA1x, pA1x, SXA1, rfl, XA1, XA1w, hb7⟩
  have HB7 : Hid (Below w6.heap.size w6 w7) := Below.trans (by repeat (first | with_reducible exact Below.refl _ _ | with_reducible refine Below.alloc ?_ (by simp <;> omega) _ | with_reducible refine Below.drew ?_ | with_reducible refine below_drewN ?_ _)) (hb7.out.mono (by simp <;> omega))
  have Z7 : Hid (w6.heap.size + 0 ≤ w7.heap.size) := by have h := hb7.out.size; (try simp at h); show _ ≤ _; omega
  replace XA1w := uhide (XA1w.out.mono (a' := w6.heap.size + 0) (by (try simp) <;> omega) (Nat.le_refl _))
  replace OXA0 := uhide (OXA0.out.below HB7.out)
  replace OXA1 := uhide (OXA1.out.below HB7.out)
  replace WR0 := uhide (WR0.out.below HB7.out)
  replace XA0 := uhide (XA0.out.below HB7.out)
  have B7 : Hid (Below w.heap.size w w7) := B6.out.trans (HB7.out.mono B6.out.size)
  clear hb7 HB7
  go_wp2_with fail
  refine (HIQ.out _ _ _ _ _ _ _ ((XA0.out.below (by repeat (first | with_reducible exact Below.refl _ _ | with_reducible refine Below.alloc ?_ (by simp <;> omega) _ | with_reducible refine Below.drew ?_ | with_reducible refine below_drewN ?_ _))).u XA0w.out.2) ((XA1.out.below (by repeat (first | with_reducible exact Below.refl _ _ | with_reducible refine Below.alloc ?_ (by simp <;> omega) _ | with_reducible refine Below.drew ?_ | with_reducible refine below_drewN ?_ _))).u XA1w.out.2)).mono ?_
  rintro e w8 ⟨aR0g, pR0g, SR0g, rfl, GR0, GR0w, hb8⟩
  have HB8 : Hid (Below w7.heap.size w7 w8) := Below.trans (by repeat (first | with_reducible exact Below.refl _ _ | with_reducible refine Below.alloc ?_ (by simp <;> omega) _ | with_reducible refine Below.drew ?_ | with_reducible refine below_drewN ?_ _)) (hb8.out.mono (by simp <;> omega))
  have Z8 : Hid (w7.heap.size + 0 ≤ w8.heap.size) := by have h := hb8.out.size; (try simp at h); show _ ≤ _; omega
  replace GR0w := uhide (GR0w.out.mono (a' := w7.heap.size + 0) (by (try simp) <;> omega) (Nat.le_refl _))
  replace OXA0 := uhide (OXA0.out.below HB8.out)
  replace OXA1 := uhide (OXA1.out.below HB8.out)
  replace WR0 := uhide (WR0.out.below HB8.out)
  replace XA0 := uhide (XA0.out.below HB8.out)
  replace XA1 := uhide (XA1.out.below HB8.out)
  have B8 : Hid (Below w.heap.size w w8) := B7.out.trans (HB8.out.mono B7.out.size)
  clear hb8 HB8
  go_wp2_with fail
  refine (HeqR0.out _ _ _ _ _ _ _ ((GR0.out.below (by repeat (first | with_reducible exact Below.refl _ _ | with_reducible refine Below.alloc ?_ (by simp <;> omega) _ | with_reducible refine Below.drew ?_ | with_reducible refine below_drewN ?_ _))).u GR0w.out.2) (WR0.out.below (by repeat (first | with_reducible exact Below.refl _ _ | with_reducible refine Below.alloc ?_ (by simp <;> omega) _ | with_reducible refine Below.drew ?_ | with_reducible refine below_drewN ?_ _)))).mono ?_
  rintro e w9 ⟨rfl, hb9⟩
  have HB9 : Hid (Below w8.heap.size w8 w9) := Below.trans (by repeat (first | with_reducible exact Below.refl _ _ | with_reducible refine Below.alloc ?_ (by simp <;> omega) _ | with_reducible refine Below.drew ?_ | with_reducible refine below_drewN ?_ _)) (hb9.out.mono (by simp <;> omega))
  have Z9 : Hid (w8.heap.size + 0 ≤ w9.heap.size) := by have h := hb9.out.size; (try simp at h); show _ ≤ _; omega
  replace OXA0 := uhide (OXA0.out.below HB9.out)
  replace OXA1 := uhide (OXA1.out.below HB9.out)
  replace WR0 := uhide (WR0.out.below HB9.out)
  replace XA0 := uhide (XA0.out.below HB9.out)
  replace XA1 := uhide (XA1.out.below HB9.out)
  replace GR0 := uhide (GR0.out.below HB9.out)
  have B9 : Hid (Below w.heap.size w w9) := B8.out.trans (HB9.out.mono B8.out.size)
  clear hb9 HB9
  go_wp2_with fail
  refine (HtoA0.out _ (by repeat (first | with_reducible exact B9.out | with_reducible refine Below.alloc ?_ (by have := B9.out.size; (try simp) <;> omega) _ | with_reducible refine Below.drew ?_ | with_reducible refine below_drewN ?_ _))).mono ?_
  rintro e w10 ⟨aA0v, pA0v, SVA0, rfl, VA0, VA0w, hb10⟩
  have HB10 : Hid (Below w9.heap.size w9 w10) := Below.trans (by repeat (first | with_reducible exact Below.refl _ _ | with_reducible refine Below.alloc ?_ (by simp <;> omega) _ | with_reducible refine Below.drew ?_ | with_reducible refine below_drewN ?_ _)) (hb10.out.mono (by simp <;> omega))
  have Z10 : Hid (w9.heap.size + 0 ≤ w10.heap.size) := by have h := hb10.out.size; (try simp at h); show _ ≤ _; omega
  replace VA0w := uhide (VA0w.out.mono (a' := w9.heap.size + 0) (by (try simp) <;> omega) (Nat.le_refl _))
  replace OXA0 := uhide (OXA0.out.below HB10.out)
  replace OXA1 := uhide (OXA1.out.below HB10.out)
  replace WR0 := uhide (WR0.out.below HB10.out)
  replace XA0 := uhide (XA0.out.below HB10.out)
  replace XA1 := uhide (XA1.out.below HB10.out)
  replace GR0 := uhide (GR0.out.below HB10.out)
  have B10 : Hid (Below w.heap.size w w10) := B9.out.trans (HB10.out.mono B9.out.size)
  clear hb10 HB10
  go_wp2_with fail
  refine (HeqA0.out _ _ _ _ _ _ _ ((XA0.out.below (by repeat (first | with_reducible exact Below.refl _ _ | with_reducible refine Below.alloc ?_ (by simp <;> omega) _ | with_reducible refine Below.drew ?_ | with_reducible refine below_drewN ?_ _))).u XA0w.out.2) ((VA0.out.below (by repeat (first | with_reducible exact Below.refl _ _ | with_reducible refine Below.alloc ?_ (by simp <;> omega) _ | with_reducible refine Below.drew ?_ | with_reducible refine below_drewN ?_ _))).u VA0w.out.2)).mono ?_
  rintro e w11 ⟨rfl, hb11⟩
  have HB11 : Hid (Below w10.heap.size w10 w11) := Below.trans (by repeat (first | with_reducible exact Below.refl _ _ | with_reducible refine Below.alloc ?_ (by simp <;> omega) _ | with_reducible refine Below.drew ?_ | with_reducible refine below_drewN ?_ _)) (hb11.out.mono (by simp <;> omega))
  have Z11 : Hid (w10.heap.size + 0 ≤ w11.heap.size) := by have h := hb11.out.size; (try simp at h); show _ ≤ _; omega
  replace OXA0 := uhide (OXA0.out.below HB11.out)
  replace OXA1 := uhide (OXA1.out.below HB11.out)
  replace WR0 := uhide (WR0.out.below HB11.out)
  replace XA0 := uhide (XA0.out.below HB11.out)
  replace XA1 := uhide (XA1.out.below HB11.out)
  replace GR0 := uhide (GR0.out.below HB11.out)
  replace VA0 := uhide (VA0.out.below HB11.out)
  have B11 : Hid (Below w.heap.size w w11) := B10.out.trans (HB11.out.mono B10.out.size)
  clear hb11 HB11
  go_wp2_with fail
  refine (HtoA1.out _ (by repeat (first | with_reducible exact B11.out | with_reducible refine Below.alloc ?_ (by have := B11.out.size; (try simp) <;> omega) _ | with_reducible refine Below.drew ?_ | with_reducible refine below_drewN ?_ _))).mono ?_
  rintro e w12 ⟨aA1v, pA1v, SVA1, rfl, VA1, VA1w, hb12⟩
  have HB12 : Hid (Below w11.heap.size w11 w12) := Below.trans (by repeat (first | with_reducible exact Below.refl _ _ | with_reducible refine Below.alloc ?_ (by simp <;> omega) _ | with_reducible refine Below.drew ?_ | with_reducible refine below_drewN ?_ _)) (hb12.out.mono (by simp <;> omega))
  have Z12 : Hid (w11.heap.size + 0 ≤ w12.heap.size) := by have h := hb12.out.size; (try simp at h); show _ ≤ _; omega
  replace VA1w := uhide (VA1w.out.mono (a' := w11.heap.size + 0) (by (try simp) <;> omega) (Nat.le_refl _))
  replace OXA0 := uhide (OXA0.out.below HB12.out)
  replace OXA1 := uhide (OXA1.out.below HB12.out)
  replace WR0 := uhide (WR0.out.below HB12.out)
  replace XA0 := uhide (XA0.out.below HB12.out)
  replace XA1 := uhide (XA1.out.below HB12.out)
  replace GR0 := uhide (GR0.out.below HB12.out)
  have B12 : Hid (Below w.heap.size w w12) := B11.out.trans (HB12.out.mono B11.out.size)
  clear hb12 HB12
  go_wp2_with fail
  refine (HeqA1.out _ _ _ _ _ _ _ ((XA1.out.below (by repeat (first | with_reducible exact Below.refl _ _ | with_reducible refine Below.alloc ?_ (by simp <;> omega) _ | with_reducible refine Below.drew ?_ | with_reducible refine below_drewN ?_ _))).u XA1w.out.2) ((VA1.out.below (by repeat (first | with_reducible exact Below.refl _ _ | with_reducible refine Below.alloc ?_ (by simp <;> omega) _ | with_reducible refine Below.drew ?_ | with_reducible refine below_drewN ?_ _))).u VA1w.out.2)).mono ?_
  rintro e w13 ⟨rfl, hb13⟩
  have HB13 : Hid (Below w12.heap.size w12 w13) := Below.trans (by repeat (first | with_reducible exact Below.refl _ _ | with_reducible refine Below.alloc ?_ (by simp <;> omega) _ | with_reducible refine Below.drew ?_ | with_reducible refine below_drewN ?_ _)) (hb13.out.mono (by simp <;> omega))
  have Z13 : Hid (w12.heap.size + 0 ≤ w13.heap.size) := by have h := hb13.out.size; (try simp at h); show _ ≤ _; omega
  replace OXA0 := uhide (OXA0.out.below HB13.out)
  replace OXA1 := uhide (OXA1.out.below HB13.out)
  replace WR0 := uhide (WR0.out.below HB13.out)
  replace XA0 := uhide (XA0.out.below HB13.out)
  replace XA1 := uhide (XA1.out.below HB13.out)
  replace GR0 := uhide (GR0.out.below HB13.out)
  replace VA1 := uhide (VA1.out.below HB13.out)
  have B13 : Hid (Below w.heap.size w w13) := B12.out.trans (HB13.out.mono B12.out.size)
  clear hb13 HB13
  go_wp2_with fail
  refine (HmkA0.out _ _ _ _ _ _ XA0.out XA0w.out (by omega)).mono ?_
  rintro e w14 ⟨rfl, ho14⟩
  replace OXA0 := uhide (OXA0.out.out (XA0w.out.out ho14) (by have := Zb.out; have := Z3.out; have := Z4.out; have := Z5.out; have := Z6.out; have := Z7.out; have := Z8.out; have := Z9.out; have := Z10.out; have := Z11.out; have := Z12.out; have := Z13.out; omega))
  replace OXA1 := uhide (OXA1.out.out (XA0w.out.out ho14) (by have := Zb.out; have := Z3.out; have := Z4.out; have := Z5.out; have := Z6.out; have := Z7.out; have := Z8.out; have := Z9.out; have := Z10.out; have := Z11.out; have := Z12.out; have := Z13.out; omega))
  replace WR0 := uhide (WR0.out.out (XA0w.out.out ho14) (by have := Zb.out; have := Z3.out; have := Z4.out; have := Z5.out; have := Z6.out; have := Z7.out; have := Z8.out; have := Z9.out; have := Z10.out; have := Z11.out; have := Z12.out; have := Z13.out; omega))
  replace XA1 := uhide (XA1.out.outs ho14 XA1w.out (fun x hx => by have := XA0w.out.2 x hx; have := Zb.out; have := Z3.out; have := Z4.out; have := Z5.out; have := Z6.out; have := Z7.out; have := Z8.out; have := Z9.out; have := Z10.out; have := Z11.out; have := Z12.out; have := Z13.out; omega))
  replace GR0 := uhide (GR0.out.outs ho14 GR0w.out (fun x hx => by have := XA0w.out.2 x hx; have := Zb.out; have := Z3.out; have := Z4.out; have := Z5.out; have := Z6.out; have := Z7.out; have := Z8.out; have := Z9.out; have := Z10.out; have := Z11.out; have := Z12.out; have := Z13.out; omega))
  have Z14 : Hid (w13.heap.size + 0 ≤ w14.heap.size) := ho14.size
  have B14 : Hid (Below w.heap.size w w14) := B13.out.trans (XA0w.out.below ho14 (by have := B2.out.size; have := Zb.out; have := Z3.out; have := Z4.out; have := Z5.out; have := Z6.out; have := Z7.out; have := Z8.out; have := Z9.out; have := Z10.out; have := Z11.out; have := Z12.out; have := Z13.out; omega) B13.out.size)
  clear ho14
  go_wp2_with fail
  refine (HmkA1.out _ _ _ _ _ _ XA1.out XA1w.out (by omega)).mono ?_
  rintro e w15 ⟨rfl, ho15⟩
  replace OXA0 := uhide (OXA0.out.out (XA1w.out.out ho15) (by have := Zb.out; have := Z3.out; have := Z4.out; have := Z5.out; have := Z6.out; have := Z7.out; have := Z8.out; have := Z9.out; have := Z10.out; have := Z11.out; have := Z12.out; have := Z13.out; have := Z14.out; omega))
  replace OXA1 := uhide (OXA1.out.out (XA1w.out.out ho15) (by have := Zb.out; have := Z3.out; have := Z4.out; have := Z5.out; have := Z6.out; have := Z7.out; have := Z8.out; have := Z9.out; have := Z10.out; have := Z11.out; have := Z12.out; have := Z13.out; have := Z14.out; omega))
  replace WR0 := uhide (WR0.out.out (XA1w.out.out ho15) (by have := Zb.out; have := Z3.out; have := Z4.out; have := Z5.out; have := Z6.out; have := Z7.out; have := Z8.out; have := Z9.out; have := Z10.out; have := Z11.out; have := Z12.out; have := Z13.out; have := Z14.out; omega))
  replace GR0 := uhide (GR0.out.outs ho15 GR0w.out (fun x hx => by have := XA1w.out.2 x hx; have := Zb.out; have := Z3.out; have := Z4.out; have := Z5.out; have := Z6.out; have := Z7.out; have := Z8.out; have := Z9.out; have := Z10.out; have := Z11.out; have := Z12.out; have := Z13.out; have := Z14.out; omega))
  have Z15 : Hid (w14.heap.size + 0 ≤ w15.heap.size) := ho15.size
  have B15 : Hid (Below w.heap.size w w15) := B14.out.trans (XA1w.out.below ho15 (by have := B2.out.size; have := Zb.out; have := Z3.out; have := Z4.out; have := Z5.out; have := Z6.out; have := Z7.out; have := Z8.out; have := Z9.out; have := Z10.out; have := Z11.out; have := Z12.out; have := Z13.out; have := Z14.out; omega) B14.out.size)
  clear ho15
  have hk0 : ¬ (((((1 + mA0) + mA1) : Nat) : Int) < 0) := by omega
  go_wp2_with fail
  refine (HeqR0.out _ _ _ _ _ _ _ ((GR0.out.below (by repeat (first | with_reducible exact Below.refl _ _ | with_reducible refine Below.alloc ?_ (by simp <;> omega) _ | with_reducible refine Below.drew ?_ | with_reducible refine below_drewN ?_ _))).u GR0w.out.2) (WR0.out.below (by repeat (first | with_reducible exact Below.refl _ _ | with_reducible refine Below.alloc ?_ (by simp <;> omega) _ | with_reducible refine Below.drew ?_ | with_reducible refine below_drewN ?_ _)))).mono ?_
  rintro e w16 ⟨rfl, hb16⟩
  have HB16 : Hid (Below w15.heap.size w15 w16) := Below.trans (by repeat (first | with_reducible exact Below.refl _ _ | with_reducible refine Below.alloc ?_ (by simp <;> omega) _ | with_reducible refine Below.drew ?_ | with_reducible refine below_drewN ?_ _)) (hb16.out.mono (by simp <;> omega))
  have Z16 : Hid (w15.heap.size + 0 ≤ w16.heap.size) := by have h := hb16.out.size; (try simp at h); show _ ≤ _; omega
  replace OXA0 := uhide (OXA0.out.below HB16.out)
  replace OXA1 := uhide (OXA1.out.below HB16.out)
  replace WR0 := uhide (WR0.out.below HB16.out)
  replace GR0 := uhide (GR0.out.below HB16.out)
  have B16 : Hid (Below w.heap.size w w16) := B15.out.trans (HB16.out.mono B15.out.size)
  clear hb16 HB16
  go_wp2_with fail
  refine (HmkR0.out _ _ _ _ _ _ GR0.out GR0w.out (by omega)).mono ?_
  rintro e w17 ⟨rfl, GMR0, ho17⟩
  replace OXA0 := uhide (OXA0.out.out (GR0w.out.out ho17) (by have := Zb.out; have := Z3.out; have := Z4.out; have := Z5.out; have := Z6.out; have := Z7.out; have := Z8.out; have := Z9.out; have := Z10.out; have := Z11.out; have := Z12.out; have := Z13.out; have := Z14.out; have := Z15.out; have := Z16.out; omega))
  replace OXA1 := uhide (OXA1.out.out (GR0w.out.out ho17) (by have := Zb.out; have := Z3.out; have := Z4.out; have := Z5.out; have := Z6.out; have := Z7.out; have := Z8.out; have := Z9.out; have := Z10.out; have := Z11.out; have := Z12.out; have := Z13.out; have := Z14.out; have := Z15.out; have := Z16.out; omega))
  replace WR0 := uhide (WR0.out.out (GR0w.out.out ho17) (by have := Zb.out; have := Z3.out; have := Z4.out; have := Z5.out; have := Z6.out; have := Z7.out; have := Z8.out; have := Z9.out; have := Z10.out; have := Z11.out; have := Z12.out; have := Z13.out; have := Z14.out; have := Z15.out; have := Z16.out; omega))
  have Z17 : Hid (w16.heap.size + 0 ≤ w17.heap.size) := ho17.size
  have B17 : Hid (Below w.heap.size w w17) := B16.out.trans (GR0w.out.below ho17 (by have := B2.out.size; have := Zb.out; have := Z3.out; have := Z4.out; have := Z5.out; have := Z6.out; have := Z7.out; have := Z8.out; have := Z9.out; have := Z10.out; have := Z11.out; have := Z12.out; have := Z13.out; have := Z14.out; have := Z15.out; have := Z16.out; omega) B16.out.size)
  clear ho17
  replace GMR0 := uhide GMR0
  have GMR0w := GR0w
  have hq0 : ¬ ((((1 + mR0) : Nat) : Int) < 0) := by omega
  have hq1 : (((((1 + mR0) : Nat) : Int)) != ((((1 + mR0) : Nat) : Int))) = false := by simp
  go_wp2_with fail
  refine (HhdR0.out _ _ _ _ _ ((GMR0.out.below (by repeat (first | with_reducible exact Below.refl _ _ | with_reducible refine Below.alloc ?_ (by simp <;> omega) _ | with_reducible refine Below.drew ?_ | with_reducible refine below_drewN ?_ _))).u GMR0w.out.2) (by omega)).mono ?_
  rintro e w18 ⟨rfl, hb18⟩
  have HB18 : Hid (Below w17.heap.size w17 w18) := Below.trans (by repeat (first | with_reducible exact Below.refl _ _ | with_reducible refine Below.alloc ?_ (by simp <;> omega) _ | with_reducible refine Below.drew ?_ | with_reducible refine below_drewN ?_ _)) (hb18.out.mono (by simp <;> omega))
  have Z18 : Hid (w17.heap.size + 0 ≤ w18.heap.size) := by have h := hb18.out.size; (try simp at h); show _ ≤ _; omega
  replace OXA0 := uhide (OXA0.out.below HB18.out)
  replace OXA1 := uhide (OXA1.out.below HB18.out)
  replace WR0 := uhide (WR0.out.below HB18.out)
  replace GMR0 := uhide (GMR0.out.below HB18.out)
  have B18 : Hid (Below w.heap.size w w18) := B17.out.trans (HB18.out.mono B17.out.size)
  clear hb18 HB18
  go_wp2_with fail
  refine (HtoA0.out _ (by repeat (first | with_reducible exact B18.out | with_reducible refine Below.alloc ?_ (by have := B18.out.size; (try simp) <;> omega) _ | with_reducible refine Below.drew ?_ | with_reducible refine below_drewN ?_ _))).mono ?_
  rintro e w19 ⟨aA0u, pA0u, SUA0, rfl, UA0, UA0w, hb19⟩
  have HB19 : Hid (Below w18.heap.size w18 w19) := Below.trans (by repeat (first | with_reducible exact Below.refl _ _ | with_reducible refine Below.alloc ?_ (by simp <;> omega) _ | with_reducible refine Below.drew ?_ | with_reducible refine below_drewN ?_ _)) (hb19.out.mono (by simp <;> omega))
  have Z19 : Hid (w18.heap.size + 0 ≤ w19.heap.size) := by have h := hb19.out.size; (try simp at h); show _ ≤ _; omega
  replace UA0w := uhide (UA0w.out.mono (a' := w18.heap.size + 0) (by (try simp) <;> omega) (Nat.le_refl _))
  replace OXA0 := uhide (OXA0.out.below HB19.out)
  replace OXA1 := uhide (OXA1.out.below HB19.out)
  replace WR0 := uhide (WR0.out.below HB19.out)
  replace GMR0 := uhide (GMR0.out.below HB19.out)
  have B19 : Hid (Below w.heap.size w w19) := B18.out.trans (HB19.out.mono B18.out.size)
  clear hb19 HB19
  go_wp2_with fail
  refine (HtoA1.out _ (by repeat (first | with_reducible exact B19.out | with_reducible refine Below.alloc ?_ (by have := B19.out.size; (try simp) <;> omega) _ | with_reducible refine Below.drew ?_ | with_reducible refine below_drewN ?_ _))).mono ?_
  rintro e w20 ⟨aA1u, pA1u, SUA1, rfl, UA1, UA1w, hb20⟩
  have HB20 : Hid (Below w19.heap.size w19 w20) := Below.trans (by repeat (first | with_reducible exact Below.refl _ _ | with_reducible refine Below.alloc ?_ (by simp <;> omega) _ | with_reducible refine Below.drew ?_ | with_reducible refine below_drewN ?_ _)) (hb20.out.mono (by simp <;> omega))
  have Z20 : Hid (w19.heap.size + 0 ≤ w20.heap.size) := by have h := hb20.out.size; (try simp at h); show _ ≤ _; omega
  replace UA1w := uhide (UA1w.out.mono (a' := w19.heap.size + 0) (by (try simp) <;> omega) (Nat.le_refl _))
  replace OXA0 := uhide (OXA0.out.below HB20.out)
  replace OXA1 := uhide (OXA1.out.below HB20.out)
  replace WR0 := uhide (WR0.out.below HB20.out)
  replace GMR0 := uhide (GMR0.out.below HB20.out)
  replace UA0 := uhide (UA0.out.below HB20.out)
  have B20 : Hid (Below w.heap.size w w20) := B19.out.trans (HB20.out.mono B19.out.size)
  clear hb20 HB20
  go_wp2_with fail
  refine (HIQ.out _ _ _ _ _ _ _ ((UA0.out.below (by repeat (first | with_reducible exact Below.refl _ _ | with_reducible refine Below.alloc ?_ (by simp <;> omega) _ | with_reducible refine Below.drew ?_ | with_reducible refine below_drewN ?_ _))).u UA0w.out.2) ((UA1.out.below (by repeat (first | with_reducible exact Below.refl _ _ | with_reducible refine Below.alloc ?_ (by simp <;> omega) _ | with_reducible refine Below.drew ?_ | with_reducible refine below_drewN ?_ _))).u UA1w.out.2)).mono ?_
  rintro e w21 ⟨aR0h, pR0h, SR0h, rfl, KR0, KR0w, hb21⟩
  have HB21 : Hid (Below w20.heap.size w20 w21) := Below.trans (by repeat (first | with_reducible exact Below.refl _ _ | with_reducible refine Below.alloc ?_ (by simp <;> omega) _ | with_reducible refine Below.drew ?_ | with_reducible refine below_drewN ?_ _)) (hb21.out.mono (by simp <;> omega))
  have Z21 : Hid (w20.heap.size + 0 ≤ w21.heap.size) := by have h := hb21.out.size; (try simp at h); show _ ≤ _; omega
  replace KR0w := uhide (KR0w.out.mono (a' := w20.heap.size + 0) (by (try simp) <;> omega) (Nat.le_refl _))
  replace OXA0 := uhide (OXA0.out.below HB21.out)
  replace OXA1 := uhide (OXA1.out.below HB21.out)
  replace WR0 := uhide (WR0.out.below HB21.out)
  replace GMR0 := uhide (GMR0.out.below HB21.out)
  replace UA0 := uhide (UA0.out.below HB21.out)
  replace UA1 := uhide (UA1.out.below HB21.out)
  have B21 : Hid (Below w.heap.size w w21) := B20.out.trans (HB21.out.mono B20.out.size)
  clear hb21 HB21
  go_wp2_with fail
  refine (HeqR0.out _ _ _ _ _ _ _ ((KR0.out.below (by repeat (first | with_reducible exact Below.refl _ _ | with_reducible refine Below.alloc ?_ (by simp <;> omega) _ | with_reducible refine Below.drew ?_ | with_reducible refine below_drewN ?_ _))).u KR0w.out.2) (WR0.out.below (by repeat (first | with_reducible exact Below.refl _ _ | with_reducible refine Below.alloc ?_ (by simp <;> omega) _ | with_reducible refine Below.drew ?_ | with_reducible refine below_drewN ?_ _)))).mono ?_
  rintro e w22 ⟨rfl, hb22⟩
  have HB22 : Hid (Below w21.heap.size w21 w22) := Below.trans (by repeat (first | with_reducible exact Below.refl _ _ | with_reducible refine Below.alloc ?_ (by simp <;> omega) _ | with_reducible refine Below.drew ?_ | with_reducible refine below_drewN ?_ _)) (hb22.out.mono (by simp <;> omega))
  have Z22 : Hid (w21.heap.size + 0 ≤ w22.heap.size) := by have h := hb22.out.size; (try simp at h); show _ ≤ _; omega
  replace OXA0 := uhide (OXA0.out.below HB22.out)
  replace OXA1 := uhide (OXA1.out.below HB22.out)
  replace WR0 := uhide (WR0.out.below HB22.out)
  replace GMR0 := uhide (GMR0.out.below HB22.out)
  replace UA0 := uhide (UA0.out.below HB22.out)
  replace UA1 := uhide (UA1.out.below HB22.out)
  replace KR0 := uhide (KR0.out.below HB22.out)
  have B22 : Hid (Below w.heap.size w w22) := B21.out.trans (HB22.out.mono B21.out.size)
  clear hb22 HB22
  go_wp2_with fail
  refine (HhdR0.out _ _ _ _ _ ((GMR0.out.below (by repeat (first | with_reducible exact Below.refl _ _ | with_reducible refine Below.alloc ?_ (by simp <;> omega) _ | with_reducible refine Below.drew ?_ | with_reducible refine below_drewN ?_ _))).u GMR0w.out.2) (by omega)).mono ?_
  rintro e w23 ⟨rfl, hb23⟩
  have HB23 : Hid (Below w22.heap.size w22 w23) := Below.trans (by repeat (first | with_reducible exact Below.refl _ _ | with_reducible refine Below.alloc ?_ (by simp <;> omega) _ | with_reducible refine Below.drew ?_ | with_reducible refine below_drewN ?_ _)) (hb23.out.mono (by simp <;> omega))
  have Z23 : Hid (w22.heap.size + 0 ≤ w23.heap.size) := by have h := hb23.out.size; (try simp at h); show _ ≤ _; omega
  replace OXA0 := uhide (OXA0.out.below HB23.out)
  replace OXA1 := uhide (OXA1.out.below HB23.out)
  replace WR0 := uhide (WR0.out.below HB23.out)
  replace GMR0 := uhide (GMR0.out.below HB23.out)
  replace UA0 := uhide (UA0.out.below HB23.out)
  replace UA1 := uhide (UA1.out.below HB23.out)
  replace KR0 := uhide (KR0.out.below HB23.out)
  have B23 : Hid (Below w.heap.size w w23) := B22.out.trans (HB23.out.mono B22.out.size)
  clear hb23 HB23
  go_wp2
  go_ret
  exact ⟨rfl, by repeat (first | with_reducible exact B23.out | with_reducible refine Below.drew ?_ | with_reducible refine below_drewN ?_ _)⟩
set_option maxRecDepth 100000 in
theorem lifted (os : Os) (started : os.Started) (H : Type) (enc : TypeId × Value → H) :
    ReturnsInHanded {} Tryz.checked os 4 .any (Rows.fnExactPlansSpec.pre6 enc Tryz.prog Tryz.f4 Rows.fnExactPlansRow.domain false) (Rows.fnExactPlansSpec.post enc Tryz.prog Tryz.f4 false true false false) := by
  refine returnsInHanded_of_change (C := Tryz.checked) own started (by kernel_rfl) Tryz.func4
    (ChangeSpec.witness6 (enc := enc) (C := Tryz.checked) false ⟨#[], #[.slice none 0 0, .slice none 0 0], []⟩ 12 (by kernel_rfl) (by kernel_rfl) (by kernel_rfl) (by kernel_rfl)) ?_
  intro W base args ds gs before hval0 hW hcnd _
  have hval : ∀ (j : Nat) t v, Tryz.f4.params[j]? = some t → args[j]? = some v → Value.okWide Tryz.prog W .any base t v := hval0
  have hW' := hW
  obtain ⟨p, q, hA0, hV, rfl, hfz, hnd⟩ := hW
  have hA : DataW.TrodAll enc Tryz.prog W 0 (fun _ => true) true Tryz.f4.params.toList args.toList ds p := hA0
  rw [Tryz.params4] at hA hval
  obtain ⟨v0, vs0, d0, ds0, p0, q0, hargs, rfl, rfl, h0, r0⟩ := trodAll_cons hA
  obtain ⟨v1, vs1, d1, ds1, p1, q1, rfl, rfl, rfl, h1, r1⟩ := trodAll_cons r0
  obtain ⟨rfl, rfl, rfl⟩ := trodAll_nil r1
  obtain rfl : args = #[v0, v1] := by cases args; simp_all
  obtain ⟨rfl, rfl⟩ := trodVars_none hV
  obtain ⟨a0, len0, cap0, rfl⟩ := okWide_slice Tryz.underlying47 (hval 0 47 v0 rfl rfl)
  have k0 := h0
  have lt0 : ∀ x ∈ p0, x.block < W.heap.size := by obtain ⟨m, hm⟩ := k0; exact DataW.trod_lt m _ _ _ hm
  obtain ⟨fuel0, hf0⟩ := h0
  obtain ⟨dd0, hd0, hh0⟩ := openU (enc := enc) flatU fuel0 47 [.l 4 16] (Flat.slice 16 Tryz.underlying47 (by simp [GU]) (by kernel_rfl) (by decide)) [.slice a0 len0 cap0] _ rfl (by simpa [Value.cells] using hf0)
  obtain ⟨n0, ee0, rr0, rfl, ht0, hr0⟩ := tyL.l hd0
  obtain rfl := tyL.nil hr0
  obtain ⟨c0, ys0, hc0, hs0, -⟩ := hh0
  obtain ⟨rfl, -⟩ := List.cons.inj hc0
  obtain ⟨a1, len1, cap1, rfl⟩ := okWide_slice Tryz.underlying27 (hval 1 27 v1 rfl rfl)
  have k1 := h1
  have lt1 : ∀ x ∈ p1, x.block < W.heap.size := by obtain ⟨m, hm⟩ := k1; exact DataW.trod_lt m _ _ _ hm
  obtain ⟨fuel1, hf1⟩ := h1
  obtain ⟨dd1, hd1, hh1⟩ := openU (enc := enc) flatU fuel1 27 [.l 4 14] (Flat.slice 14 Tryz.underlying27 (by simp [GU]) (by kernel_rfl) (by decide)) [.slice a1 len1 cap1] _ rfl (by simpa [Value.cells] using hf1)
  obtain ⟨n1, ee1, rr1, rfl, ht1, hr1⟩ := tyL.l hd1
  obtain rfl := tyL.nil hr1
  obtain ⟨c1, ys1, hc1, hs1, -⟩ := hh1
  obtain ⟨rfl, -⟩ := List.cons.inj hc1
  clear hA0 hval0
  refine (walk n0 ee0 _ n1 ee1 _ W ht0 hs0 ht1 hs1).mono fun e W' ⟨he, bel⟩ => ?_
  subst he
  exact ⟨_, rfl, _, _, _, [], _, [], hW', trodAll_mk1 (shut_bool Tryz.underlying4 _), (trodAll_cons_mk (Below.trod laidOut (by kernel_rfl) (of_decide_eq_true (by kernel_rfl)) k0 bel lt0) (trodAll_cons_mk (Below.trod laidOut (by kernel_rfl) (of_decide_eq_true (by kernel_rfl)) k1 bel lt1) trodAll_mk0)), rfl, bel.frame _, fun h => by cases h⟩
end LPlans
theorem plans_holds : Rows.FnExactPlansSaid :=
  OpenClaim.holds_of_wide 4 Tryz.f4 rfl rfl rfl rfl rfl rfl rfl ⟨rfl, rfl, rfl, rfl, rfl⟩ rfl rfl rfl rfl rfl (by kernel_rfl) Tryz.func4 (by kernel_rfl)
    (of_decide_eq_true (by kernel_rfl)) (by unfold Func.isWrapper; first | (rw [if_pos (by decide +kernel)]; kernel_rfl) | (rw [if_neg (by decide +kernel)]; exact ⟨rfl, rfl⟩))
    (fun os started H enc _ => LPlans.lifted os started H enc)
#print axioms plans_holds
end Go.Proofs.YtdnodaoeflbfkaaGreat
