/- FnExactPatchText holds: at any list of ops impl.PatchText answers what spec.PatchText answers. No conditions but the tied tables. -/
import Derived.Test.YtkdiinjkpmkcpaaDoorCards
import Derived.Test.YtkdiinjkpmkcpaaDoorTie
import Derived.Test.YtkdiinjkpmkcpaaDoorPtV
import Derived.Test.YtkdiinjkpmkcpaaDoorU3
import Derived.WalkKit
import Derived.ProofKit
import Derived.OpenShut
import Derived.ShutString
import Derived.ChangeOld
import Derived.Below
import Derived.Deep.DeepHandedRow
import Derived.Lib.LaidTab
import Derived.Lib.LaidU8
import Derived.ChangeSame
import Derived.Lay
import Derived.OpenVars
namespace Go.Proofs.YtkdiinjkpmkcpaaDoor
open Go.ChangeShapes Go.WideShapes Go.ChangeAt Go.RowKit Go.BigFrame
open Go.ChangeMaps (open_string shut_string)
set_option linter.unusedVariables false
theorem ptx_both (nA0 : Nat) (csA0 : UD) (htA0 : tyS 7 nA0 csA0 7) (hw : (nA0 + wt csA0) ≤ 1048576) :
    ∃ (sR0 : ByteArray), (∀ (w : World) (loA0 hiA0 : Nat) (cA0 : Value), uS w loA0 hiA0 7 nA0 csA0 cA0 → Calls Tryd.prog 5 #[cA0] w fun e w' => e = .returned (.string sR0) ∧ Below w.heap.size w w') ∧
    (∀ (w : World) (loA0 hiA0 : Nat) (cA0 : Value) (SA0 : List Nat), oS w 7 nA0 csA0 cA0 SA0 → own2 SA0 loA0 hiA0 → PTab w → Calls Tryd.prog 7 #[cA0] w fun e w' => e = .returned (.string sR0) ∧ Below w.heap.size w w') := by
  obtain ⟨F, h1, h2, h3⟩ := patchText_rows nA0 csA0 htA0
  obtain ⟨r, hr⟩ := bool_iff (nA0 ≤ 20 ∧ ∀ q, q < nA0 → okU (rowU csA0 7 q) (F q).1)
  have hT : r = true → ∀ q, q < nA0 → RowT csA0 (fun q => (F q).2) q := fun h q hq => h3 q hq ((hr.1 h).2 q hq)
  exact ⟨_, fun w lo hi c hx => sPatchText_any nA0 csA0 c lo hi w (fun q => (F q).1) (fun q => (F q).2) r htA0 hx (by omega) h1 hr hT, fun w lo hi c S ho hS hp => iPatchText_any nA0 csA0 c S lo hi w (fun q => (F q).1) (fun q => (F q).2) r htA0 ho hS hw h2 hr hT hp⟩
namespace LFnExactPatchText
theorem laidOut : laidOutB Tryd.prog = true := by kernel_rfl
theorem own : ownKnob Tryd.prog.godebug = none := by kernel_rfl
def TYU : Nat → TypeId
  | 7 => 35
  | 0 => 9
  | 6 => 33
  | _ => 0
def GU (n : Nat) : Prop := n = 7 ∨ n = 0 ∨ n = 6
theorem flatValue : Flat Tryd.prog TYU GU 33 (uE 6) := by
  refine Flat.struct [[.i .i64], [.s], [.i .i64], [.l 1 0], [.l 5 6]] Tryd.underlying33 rfl (fun i f s hf hs => ?_) (fun i f s hf hs => ?_)
  · match i, hf, hs with
    | 0, hf, hs => cases hf; cases hs; exact (Flat.i64 Tryd.underlying3)
    | 1, hf, hs => cases hf; cases hs; exact (Flat.str Tryd.underlying9)
    | 2, hf, hs => cases hf; cases hs; exact (Flat.i64 Tryd.underlying3)
    | 3, hf, hs => cases hf; cases hs; exact (Flat.slice 0 Tryd.underlying30 (by simp [GU]) (by kernel_rfl) (by decide))
    | 4, hf, hs => cases hf; cases hs; exact (Flat.slice 6 Tryd.underlying31 (by simp [GU]) (by kernel_rfl) (by decide))
    | i + 5, hf, hs => simp at hs
  · match i, hf, hs with
    | 0, hf, hs => cases hf; cases hs; exact ⟨by kernel_rfl, rfl⟩
    | 1, hf, hs => cases hf; cases hs; exact ⟨by kernel_rfl, rfl⟩
    | 2, hf, hs => cases hf; cases hs; exact ⟨by kernel_rfl, rfl⟩
    | 3, hf, hs => cases hf; cases hs; exact ⟨by kernel_rfl, rfl⟩
    | 4, hf, hs => cases hf; cases hs; exact ⟨by kernel_rfl, rfl⟩
    | i + 5, hf, hs => simp at hs
theorem flatOp : Flat Tryd.prog TYU GU 35 (uE 7) := by
  refine Flat.struct [[.i .i64], [.l 1 0], [.i .i64, .s, .i .i64, .l 1 0, .l 5 6]] Tryd.underlying35 rfl (fun i f s hf hs => ?_) (fun i f s hf hs => ?_)
  · match i, hf, hs with
    | 0, hf, hs => cases hf; cases hs; exact (Flat.i64 Tryd.underlying3)
    | 1, hf, hs => cases hf; cases hs; exact (Flat.slice 0 Tryd.underlying30 (by simp [GU]) (by kernel_rfl) (by decide))
    | 2, hf, hs => cases hf; cases hs; exact flatValue
    | i + 3, hf, hs => simp at hs
  · match i, hf, hs with
    | 0, hf, hs => cases hf; cases hs; exact ⟨by kernel_rfl, rfl⟩
    | 1, hf, hs => cases hf; cases hs; exact ⟨by kernel_rfl, rfl⟩
    | 2, hf, hs => cases hf; cases hs; exact ⟨by kernel_rfl, rfl⟩
    | i + 3, hf, hs => simp at hs
theorem flatU : ∀ n, GU n → Flat Tryd.prog TYU GU (TYU n) (uE n) := by
  intro n h
  unfold GU at h
  rcases h with rfl | rfl | rfl
  · exact flatOp
  · exact (Flat.str Tryd.underlying9)
  · exact flatValue
set_option maxRecDepth 20000 in
set_option maxHeartbeats 3200000 in
theorem walk (nA0 : Nat) (csA0 : UD) (cA0 : Value) (w : World) (htA0 : tyS 7 nA0 csA0 7) (hxA0 : uS w 0 w.heap.size 7 nA0 csA0 cA0) (htab : PTab w) :
    Calls Tryd.prog 3 #[cA0] w fun e w' => e = .returned (.bool true) ∧ Below w.heap.size w w' := by
  have Htab := uhide htab
  clear htab
  obtain ⟨aA0, pA0, rfl, hx2A0⟩ := hxA0
  have OXA0 : Hid (uS w 0 w.heap.size 7 nA0 csA0 (.slice aA0 nA0 pA0)) := ⟨_, _, rfl, hx2A0⟩
  have HtA0 := uhide htA0
  clear hx2A0
  obtain ⟨l1, hl1⟩ : ∃ l, leftI (1048576 : Int) (nA0 + wt csA0) = l := ⟨_, rfl⟩
  have HsA0 : Hid (∀ wx, Below w.heap.size w wx → Calls Tryd.prog 4 #[.slice aA0 nA0 pA0, .int .i64 1048576] wx fun e w' => e = .returned (.int .i64 l1) ∧ Hid (Below wx.heap.size wx w')) := fun wx hb => hl1 ▸ uszOpS_any (lo := 0) (hi := w.heap.size) nA0 csA0 _ 1048576 wx HtA0.out (by decide) (by decide) (OXA0.out.below hb)
  have hle0 : l1 ≤ 1048576 := by rw [← hl1]; unfold leftI; split <;> omega
  by_cases hn0 : l1 < 0
  · go_enter Tryd.func3, Tryd.ntmps3
    go_wp2_with fail
    refine (HsA0.out _ (by repeat (first | with_reducible exact Below.refl _ _ | with_reducible refine Below.alloc ?_ (by simp <;> omega) _ | with_reducible refine Below.drew ?_ | with_reducible refine below_drewN ?_ _))).mono ?_
    rintro e w1 ⟨rfl, hb1⟩
    have HB1 : Hid (Below w.heap.size w w1) := Below.trans (by repeat (first | with_reducible exact Below.refl _ _ | with_reducible refine Below.alloc ?_ (by simp <;> omega) _ | with_reducible refine Below.drew ?_ | with_reducible refine below_drewN ?_ _)) (hb1.out.mono (by simp <;> omega))
    have B1 : Hid (Below w.heap.size w w1) := HB1
    clear hb1
    go_wp2
    go_ret
    exact ⟨rfl, B1.out⟩
  have Hw0 : Hid (l1 = 1048576 - ((nA0 + wt csA0) : Nat)) := by show _ = _; rw [← hl1]; exact (leftI_pos 0 (by rw [hl1]; exact hn0)).2.1
  have hw0 := Hw0.out
  obtain ⟨sR0, HSP, HIM⟩ := ptx_both nA0 csA0 HtA0.out (by omega)
  replace HSP := uhide HSP
  replace HIM := uhide HIM
  have HSQ : Hid (∀ (wx : World) (loA0 hiA0 : Nat) (cA0 : Value), uS wx loA0 hiA0 7 nA0 csA0 cA0 → Calls Tryd.prog 5 #[cA0] wx fun e w' => e = .returned (.string sR0) ∧ Hid (Below wx.heap.size wx w')) := fun wx loA0 hiA0 cA0 hA0 => (HSP.out _ _ _ _ hA0).mono fun e w' ⟨h1, hb⟩ => by
    exact ⟨h1, hb⟩
  have HIQ : Hid (∀ (wx : World) (loA0 hiA0 : Nat) (cA0 : Value) (SA0 : List Nat), oS wx 7 nA0 csA0 cA0 SA0 → own2 SA0 loA0 hiA0 → PTab wx → Calls Tryd.prog 7 #[cA0] wx fun e w' => e = .returned (.string sR0) ∧ Hid (Below wx.heap.size wx w')) := fun wx loA0 hiA0 cA0 SA0 hA0 oA0 htb => (HIM.out _ _ _ _ _ hA0 oA0 htb).mono fun e w' ⟨h1, hb⟩ => by
    exact ⟨h1, hb⟩
  clear HSP HIM
  have hctA0 : cnt csA0 ≤ 42000000 := by have := cnt_wt HtA0.out; omega
  have HtoA0 : Hid (∀ wx, Below w.heap.size w wx → Calls Tryd.prog 6 #[.slice aA0 nA0 pA0] wx fun e w' => ∃ aA0r pA0r S, e = .returned (.slice aA0r nA0 pA0r) ∧ Hid (oS w' 7 nA0 csA0 (.slice aA0r nA0 pA0r) S) ∧ Hid (own2 S wx.heap.size w'.heap.size) ∧ Hid (Below wx.heap.size wx w')) := fun wx hb => (utoOpS_any (lo := 0) (hi := w.heap.size) nA0 csA0 _ wx HtA0.out (by omega) (OXA0.out.below hb)).mono fun e w' ⟨c, S, h1, h2, h3, h4, h5⟩ => by
    obtain ⟨a, p, rfl⟩ := h2.slice
    exact ⟨a, p, S, h1, h2, ⟨h3, fun s hs => ⟨h4 s hs, h2.lt s hs⟩⟩, h5⟩
  have HeqA0 : Hid (∀ (wx : World) (lo hi lo' hi' : Nat) (y y' : Value), uS wx lo hi 7 nA0 csA0 y → uS wx lo' hi' 7 nA0 csA0 y' → Calls Tryd.prog 8 #[y, y'] wx fun e w' => e = .returned (.bool true) ∧ Hid (Below wx.heap.size wx w')) := fun wx lo hi lo' hi' y y' h1 h2 => ueqOpS_any (lo := lo) (hi := hi) (lo' := lo') (hi' := hi') _ _ _ _ wx HtA0.out h1 h2
  clear hw0 hle0 hl1 htA0
  have hqR0 : (sR0.toList == sR0.toList) = true := by simp
  go_enter Tryd.func3, Tryd.ntmps3
  go_wp2_with fail
  refine (HsA0.out _ (by repeat (first | with_reducible exact Below.refl _ _ | with_reducible refine Below.alloc ?_ (by simp <;> omega) _ | with_reducible refine Below.drew ?_ | with_reducible refine below_drewN ?_ _))).mono ?_
  rintro e w1 ⟨rfl, hb1⟩
  have HB1 : Hid (Below w.heap.size w w1) := Below.trans (by repeat (first | with_reducible exact Below.refl _ _ | with_reducible refine Below.alloc ?_ (by simp <;> omega) _ | with_reducible refine Below.drew ?_ | with_reducible refine below_drewN ?_ _)) (hb1.out.mono (by simp <;> omega))
  have B1 : Hid (Below w.heap.size w w1) := HB1
  clear hb1
  replace OXA0 := uhide (OXA0.out.below B1.out)
  have Zb : Hid (w.heap.size + 0 ≤ w1.heap.size) := B1.out.size
  go_wp2_with fail
  refine (HtoA0.out _ (by repeat (first | with_reducible exact B1.out | with_reducible refine Below.alloc ?_ (by have := B1.out.size; (try simp) <;> omega) _ | with_reducible refine Below.drew ?_ | with_reducible refine below_drewN ?_ _))).mono ?_
  rintro e w2 ⟨aA0y, pA0y, SYA0, rfl, YA0, YA0w, hb2⟩
  have HB2 : Hid (Below w1.heap.size w1 w2) := Below.trans (by repeat (first | with_reducible exact Below.refl _ _ | with_reducible refine Below.alloc ?_ (by simp <;> omega) _ | with_reducible refine Below.drew ?_ | with_reducible refine below_drewN ?_ _)) (hb2.out.mono (by simp <;> omega))
  have Z2 : Hid (w1.heap.size + 0 ≤ w2.heap.size) := by have h := hb2.out.size; (try simp at h); show _ ≤ _; omega
  replace YA0w := uhide (YA0w.out.mono (a' := w1.heap.size + 0) (by (try simp) <;> omega) (Nat.le_refl _))
  replace OXA0 := uhide (OXA0.out.below HB2.out)
  have B2 : Hid (Below w.heap.size w w2) := B1.out.trans (HB2.out.mono B1.out.size)
  clear hb2 HB2
  go_wp2_with fail
  refine (HSQ.out _ _ _ _ ((YA0.out.below (by repeat (first | with_reducible exact Below.refl _ _ | with_reducible refine Below.alloc ?_ (by simp <;> omega) _ | with_reducible refine Below.drew ?_ | with_reducible refine below_drewN ?_ _))).u YA0w.out.2)).mono ?_
  rintro e w3 ⟨rfl, hb3⟩
  have HB3 : Hid (Below w2.heap.size w2 w3) := Below.trans (by repeat (first | with_reducible exact Below.refl _ _ | with_reducible refine Below.alloc ?_ (by simp <;> omega) _ | with_reducible refine Below.drew ?_ | with_reducible refine below_drewN ?_ _)) (hb3.out.mono (by simp <;> omega))
  have Z3 : Hid (w2.heap.size + 0 ≤ w3.heap.size) := by have h := hb3.out.size; (try simp at h); show _ ≤ _; omega
  replace OXA0 := uhide (OXA0.out.below HB3.out)
  replace YA0 := uhide (YA0.out.below HB3.out)
  have B3 : Hid (Below w.heap.size w w3) := B2.out.trans (HB3.out.mono B2.out.size)
  clear hb3 HB3
  clear YA0 YA0w
  go_wp2_with fail
  refine (HtoA0.out _ (by repeat (first | with_reducible exact B3.out | with_reducible refine Below.alloc ?_ (by have := B3.out.size; (try simp) <;> omega) _ | with_reducible refine Below.drew ?_ | with_reducible refine below_drewN ?_ _))).mono ?_
  rintro e w4 ⟨aA0x, pA0x, SXA0, rfl, XA0, XA0w, hb4⟩
  have HB4 : Hid (Below w3.heap.size w3 w4) := Below.trans (by repeat (first | with_reducible exact Below.refl _ _ | with_reducible refine Below.alloc ?_ (by simp <;> omega) _ | with_reducible refine Below.drew ?_ | with_reducible refine below_drewN ?_ _)) (hb4.out.mono (by simp <;> omega))
  have Z4 : Hid (w3.heap.size + 0 ≤ w4.heap.size) := by have h := hb4.out.size; (try simp at h); show _ ≤ _; omega
  replace XA0w := uhide (XA0w.out.mono (a' := w3.heap.size + 0) (by (try simp) <;> omega) (Nat.le_refl _))
  replace OXA0 := uhide (OXA0.out.below HB4.out)
  have B4 : Hid (Below w.heap.size w w4) := B3.out.trans (HB4.out.mono B3.out.size)
  clear hb4 HB4
  go_wp2_with fail
  refine (HIQ.out _ _ _ _ _ (XA0.out.below (by repeat (first | with_reducible exact Below.refl _ _ | with_reducible refine Below.alloc ?_ (by simp <;> omega) _ | with_reducible refine Below.drew ?_ | with_reducible refine below_drewN ?_ _))) XA0w.out (Htab.out.below (by repeat (first | with_reducible exact B4.out | with_reducible refine Below.alloc ?_ (by have := B4.out.size; (try simp) <;> omega) _ | with_reducible refine Below.drew ?_ | with_reducible refine below_drewN ?_ _)))).mono ?_
  rintro e w5 ⟨rfl, hb5⟩
  have HB5 : Hid (Below w4.heap.size w4 w5) := Below.trans (by repeat (first | with_reducible exact Below.refl _ _ | with_reducible refine Below.alloc ?_ (by simp <;> omega) _ | with_reducible refine Below.drew ?_ | with_reducible refine below_drewN ?_ _)) (hb5.out.mono (by simp <;> omega))
  have Z5 : Hid (w4.heap.size + 0 ≤ w5.heap.size) := by have h := hb5.out.size; (try simp at h); show _ ≤ _; omega
  replace OXA0 := uhide (OXA0.out.below HB5.out)
  replace XA0 := uhide (XA0.out.below HB5.out)
  have B5 : Hid (Below w.heap.size w w5) := B4.out.trans (HB5.out.mono B4.out.size)
  clear hb5 HB5
  go_wp2_with fail
  refine (HtoA0.out _ (by repeat (first | with_reducible exact B5.out | with_reducible refine Below.alloc ?_ (by have := B5.out.size; (try simp) <;> omega) _ | with_reducible refine Below.drew ?_ | with_reducible refine below_drewN ?_ _))).mono ?_
  rintro e w6 ⟨aA0v, pA0v, SVA0, rfl, VA0, VA0w, hb6⟩
  have HB6 : Hid (Below w5.heap.size w5 w6) := Below.trans (by repeat (first | with_reducible exact Below.refl _ _ | with_reducible refine Below.alloc ?_ (by simp <;> omega) _ | with_reducible refine Below.drew ?_ | with_reducible refine below_drewN ?_ _)) (hb6.out.mono (by simp <;> omega))
  have Z6 : Hid (w5.heap.size + 0 ≤ w6.heap.size) := by have h := hb6.out.size; (try simp at h); show _ ≤ _; omega
  replace VA0w := uhide (VA0w.out.mono (a' := w5.heap.size + 0) (by (try simp) <;> omega) (Nat.le_refl _))
  replace OXA0 := uhide (OXA0.out.below HB6.out)
  replace XA0 := uhide (XA0.out.below HB6.out)
  have B6 : Hid (Below w.heap.size w w6) := B5.out.trans (HB6.out.mono B5.out.size)
  clear hb6 HB6
  go_wp2_with fail
  refine (HeqA0.out _ _ _ _ _ _ _ ((XA0.out.below (by repeat (first | with_reducible exact Below.refl _ _ | with_reducible refine Below.alloc ?_ (by simp <;> omega) _ | with_reducible refine Below.drew ?_ | with_reducible refine below_drewN ?_ _))).u XA0w.out.2) ((VA0.out.below (by repeat (first | with_reducible exact Below.refl _ _ | with_reducible refine Below.alloc ?_ (by simp <;> omega) _ | with_reducible refine Below.drew ?_ | with_reducible refine below_drewN ?_ _))).u VA0w.out.2)).mono ?_
  rintro e w7 ⟨rfl, hb7⟩
  have HB7 : Hid (Below w6.heap.size w6 w7) := Below.trans (by repeat (first | with_reducible exact Below.refl _ _ | with_reducible refine Below.alloc ?_ (by simp <;> omega) _ | with_reducible refine Below.drew ?_ | with_reducible refine below_drewN ?_ _)) (hb7.out.mono (by simp <;> omega))
  have Z7 : Hid (w6.heap.size + 0 ≤ w7.heap.size) := by have h := hb7.out.size; (try simp at h); show _ ≤ _; omega
  replace OXA0 := uhide (OXA0.out.below HB7.out)
  replace XA0 := uhide (XA0.out.below HB7.out)
  replace VA0 := uhide (VA0.out.below HB7.out)
  have B7 : Hid (Below w.heap.size w w7) := B6.out.trans (HB7.out.mono B6.out.size)
  clear hb7 HB7
  go_wp2
  go_ret
  exact ⟨rfl, by repeat (first | with_reducible exact B7.out | with_reducible refine Below.drew ?_ | with_reducible refine below_drewN ?_ _)⟩
theorem vars_one {H : Type} {enc : TypeId × Value → H} {P : Program} {W : World} {sp : Nat → Bool} {n : String} {gs : List (DataW H)} {q : List MemPlace} (h : DataW.TrodVars enc P W sp [n] gs q) : ∃ g1, gs = [g1] := by
  cases gs with
  | nil => exact h.elim
  | cons g r =>
    cases r with
    | nil => exact ⟨g, rfl⟩
    | cons g2 r2 => obtain ⟨_, _, _, _, _, _, _, _, _, _, h2, _⟩ := h; exact h2.elim
set_option maxRecDepth 100000 in
theorem contract (H : Type) (enc : TypeId × Value → H) (W : World) (base : Nat) (args : Array Value) (ds gs : List (DataW H)) (before : List MemPlace)
    (hval0 : ∀ (j : Nat) t v, Tryd.f3.params[j]? = some t → args[j]? = some v → Value.okWide Tryd.prog W .any base t v)
    (hW : DataW.Whole enc Tryd.prog Tryd.f3.params.toList Rows.fnExactPatchTextSpec.vars false W args.toList ds gs before) (hsh : W.ShapedOpen Tryd.prog) (hL : laidMet Tryd.prog Rows.fnExactPatchTextRow.laid W) :
    Calls Tryd.prog 3 args W fun e W' => ∃ v, e = .returned v ∧ Rows.fnExactPatchTextSpec.post enc Tryd.prog Tryd.f3 false true false false W args v W' := by
  have hval : ∀ (j : Nat) t v, Tryd.f3.params[j]? = some t → args[j]? = some v → Value.okWide Tryd.prog W .any base t v := hval0
  have hW' := hW
  obtain ⟨p, q, hA0, hV, rfl, hfz, hnd⟩ := hW
  have hA : DataW.TrodAll enc Tryd.prog W 0 (fun _ => true) true Tryd.f3.params.toList args.toList ds p := hA0
  rw [Tryd.params3] at hA hval
  obtain ⟨v0, vs0, d0, ds0, p0, q0, hargs, rfl, rfl, h0, r0⟩ := trodAll_cons hA
  obtain ⟨rfl, rfl, rfl⟩ := trodAll_nil r0
  obtain rfl : args = #[v0] := by cases args; simp_all
  obtain ⟨g1, rfl⟩ := vars_one hV
  obtain ⟨a0, len0, cap0, rfl⟩ := okWide_slice Tryd.underlying22 (hval 0 22 v0 rfl rfl)
  have k0 := h0
  have lt0 : ∀ x ∈ p0, x.block < W.heap.size := by obtain ⟨m, hm⟩ := k0; exact DataW.trod_lt m _ _ _ hm
  obtain ⟨fuel0, hf0⟩ := h0
  obtain ⟨dd0, hd0, hh0⟩ := openU (enc := enc) flatU fuel0 22 [.l 7 7] (Flat.slice 7 Tryd.underlying22 (by simp [GU]) (by kernel_rfl) (by decide)) [.slice a0 len0 cap0] _ rfl (by simpa [Value.cells] using hf0)
  obtain ⟨n0, ee0, rr0, rfl, ht0, hr0⟩ := tyL.l hd0
  obtain rfl := tyL.nil hr0
  obtain ⟨c0, ys0, hc0, hs0, -⟩ := hh0
  obtain ⟨rfl, -⟩ := List.cons.inj hc0
  clear hA0 hval0
  have tf0 := ptab_of hsh (Lib.laidMet.reads hL (.tail _ (.tail _ (.head _)))) (Lib.laidMet.reads hL (.tail _ (.tail _ (.tail _ (.tail _ (.head _))))))
  refine (walk n0 ee0 _ W ht0 hs0 tf0).mono fun e W' ⟨he, bel⟩ => ?_
  subst he
  exact ⟨_, rfl, _, _, _, [], _, q, hW', trodAll_mk1 (shut_bool Tryd.underlying4 _), (trodAll_cons_mk (Below.trod laidOut (by kernel_rfl) (of_decide_eq_true (by kernel_rfl)) k0 bel lt0) trodAll_mk0), bel.trodVars laidOut (by kernel_rfl) hV, bel.frame _, fun h => by cases h⟩
theorem laid_met (os : Os) : laidMet Tryd.prog Rows.fnExactPatchTextRow.laid ((World.laidAll Tryd.prog os Rows.fnExactPatchTextRow.laid).forCall (fun _ _ => 0) ⟨#[], #[.slice none 0 0], []⟩).memory :=
  laidMet_laidAll _ (by kernel_rfl) (by kernel_rfl)
theorem reads (os : Os) {H : Type} (enc : TypeId × Value → H) : ∃ x, DataW.whole enc Tryd.prog ((World.laidAll Tryd.prog os Rows.fnExactPatchTextRow.laid).forCall (fun _ _ => 0) ⟨#[], #[.slice none 0 0], []⟩).memory Tryd.f3.params.toList Rows.fnExactPatchTextSpec.vars false (#[.slice none 0 0] : Array Value).toList 8 = some x :=
  Option.isSome_iff_exists.1 (by kernel_rfl)
set_option maxRecDepth 100000 in
theorem lifted (os : Os) (started : os.Started) (H : Type) (enc : TypeId × Value → H) (F : Stop.Interp) :
    ReturnsInHanded {} Tryd.checked os 3 .any ((OpenSpec.ofChange Rows.fnExactPatchTextSpec).preRow enc Tryd.prog Tryd.f3 Rows.fnExactPatchTextRow.domain false Rows.fnExactPatchTextRow.laid) (((OpenSpec.ofChange Rows.fnExactPatchTextSpec).at F).post enc Tryd.prog Tryd.f3 false true false false) := by
  obtain ⟨x, hx⟩ := reads os enc
  refine returnsInHanded_of_row (C := Tryd.checked) (s := OpenSpec.ofChange Rows.fnExactPatchTextSpec) own started (by kernel_rfl) Tryd.func3
    (witness_row_at (enc := enc) (C := Tryd.checked) false (World.laidAll Tryd.prog os Rows.fnExactPatchTextRow.laid) #[.slice none 0 0] (World.laidAll_os _ _ _) (by kernel_rfl) (by kernel_rfl) (by kernel_rfl)
      (OpenSpec.preRow_of_cond 8 hx (by kernel_rfl) (fun k hk => by cases hk) (by kernel_rfl) (laid_met os))) ?_
  intro W base args ds gs before hval hW _ _ _ hL hsh _
  exact contract H enc W base args ds gs before hval hW hsh hL
theorem said : Rows.FnExactPatchTextSaid :=
  OpenClaim.holds_of_cond 3 Tryd.f3 rfl rfl rfl rfl rfl rfl rfl ⟨rfl, rfl, rfl, rfl, rfl⟩ rfl rfl rfl rfl rfl (by kernel_rfl) Tryd.func3 (by kernel_rfl)
    (of_decide_eq_true (by kernel_rfl)) (by unfold Func.isWrapper; first | (rw [if_pos (by decide +kernel)]; kernel_rfl) | (rw [if_neg (by decide +kernel)]; exact ⟨rfl, rfl⟩))
    (fun os started H enc _ F => by rw [OpenClaim.pre_eq_preRow]; exact lifted os started H enc F)
theorem plain (f : FuncId) (fn : Func) (hf : Tryd.pinned.checked.prog.funcNamed "loop.example/g00119/laws.FnExactPatchText" = some f) (hfn : Tryd.pinned.checked.prog.funcs[f]? = some fn) :
    false = Tryd.pinned.checked.prog.looks [] ∧ ∀ (j : Nat) t, fn.params[j]? = some t → Tryd.pinned.checked.prog.wantsStandIn t = false := by
  obtain rfl : f = 3 := Option.some.inj ((show Tryd.prog.funcNamed "loop.example/g00119/laws.FnExactPatchText" = some 3 by kernel_rfl).symm.trans hf) |>.symm
  obtain rfl : fn = Tryd.f3 := (Option.some.inj (Tryd.func3.symm.trans hfn)).symm
  refine ⟨by kernel_rfl, fun j t ht => ?_⟩
  rw [Tryd.params3] at ht
  obtain rfl : t = 22 := by simpa using Array.mem_of_getElem? ht
  exact (show Tryd.prog.wantsStandIn 22 = false by kernel_rfl)
end LFnExactPatchText
theorem patchText_holds : Rows.FnExactPatchTextCardSaid :=
  Claim7.holds_tied_plain_at .later [] _ _ _ _ LFnExactPatchText.said (fun _ h => by cases h) (by kernel_rfl) (fun _ h => by cases h) fnExactPatchText_row_tie rfl ⟨rfl, rfl⟩ (by kernel_rfl) rfl LFnExactPatchText.plain (by kernel_rfl)
#print axioms patchText_holds
end Go.Proofs.YtkdiinjkpmkcpaaDoor
