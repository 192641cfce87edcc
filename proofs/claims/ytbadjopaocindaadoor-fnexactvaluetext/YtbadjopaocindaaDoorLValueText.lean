/- FnExactValueText holds: at every value impl.ValueText answers what spec.ValueText answers, and writes nothing. No conditions but the tied tables. -/
import Derived.Test.YtbadjopaocindaaDoorCards
import Derived.Test.YtbadjopaocindaaDoorTie
import Derived.Test.YtbadjopaocindaaDoorVTxO
import Derived.Test.YtbadjopaocindaaDoorVals2
import Derived.Test.YtbadjopaocindaaDoorValE
import Derived.Test.YtbadjopaocindaaDoorOpenN
import Derived.WalkKit
import Derived.ProofKit
import Derived.OpenShut
import Derived.ShutString
import Derived.ChangeOld
import Derived.Below
import Derived.Deep.DeepHandedRow
import Derived.Lib.LaidTab
import Derived.Lay
import Derived.Lib.LaidU8
import Derived.ChangeSame
namespace Go.Proofs.YtbadjopaocindaaDoor
open Go.ChangeShapes Go.WideShapes Go.ChangeAt Go.RowKit
open Go.ChangeMaps (open_string shut_string)
set_option linter.unusedVariables false
namespace LValueText
theorem own : ownKnob Tryd.prog.godebug = none := by kernel_rfl
theorem laidOut : laidOutB Tryd.prog = true := by kernel_rfl
def box5 (w : World) (b : Nat) (c0 c1 c2 c3 c4 : Value) : Prop := w.cell? ⟨b, 0, none⟩ = some c0 ∧ w.cell? ⟨b, 1, none⟩ = some c1 ∧ w.cell? ⟨b, 2, none⟩ = some c2 ∧ w.cell? ⟨b, 3, none⟩ = some c3 ∧ w.cell? ⟨b, 4, none⟩ = some c4
theorem box5.below {w w' : World} {b : Nat} {c0 c1 c2 c3 c4 : Value} (h : box5 w b c0 c1 c2 c3 c4) (hb : Below w.heap.size w w') : box5 w' b c0 c1 c2 c3 c4 := by
  have hl := World.block_lt_of_cell? _ _ h.1
  exact ⟨(hb.cell (p := ⟨b, 0, none⟩) hl).trans h.1, (hb.cell (p := ⟨b, 1, none⟩) hl).trans h.2.1, (hb.cell (p := ⟨b, 2, none⟩) hl).trans h.2.2.1, (hb.cell (p := ⟨b, 3, none⟩) hl).trans h.2.2.2.1, (hb.cell (p := ⟨b, 4, none⟩) hl).trans h.2.2.2.2⟩
set_option maxHeartbeats 1600000 in
theorem walk {n : Nat} (kd : Int) (tx : ByteArray) (nm : Int) (ks : List ByteArray) (kids : List (VT n)) (a : Option Addr) (cap : Nat) (a' : Option Addr) (cap' : Nat) (w : World) (hok : okVT (n + 1) (VT.mk ⟨kd, tx, nm, ks⟩ kids)) (hnm : nmVT (n + 1) (VT.mk ⟨kd, tx, nm, ks⟩ kids)) (m : Int) (htb : Tbs m w)
    (hks : strB w 0 a ks ∧ fits a ks.length cap) (hkd : valsOf w 0 n a' kids ∧ fits a' kids.length cap') :
    Calls Tryd.prog 5 #[.agg #[.int .i64 kd, .string tx, .int .i64 nm, .slice a ks.length cap, .slice a' kids.length cap']] w fun e w' => e = .returned (.bool true) ∧ Below w.heap.size w w' := by
  obtain ⟨V, hV⟩ : ∃ V : VT (n + 1), V = VT.mk ⟨kd, tx, nm, ks⟩ kids := ⟨_, rfl⟩
  rw [← hV] at hok hnm
  have Hnm := hide hnm
  have Htb := hide htb
  have Hok := hide hok
  have Hx : Hid (valArg w 0 (n + 1) (.agg #[.int .i64 kd, .string tx, .int .i64 nm, .slice a ks.length cap, .slice a' kids.length cap']) V) := by rw [hV]; exact ⟨_, _, _, _, rfl, hks, hkd⟩
  have HU : Hid (∀ (wx : World) (B : Nat) (X : Value), valArg wx B (n + 1) X V → ∃ (a1 : Option Addr) (c1 : Nat) (a2 : Option Addr) (c2 : Nat), X = .agg #[.int .i64 kd, .string tx, .int .i64 nm, .slice a1 ks.length c1, .slice a2 kids.length c2]) := by
    intro wx B X h; rw [hV] at h; obtain ⟨a1, c1, a2, c2, h, _⟩ := h; exact ⟨a1, c1, a2, c2, h⟩
  have Hsz : Hid (∀ wx, Below w.heap.size w wx → Calls Tryd.prog 20 #[.agg #[.int .i64 kd, .string tx, .int .i64 nm, .slice a ks.length cap, .slice a' kids.length cap'], .int .i64 1048576] wx fun e w' => e = .returned (.int .i64 (szV (n + 1) V 1048576)) ∧ Below wx.heap.size wx w') :=
    fun wx hx => szValue_any (n + 1) V _ 1048576 wx Hok.out (Hx.out.below hx) (by decide) (by decide)
  have HA : Hid (∀ o, Below w.heap.size w (w.alloc o)) := fun o => (Below.refl _ _).alloc (Nat.le_refl _) _
  clear hok hks hkd hV hnm htb
  by_cases hs : szV (n + 1) V 1048576 < 0
  · generalize szV (n + 1) V 1048576 = y at *
    go_enter Tryd.func5, Tryd.ntmps5
    go_wp2_with fail
    refine (Hsz.out _ (HA.out _)).mono ?_
    rintro e w1 ⟨rfl, hb1⟩
    go_wp2
    go_ret
    exact ⟨rfl, (HA.out _).trans (hb1.mono (by simp))⟩
  have Hsm := hide (szV_ok (n + 1) V 1048576 (by decide) hs)
  have Hto : Hid (∀ wx, Below w.heap.size w wx → Calls Tryd.prog 22 #[.agg #[.int .i64 kd, .string tx, .int .i64 nm, .slice a ks.length cap, .slice a' kids.length cap']] wx fun e w' => ∃ (a1 : Option Addr) (c1 : Nat) (a2 : Option Addr) (c2 : Nat), e = .returned (.agg #[.int .i64 kd, .string tx, .int .i64 nm, .slice a1 ks.length c1, .slice a2 kids.length c2]) ∧
      Hid (valArg w' 0 (n + 1) (.agg #[.int .i64 kd, .string tx, .int .i64 nm, .slice a1 ks.length c1, .slice a2 kids.length c2]) V) ∧ Below wx.heap.size wx w') := fun wx hx => (toValue_any (n + 1) V _ wx Hsm.out (Hx.out.below hx)).mono fun e w' ⟨X, he, hx2, hb⟩ => by
    obtain ⟨a1, c1, a2, c2, rfl⟩ := HU.out _ _ _ hx2
    exact ⟨a1, c1, a2, c2, he, hx2.mono (Nat.zero_le _), hb⟩
  have Heq : Hid (∀ (X Y : Value) wx, valArg wx 0 (n + 1) X V → valArg wx 0 (n + 1) Y V → Calls Tryd.prog 24 #[X, Y] wx fun e w' => e = .returned (.bool true) ∧ Below wx.heap.size wx w') := fun X Y wx hx hy => by
    have := eqValue_any (n + 1) V V X Y wx Hok.out Hok.out hx hy
    rw [eqVT_refl] at this; exact this
  clear HU Hsm Hx
  generalize szV (n + 1) V 1048576 = y at *
  go_enter Tryd.func5, Tryd.ntmps5
  go_wp2_with fail
  refine (Hsz.out _ (HA.out _)).mono ?_
  rintro e w1 ⟨rfl, hb1⟩
  have P1 : Hid (box5 w1 w.heap.size (.int .i64 kd) (.string tx) (.int .i64 nm) (.slice a ks.length cap) (.slice a' kids.length cap')) := box5.below ⟨by simp, by simp, by simp, by simp, by simp⟩ hb1
  have T1 := hide ((HA.out _).trans (hb1.mono (by simp)))
  obtain ⟨p0, p1, p2, p3, p4⟩ := P1.out
  clear hb1 Hsz
  go_wp2_with fail
  refine (Hto.out _ T1.out).mono ?_
  rintro e w2 ⟨a2, c2, b2, d2, rfl, X2, hb2⟩
  have P2 := hide (P1.out.below hb2)
  have T2 := hide (T1.out.trans (hb2.mono T1.out.size))
  clear hb2 P1 T1 p0 p1 p2 p3 p4
  obtain ⟨p0, p1, p2, p3, p4⟩ := P2.out
  go_wp2_with fail
  refine (sValueText_any V _ _ Hok.out Hnm.out X2.out).mono ?_
  rintro e w3 ⟨rfl, hb3⟩
  have P3 := hide (P2.out.below hb3)
  have T3 := hide (T2.out.trans (hb3.mono T2.out.size))
  clear hb3 P2 T2 X2 p0 p1 p2 p3 p4
  obtain ⟨p0, p1, p2, p3, p4⟩ := P3.out
  go_wp2_with fail
  refine (Hto.out _ T3.out).mono ?_
  rintro e w4 ⟨a4, c4, b4, d4, rfl, X4, hb4⟩
  have P4 := hide (P3.out.below hb4)
  have T4 := hide (T3.out.trans (hb4.mono T3.out.size))
  have HA4 : Hid (∀ o, Below w4.heap.size w4 (w4.alloc o)) := fun o => (Below.refl _ _).alloc (Nat.le_refl _) _
  clear hb4 P3 T3 p0 p1 p2 p3 p4
  have hne : ((vtB (n + 1) V).toList == (vtB (n + 1) V).toList) = true := by simp
  go_wp2_with fail
  refine (iValueText_any m V _ _ Hok.out Hnm.out (X4.out.below (HA4.out _)) (Htb.out.below (T4.out.trans ((HA4.out _).mono T4.out.size)))).mono ?_
  rintro e w5 ⟨rfl, hb5⟩
  have P5 := hide ((P4.out.below (HA4.out _)).below hb5)
  have Q5 : Hid (box5 w5 w4.heap.size (.int .i64 kd) (.string tx) (.int .i64 nm) (.slice a4 ks.length c4) (.slice b4 kids.length d4)) := box5.below ⟨by simp, by simp, by simp, by simp, by simp⟩ hb5
  have X5 := hide ((X4.out.below (HA4.out _)).below hb5)
  have T5 := hide ((T4.out.trans ((HA4.out _).mono T4.out.size)).trans (hb5.mono (by simp; have := T4.out.size; omega)))
  clear hb5 P4 T4 X4 HA4
  obtain ⟨p0, p1, p2, p3, p4⟩ := P5.out
  obtain ⟨q0, q1, q2, q3, q4⟩ := Q5.out
  have Hto5 : Hid (∀ wx, Below w5.heap.size w5 wx → Calls Tryd.prog 22 #[.agg #[.int .i64 kd, .string tx, .int .i64 nm, .slice a ks.length cap, .slice a' kids.length cap']] wx fun e w' => ∃ (a1 : Option Addr) (c1 : Nat) (a2 : Option Addr) (c2 : Nat), e = .returned (.agg #[.int .i64 kd, .string tx, .int .i64 nm, .slice a1 ks.length c1, .slice a2 kids.length c2]) ∧
      Hid (valArg w' 0 (n + 1) (.agg #[.int .i64 kd, .string tx, .int .i64 nm, .slice a1 ks.length c1, .slice a2 kids.length c2]) V) ∧ Below w5.heap.size w5 w') := fun wx hx => (Hto.out wx (T5.out.trans (hx.mono T5.out.size))).mono fun e w' ⟨a1, c1, a2, c2, he, hx2, hb⟩ => ⟨a1, c1, a2, c2, he, hx2, hx.trans (hb.mono hx.size)⟩
  have Heq5 : Hid (∀ (Y : Value) wx, Below w5.heap.size w5 wx → valArg wx 0 (n + 1) Y V → Calls Tryd.prog 24 #[.agg #[.int .i64 kd, .string tx, .int .i64 nm, .slice a4 ks.length c4, .slice b4 kids.length d4], Y] wx fun e w' => e = .returned (.bool true) ∧ Below w.heap.size w w') :=
    fun Y wx hx hy => (Heq.out _ Y wx (X5.out.below hx) hy).mono fun e w' h => ⟨h.1, (T5.out.trans (hx.mono T5.out.size)).trans (h.2.mono (by have := T5.out.size; have := hx.size; omega))⟩
  clear Hto Heq HA X5 T5 P5
  go_wp2
  go_region_with (first
    | (go_at_call 22; refine (Hto5.out _ (by repeat (first | exact Below.refl _ _ | refine Below.drew ?_ | refine below_drewN ?_ _))).mono ?_; rintro e w6 ⟨a6, c6, b6, d6, rfl, X6, hb6⟩; obtain ⟨q0', q1', q2', q3', q4'⟩ := Q5.out.below hb6)
    | (go_at_call 24; refine (Heq5.out _ _ (by repeat (first | assumption | refine Below.drew ?_ | refine below_drewN ?_ _)) (by first | exact X6.out | exact X6.out.below (by repeat (first | exact Below.refl _ _ | refine Below.drew ?_ | refine below_drewN ?_ _)))).mono ?_; rintro e w7 ⟨rfl, hb7⟩))
  all_goals go_wp2
  all_goals go_ret
  all_goals exact ⟨rfl, by repeat (first | assumption | refine Below.drew ?_ | refine below_drewN ?_ _)⟩
theorem tab_of_reads {W : World} (h : Lib.VarReads Tryd.prog W "internal/strconv.uint64pow10" Rows.laid_internal_strconv_uint64pow10) : Lib.TabIs Tryd.prog W "internal/strconv.uint64pow10" .u64 Lib.pow10Tab := by
  obtain ⟨g, t, cs, fuel, p, hg, ht, hv, hd⟩ := h
  obtain rfl : g = (Tryd.prog.globalNamed "internal/strconv.uint64pow10").getD 0 := by rw [hg]; rfl
  obtain rfl : t = ((Tryd.prog.globals[(Tryd.prog.globalNamed "internal/strconv.uint64pow10").getD 0]?).map (·.type)).getD 0 := by rw [ht]; rfl
  unfold Lib.TabIs
  rw [hv, ← Lib.cells_of_tab (n := 20) (e := 140) (k := .u64) (zs := Lib.pow10Tab) (by kernel_rfl) Tryd.underlying140 (by kernel_rfl) (by kernel_rfl) hd]
set_option maxRecDepth 100000 in
theorem contract (H : Type) (enc : TypeId × Value → H) (W : World) (base : Nat) (args : Array Value) (ds gs : List (DataW H)) (before : List MemPlace)
    (hval0 : ∀ (j : Nat) t v, Tryd.f5.params[j]? = some t → args[j]? = some v → Value.okWide Tryd.prog W .any base t v)
    (hW : DataW.Whole enc Tryd.prog Tryd.f5.params.toList Rows.fnExactValueTextSpec.vars false W args.toList ds gs before) (hsh : W.ShapedOpen Tryd.prog) (hL : laidMet Tryd.prog Rows.fnExactValueTextRow.laid W) :
    Calls Tryd.prog 5 args W fun e W' => ∃ v, e = .returned v ∧ Rows.fnExactValueTextSpec.post enc Tryd.prog Tryd.f5 false true false false W args v W' := by
  have hval : ∀ (j : Nat) t v, Tryd.f5.params[j]? = some t → args[j]? = some v → Value.okWide Tryd.prog W .any base t v := hval0
  have hW' := hW
  obtain ⟨p, q, hA0, hV, rfl, hfz, hnd⟩ := hW
  have hA : DataW.TrodAll enc Tryd.prog W 0 (fun _ => true) true Tryd.f5.params.toList args.toList ds p := hA0
  rw [Tryd.params5] at hA hval
  obtain ⟨v0, vs0, d0, ds0, p0, q0, hargs, rfl, rfl, h0, r0⟩ := trodAll_cons hA
  obtain ⟨rfl, rfl, rfl⟩ := trodAll_nil r0
  obtain rfl : args = #[v0] := by cases args; simp_all
  obtain ⟨rfl, rfl⟩ := trodVars_none hV
  obtain ⟨cs0, rfl, hsz0⟩ := okWide_struct Tryd.underlying40 (hval 0 40 v0 rfl rfl)
  have k0 := h0
  have lt0 : ∀ x ∈ p0, x.block < W.heap.size := by obtain ⟨m, hm⟩ := k0; exact DataW.trod_lt m _ _ _ hm
  obtain ⟨fuel0, hf0⟩ := h0
  have hlen0 : cs0.toList.length = 5 := by rw [Array.length_toList, hsz0]; kernel_rfl
  obtain ⟨v, a0, c0, b0, e0, hcs, ⟨hok, hnm⟩, hks, hkd⟩ := open_val fuel0 fuel0 (Nat.le_refl _) cs0.toList _ hlen0 (by simpa [Value.cells] using hf0)
  obtain ⟨kd, tx, nm, ks, kids, rfl⟩ := VT.parts v
  obtain rfl : cs0 = #[.int .i64 kd, .string tx, .int .i64 nm, .slice a0 ks.length c0, .slice b0 kids.length e0] := Array.toList_inj.1 hcs
  clear hA0 hval0
  obtain ⟨m, hm⟩ : ∃ m, W.cell? ⟨0, 0, none⟩ = some (.int .i64 m) := Tryd.laysM147.s1_3 W hsh
  have ht := tab_of_reads (Lib.laidMet.reads hL (.tail _ (.tail _ (.head _))))
  refine (walk kd tx nm ks kids a0 c0 b0 e0 W hok hnm m ⟨ht, hm⟩ hks hkd).mono fun e W' ⟨he, bel⟩ => ?_
  subst he
  exact ⟨_, rfl, _, _, _, [], _, [], hW', trodAll_mk1 (shut_bool Tryd.underlying4 _), (trodAll_cons_mk (Below.trod laidOut (by kernel_rfl) (of_decide_eq_true (by kernel_rfl)) k0 bel lt0) trodAll_mk0), rfl, bel.frame _, fun h => by cases h⟩
theorem laid_met (os : Os) : laidMet Tryd.prog Rows.fnExactValueTextRow.laid ((World.laidAll Tryd.prog os Rows.fnExactValueTextRow.laid).forCall (fun _ _ => 0) ⟨#[], #[.agg #[.int .i64 0, .string ByteArray.empty, .int .i64 0, .slice none 0 0, .slice none 0 0]], []⟩).memory :=
  laidMet_laidAll _ (by kernel_rfl) (by kernel_rfl)
theorem reads (os : Os) {H : Type} (enc : TypeId × Value → H) : ∃ x, DataW.whole enc Tryd.prog ((World.laidAll Tryd.prog os Rows.fnExactValueTextRow.laid).forCall (fun _ _ => 0) ⟨#[], #[.agg #[.int .i64 0, .string ByteArray.empty, .int .i64 0, .slice none 0 0, .slice none 0 0]], []⟩).memory Tryd.f5.params.toList Rows.fnExactValueTextSpec.vars false #[Value.agg #[.int .i64 0, .string ByteArray.empty, .int .i64 0, .slice none 0 0, .slice none 0 0]].toList 8 = some x :=
  Option.isSome_iff_exists.1 (by kernel_rfl)
set_option maxRecDepth 100000 in
theorem lifted (os : Os) (started : os.Started) (H : Type) (enc : TypeId × Value → H) (F : Stop.Interp) :
    ReturnsInHanded {} Tryd.checked os 5 .any ((OpenSpec.ofChange Rows.fnExactValueTextSpec).preRow enc Tryd.prog Tryd.f5 Rows.fnExactValueTextRow.domain false Rows.fnExactValueTextRow.laid) (((OpenSpec.ofChange Rows.fnExactValueTextSpec).at F).post enc Tryd.prog Tryd.f5 false true false false) := by
  obtain ⟨x, hx⟩ := reads os enc
  refine returnsInHanded_of_row (C := Tryd.checked) (s := OpenSpec.ofChange Rows.fnExactValueTextSpec) own started (by kernel_rfl) Tryd.func5
    (witness_row_at (enc := enc) (C := Tryd.checked) false (World.laidAll Tryd.prog os Rows.fnExactValueTextRow.laid) #[.agg #[.int .i64 0, .string ByteArray.empty, .int .i64 0, .slice none 0 0, .slice none 0 0]] (World.laidAll_os _ _ _) (by kernel_rfl) (by kernel_rfl) (by kernel_rfl)
      (OpenSpec.preRow_of_cond 8 hx (by kernel_rfl) (fun k hk => by cases hk) (by kernel_rfl) (laid_met os))) ?_
  intro W base args ds gs before hval hW _ _ _ hL hsh _
  exact contract H enc W base args ds gs before hval hW hsh hL

theorem said : Rows.FnExactValueTextSaid :=
  OpenClaim.holds_of_cond 5 Tryd.f5 rfl rfl rfl rfl rfl rfl rfl ⟨rfl, rfl, rfl, rfl, rfl⟩ rfl rfl rfl rfl rfl (by kernel_rfl) Tryd.func5 (by kernel_rfl)
    (of_decide_eq_true (by kernel_rfl)) (by unfold Func.isWrapper; first | (rw [if_pos (by decide +kernel)]; kernel_rfl) | (rw [if_neg (by decide +kernel)]; exact ⟨rfl, rfl⟩))
    (fun os started H enc _ F => by rw [OpenClaim.pre_eq_preRow]; exact lifted os started H enc F)

theorem plain (f : FuncId) (fn : Func) (hf : Tryd.pinned.checked.prog.funcNamed "loop.example/g00119/laws.FnExactValueText" = some f) (hfn : Tryd.pinned.checked.prog.funcs[f]? = some fn) :
    true = Tryd.pinned.checked.prog.looks [] ∧ ∀ (j : Nat) t, fn.params[j]? = some t → Tryd.pinned.checked.prog.wantsStandIn t = false := by
  obtain rfl : f = 5 := Option.some.inj ((show Tryd.prog.funcNamed "loop.example/g00119/laws.FnExactValueText" = some 5 by kernel_rfl).symm.trans hf) |>.symm
  obtain rfl : fn = Tryd.f5 := (Option.some.inj (Tryd.func5.symm.trans hfn)).symm
  refine ⟨by kernel_rfl, fun j t ht => ?_⟩
  rw [Tryd.params5] at ht
  obtain rfl : t = 40 := by simpa using Array.mem_of_getElem? ht
  exact (show Tryd.prog.wantsStandIn 40 = false by kernel_rfl)
end LValueText
theorem valueText_holds : Rows.FnExactValueTextCardSaid :=
  Claim7.holds_tied_plain_at .later [] _ _ _ _ LValueText.said (fun _ h => by cases h) (by kernel_rfl) (fun _ h => by cases h) fnExactValueText_row_tie rfl ⟨rfl, rfl⟩ (by kernel_rfl) rfl LValueText.plain (by kernel_rfl)
#print axioms valueText_holds
end Go.Proofs.YtbadjopaocindaaDoor
