/- FnExactParseLabels holds: at every text impl.ParseLabels answers what spec.ParseLabels answers, in memory of its own. No conditions but the tied tables. -/
import Derived.Test.YtdcknajakmjniaaDoorCards
import Derived.Test.YtdcknajakmjniaaDoorTie
import Derived.Test.YtdcknajakmjniaaDoorParse2
import Derived.Test.YtdcknajakmjniaaDoorHeld
import Derived.WalkKit
import Derived.ProofKit
import Derived.OpenShut
import Derived.ShutString
import Derived.ChangeOld
import Derived.Below
import Derived.Deep.DeepHandedRow
import Derived.Lib.LaidTab
namespace Go.Proofs.YtdcknajakmjniaaDoor
open Go.ChangeShapes Go.WideShapes Go.ChangeAt Go.RowKit
open Go.ChangeMaps (open_string shut_string)
set_option linter.unusedVariables false
theorem specR_len (s : ByteArray) : (specR s).1.length ≤ 8 := by
  unfold specR
  split
  · simp
  · unfold resOf
    split
    · simp
    · split
      · rename_i h; exact (by unfold labelsB at h; rw [decide_eq_true_eq] at h; exact h.1)
      · simp
namespace LParse
theorem own : ownKnob Tryd.prog.godebug = none := by kernel_rfl
theorem laidOut : laidOutB Tryd.prog = true := by kernel_rfl

set_option maxHeartbeats 1600000 in
theorem walk (s : ByteArray) (m : Int) (w : World) (hs : s.size ≤ maxLen) (hm : w.cell? ⟨0, 0, none⟩ = some (.int .i64 m)) :
    Calls Tryd.prog 4 #[.string s] w fun e w' => e = .returned (.bool true) ∧ Below w.heap.size w w' := by
  by_cases hbig : (1048576 : Int) < (s.size : Int)
  · clear hm
    go_enter Tryd.func4, Tryd.ntmps4
    go_wp2
    go_ret
    exact ⟨rfl, Below.refl _ _⟩
  have hs' : s.size ≤ 1048576 := by omega
  have h0w : 0 < w.heap.size := World.block_lt_of_cell? _ _ hm
  have Hm : Hid (∀ wx, Below w.heap.size w wx → wx.cell? ⟨0, 0, none⟩ = some (.int .i64 m)) := fun wx hb => (hb.cell (p := ⟨0, 0, none⟩) h0w).trans hm
  have hsp := fun wx => sparse_any s wx hs'
  have hip := fun wx hm => iparse_any s m wx hs' hm
  have hR := specR_len s
  generalize (specR s).1 = R at *
  generalize (specR s).2 = Q at *
  have Hsp := hide hsp
  have Hip := hide hip
  have hRl : R.length ≤ 1048576 := by omega
  have hRm : R.length ≤ maxLen := by unfold maxLen; omega
  have hde : decide (R = R) = true := by simp
  have hqq : (Q != Q) = false := by simp
  clear hsp hip hm
  go_enter Tryd.func4, Tryd.ntmps4
  go_wp2_with fail
  refine (Hsp.out _).mono ?_
  rintro e w1 ⟨g1, cap1, rfl, ho1, hb1⟩
  have Hb1 := hide hb1
  have Ho1 := hide ho1
  have l1 := owns_lt ho1
  clear ho1 hb1
  go_wp2_with fail
  refine (Hip.out _ (Hm.out _ Hb1.out)).mono ?_
  rintro e w2 ⟨g2, cap2, rfl, ho2, hb2⟩
  have Hb2 := hide (Hb1.out.trans (hb2.mono Hb1.out.size))
  have Ho12 := hide (owns_below Ho1.out hb2)
  have Ho2 := hide ho2
  have l2 := owns_lt ho2
  have hsz1 := Hb1.out.size
  have Hs : Hid (g1 ≠ g2 ∧ w.heap.size ≤ g2) := ⟨by omega, by omega⟩
  clear ho2 hb2 Ho1 Hb1 l1 l2 hsz1
  go_wp2_with fail
  refine (eqLabelS_any _ _ _ _ R R _ hRm hRm (row_of_owns Ho2.out) (row_of_owns Ho12.out)).mono ?_
  rintro e w3 ⟨rfl, hb3⟩
  have Hb3 := hide (Hb2.out.trans (hb3.mono Hb2.out.size))
  have Ho13 := hide (owns_below Ho12.out hb3)
  have Ho23 := hide (owns_below Ho2.out hb3)
  clear hb3 Ho12 Ho2 Hb2
  go_wp2_with fail
  refine (markLabelS_any _ _ _ _ 1 _ _ hRl (by decide) (by decide) Ho23.out).mono ?_
  rintro e w4 ⟨rfl, ho24, hb4⟩
  have Ho14 := hide (owns_ex Ho13.out hb4 (Nat.le_refl _) Hs.out.1)
  have Ho24 := hide ho24
  have Hb4 := hide (Hb3.out.trans ((hb4.mono Hb3.out.size).below Hs.out.2))
  clear ho24 hb4 Ho13 Ho23 Hb3
  go_wp2_with fail
  refine (heldLabelS_any _ _ _ 1 _ hRl (by decide) (by decide) (row_of_owns Ho24.out)).mono ?_
  rintro e w5 ⟨rfl, hb5⟩
  have Hb5 := hide (Hb4.out.trans (hb5.mono Hb4.out.size))
  have Ho15 := hide (owns_below Ho14.out hb5)
  have Ho25 := hide (owns_below Ho24.out hb5)
  clear hb5 Ho14 Ho24 Hb4
  have hq1 : (((1 + R.length * 2 : Nat) : Int) != ((1 + R.length * 2 : Nat) : Int)) = false := by simp
  have hq2 : ¬ ((1 + R.length * 2 : Nat) : Int) < 0 := by omega
  go_wp2_with fail
  refine (Hip.out _ (Hm.out _ Hb5.out)).mono ?_
  rintro e w6 ⟨g6, cap6, rfl, ho6, hb6⟩
  have Hb6 := hide (Hb5.out.trans (hb6.mono Hb5.out.size))
  have Ho16 := hide (owns_below Ho15.out hb6)
  have Ho26 := hide (owns_below Ho25.out hb6)
  have Ho6 := hide ho6
  clear ho6 hb6 Ho15 Ho25 Hb5
  go_wp2_with fail
  refine (eqLabelS_any _ _ _ _ R R _ hRm hRm (row_of_owns Ho6.out) (row_of_owns Ho16.out)).mono ?_
  rintro e w7 ⟨rfl, hb7⟩
  have Hb7 := hide (Hb6.out.trans (hb7.mono Hb6.out.size))
  have Ho27 := hide (owns_below Ho26.out hb7)
  clear hb7 Ho16 Ho26 Ho6 Hb6
  go_wp2_with fail
  refine (heldLabelS_any _ _ _ 1 _ hRl (by decide) (by decide) (row_of_owns Ho27.out)).mono ?_
  rintro e w8 ⟨rfl, hb8⟩
  have Hb8 := hide (Hb7.out.trans (hb8.mono Hb7.out.size))
  clear hb8 Ho27 Hb7
  go_wp2
  go_ret
  exact ⟨rfl, Hb8.out⟩

/-- WHAT THE WALK GIVES, FOR EVERY ARGUMENT AND EVERY WORLD OF THE PROGRAM's SHAPE -/
theorem contract (H : Type) (enc : TypeId × Value → H) (W : World) (base : Nat) (args : Array Value) (ds gs : List (DataW H)) (before : List MemPlace)
    (hval0 : ∀ (j : Nat) t v, Tryd.f4.params[j]? = some t → args[j]? = some v → Value.okWide Tryd.prog W .any base t v)
    (hW : DataW.Whole enc Tryd.prog Tryd.f4.params.toList Rows.fnExactParseLabelsSpec.vars false W args.toList ds gs before) (hsh : W.ShapedOpen Tryd.prog) :
    Calls Tryd.prog 4 args W fun e W' => ∃ v, e = .returned v ∧ Rows.fnExactParseLabelsSpec.post enc Tryd.prog Tryd.f4 false true false false W args v W' := by
  have hval : ∀ (j : Nat) t v, Tryd.f4.params[j]? = some t → args[j]? = some v → Value.okWide Tryd.prog W .any base t v := hval0
  have hW' := hW
  obtain ⟨p, q, hA0, hV, rfl, hfz, hnd⟩ := hW
  have hA : DataW.TrodAll enc Tryd.prog W 0 (fun _ => true) true Tryd.f4.params.toList args.toList ds p := hA0
  rw [Tryd.params4] at hA hval
  obtain ⟨v0, vs0, d0, ds0, p0, q0, hargs, rfl, rfl, h0, r0⟩ := trodAll_cons hA
  obtain ⟨rfl, rfl, rfl⟩ := trodAll_nil r0
  obtain rfl : args = #[v0] := by cases args; simp_all
  obtain ⟨rfl, rfl⟩ := trodVars_none hV
  obtain ⟨a0, rfl, rfl, rfl, w0⟩ := open_string Tryd.underlying9 (hval 0 9 v0 rfl rfl) h0
  clear hA0 hval0
  obtain ⟨m, hm⟩ : ∃ m, W.cell? ⟨0, 0, none⟩ = some (.int .i64 m) := Tryd.laysM147.s1_3 W hsh
  refine (walk a0 m W w0 hm).mono fun e W' ⟨he, bel⟩ => ?_
  subst he
  exact ⟨_, rfl, _, _, _, [], _, [], hW', trodAll_mk1 (shut_bool Tryd.underlying4 _), (trodAll_cons_mk (shut_string Tryd.underlying9 w0) trodAll_mk0), rfl, bel.frame _, fun h => by cases h⟩

/-- A WORLD FOR THE WITNESS: the settled one, the two tables holding what their initialisers lay. -/
def acc : Array Value := #[.int .u8 128, .int .u8 191, .int .u8 160, .int .u8 191, .int .u8 128, .int .u8 159, .int .u8 144, .int .u8 191, .int .u8 128, .int .u8 143, .int .u8 0, .int .u8 0, .int .u8 0, .int .u8 0, .int .u8 0, .int .u8 0, .int .u8 0, .int .u8 0, .int .u8 0, .int .u8 0, .int .u8 0, .int .u8 0, .int .u8 0, .int .u8 0, .int .u8 0, .int .u8 0, .int .u8 0, .int .u8 0, .int .u8 0, .int .u8 0, .int .u8 0, .int .u8 0]
def layFirst : Obj → Obj
  | .cells _ t frozen => .cells (Go.Pinned.utf8FirstZ.map fun n : Nat => Value.int .u8 (n : Int)).toArray t frozen
  | o => o
def layAcc : Obj → Obj
  | .cells _ t frozen => .cells acc t frozen
  | o => o
noncomputable def laidWorld (os : Os) : World :=
  { World.holding Tryd.prog os ⟨#[], #[], []⟩ with heap := ((World.holding Tryd.prog os ⟨#[], #[], []⟩).heap.modify 1 layFirst).modify 2 layAcc }
theorem laid_met (os : Os) : laidMet Tryd.prog Rows.fnExactParseLabelsRow.laid ((laidWorld os).forCall (fun _ _ => 0) ⟨#[], #[.string ByteArray.empty], []⟩).memory :=
  laidMet_of_run' 8 (by kernel_rfl) (by kernel_rfl)
theorem reads (os : Os) {H : Type} (enc : TypeId × Value → H) : ∃ places, DataW.whole enc Tryd.prog ((laidWorld os).forCall (fun _ _ => 0) ⟨#[], #[.string ByteArray.empty], []⟩).memory Tryd.f4.params.toList Rows.fnExactParseLabelsSpec.vars false #[Value.string ByteArray.empty].toList 8 = some ([.lit (.string [])], [], places) :=
  ⟨[], by kernel_rfl⟩

set_option maxRecDepth 100000 in
theorem lifted (os : Os) (started : os.Started) (H : Type) (enc : TypeId × Value → H) (F : Stop.Interp) :
    ReturnsInHanded {} Tryd.checked os 4 .any ((OpenSpec.ofChange Rows.fnExactParseLabelsSpec).preRow enc Tryd.prog Tryd.f4 Rows.fnExactParseLabelsRow.domain false Rows.fnExactParseLabelsRow.laid) (((OpenSpec.ofChange Rows.fnExactParseLabelsSpec).at F).post enc Tryd.prog Tryd.f4 false true false false) := by
  obtain ⟨places, hx⟩ := reads os enc
  refine returnsInHanded_of_row (C := Tryd.checked) (s := OpenSpec.ofChange Rows.fnExactParseLabelsSpec) own started (by kernel_rfl) Tryd.func4
    (witness_row_at (enc := enc) (C := Tryd.checked) false (laidWorld os) #[.string ByteArray.empty] rfl (by kernel_rfl) (by kernel_rfl) (by kernel_rfl)
      (OpenSpec.preRow_of_cond 8 hx (by kernel_rfl) (fun k hk => by cases hk) (by kernel_rfl) (laid_met os))) ?_
  intro W base args ds gs before hval hW _ _ _ hL hsh _
  exact contract H enc W base args ds gs before hval hW hsh

theorem said : Rows.FnExactParseLabelsSaid :=
  OpenClaim.holds_of_cond 4 Tryd.f4 rfl rfl rfl rfl rfl rfl rfl ⟨rfl, rfl, rfl, rfl, rfl⟩ rfl rfl rfl rfl rfl (by kernel_rfl) Tryd.func4 (by kernel_rfl)
    (of_decide_eq_true (by kernel_rfl)) (by unfold Func.isWrapper; first | (rw [if_pos (by decide +kernel)]; kernel_rfl) | (rw [if_neg (by decide +kernel)]; exact ⟨rfl, rfl⟩))
    (fun os started H enc _ F => by rw [OpenClaim.pre_eq_preRow]; exact lifted os started H enc F)

theorem plain (f : FuncId) (fn : Func) (hf : Tryd.pinned.checked.prog.funcNamed "loop.example/g00119/laws.FnExactParseLabels" = some f) (hfn : Tryd.pinned.checked.prog.funcs[f]? = some fn) :
    false = Tryd.pinned.checked.prog.looks [] ∧ ∀ (j : Nat) t, fn.params[j]? = some t → Tryd.pinned.checked.prog.wantsStandIn t = false := by
  obtain rfl : f = 4 := Option.some.inj ((show Tryd.prog.funcNamed "loop.example/g00119/laws.FnExactParseLabels" = some 4 by kernel_rfl).symm.trans hf) |>.symm
  obtain rfl : fn = Tryd.f4 := (Option.some.inj (Tryd.func4.symm.trans hfn)).symm
  refine ⟨by kernel_rfl, fun j t ht => ?_⟩
  rw [Tryd.params4] at ht
  obtain rfl : t = 9 := by simpa using Array.mem_of_getElem? ht
  exact (show Tryd.prog.wantsStandIn 9 = false by kernel_rfl)
end LParse
theorem parseLabels_holds : Rows.FnExactParseLabelsCardSaid :=
  Claim7.holds_tied_plain_at .later [] _ _ _ _ LParse.said (fun _ h => by cases h) (by kernel_rfl) (fun _ h => by cases h) fnExactParseLabels_row_tie rfl ⟨rfl, rfl⟩ (by kernel_rfl) rfl LParse.plain (by kernel_rfl)
#print axioms parseLabels_holds
end Go.Proofs.YtdcknajakmjniaaDoor
