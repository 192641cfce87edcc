/- FnExactParseSelector holds: at every text impl.ParseSelector answers what spec.ParseSelector answers, in memory of its own. No conditions but the tied tables. -/
import Derived.Test.YtbadjopaocindaaDoorCards
import Derived.Test.YtbadjopaocindaaDoorTie
import Derived.Test.YtbadjopaocindaaDoorParseT
import Derived.Test.YtbadjopaocindaaDoorMarkT
import Derived.Test.YtbadjopaocindaaDoorTerms2
import Derived.WalkKit
import Derived.ProofKit
import Derived.OpenShut
import Derived.ShutString
import Derived.ChangeOld
import Derived.Below
import Derived.Deep.DeepHandedRow
import Derived.Lib.LaidTab
namespace Go.Proofs.YtbadjopaocindaaDoor
open Go.ChangeShapes Go.WideShapes Go.ChangeAt Go.RowKit
open Go.ChangeMaps (open_string shut_string)
set_option linter.unusedVariables false
theorem selR_bound (s : ByteArray) : (selR s).1.length ≤ 8 ∧ ∀ t ∈ (selR s).1, t.2.2.length ≤ 6 := by
  unfold selR
  split
  · exact ⟨by simp, fun t ht => by simp at ht⟩
  · cases h : selB ((pcs 44 s.data.toList).map readS)
    · rw [resT_no h]; exact ⟨by simp, fun t ht => by simp at ht⟩
    · rw [resT_yes h]
      unfold selB at h
      rw [decide_eq_true_eq] at h
      refine ⟨h.1, fun t ht => ?_⟩
      obtain ⟨hv, hn, hk⟩ := termB_parts (h.2 t ht)
      exact kindB_le hk
theorem kEnd_bound : ∀ (ts : List TD) (k : Nat), (∀ t ∈ ts, t.2.2.length ≤ 6) → kEnd ts k ≤ k + 8 * ts.length
  | [], k, _ => by simp [kEnd]
  | t :: r, k, h => by
    have := kEnd_bound r (k + 2 + t.2.2.length) (fun x hx => h x (by simp [hx]))
    have := h t (by simp)
    unfold kEnd
    simp only [List.length_cons]
    omega
namespace LParseSel
theorem own : ownKnob Tryd.prog.godebug = none := by kernel_rfl
theorem laidOut : laidOutB Tryd.prog = true := by kernel_rfl

set_option maxHeartbeats 1600000 in
theorem walk (s : ByteArray) (m : Int) (w : World) (hs : s.size ≤ maxLen) (hm : w.cell? ⟨0, 0, none⟩ = some (.int .i64 m)) :
    Calls Tryd.prog 4 #[.string s] w fun e w' => e = .returned (.bool true) ∧ Below w.heap.size w w' := by
  by_cases hbig : (1048576 : Int) < (s.size : Int)
  · clear hm
    go_enter Tryd.func4, Tryd.ntmps4
    go_wp2
    go_ret
    exact ⟨rfl, Below.refl _ _⟩
  have hs' : s.size ≤ 1048576 := by omega
  have h0w : 0 < w.heap.size := World.block_lt_of_cell? _ _ hm
  have Hm : Hid (∀ wx, Below w.heap.size w wx → wx.cell? ⟨0, 0, none⟩ = some (.int .i64 m)) := fun wx hb => (hb.cell (p := ⟨0, 0, none⟩) h0w).trans hm
  have hsp := fun wx => sparse_any s wx hs'
  have hip := fun wx hm => iparse_any s m wx hs' hm
  have hR := selR_bound s
  obtain ⟨R, Q, hRQ⟩ : ∃ R Q, selR s = (R, Q) := ⟨_, _, rfl⟩
  rw [hRQ] at hsp hip hR
  obtain ⟨hR8, hR6⟩ := hR
  simp only at hR8 hR6
  have Hsp := hide hsp
  have Hip := hide hip
  have hKe := kEnd_bound R 1 hR6
  have hRm : R.length ≤ maxLen := by unfold maxLen; omega
  have hRn : R.length ≤ 1000000 := by omega
  have Hv : Hid (∀ t ∈ R, t.2.2.length ≤ maxLen) := fun t ht => by have := hR6 t ht; unfold maxLen; omega
  have Hvn : Hid (∀ t ∈ R, t.2.2.length ≤ 1000000) := fun t ht => by have := hR6 t ht; omega
  have hde : decide (R = R) = true := by simp
  have hqq : (Q != Q) = false := by simp
  have hk1 : kEnd R 1 ≤ 1000000 := by omega
  clear hsp hip hm hRQ hR6
  go_enter Tryd.func4, Tryd.ntmps4
  go_wp2_with fail
  refine (Hsp.out _).mono ?_
  rintro e w1 ⟨g1, cap1, rfl, ho1, hb1⟩
  have Hb1 := hide hb1
  have Hr1 := hide ho1.row
  clear ho1 hb1
  simp only
  go_wp2_with fail
  refine (Hip.out _ (Hm.out _ Hb1.out)).mono ?_
  rintro e w2 ⟨g2, cap2, rfl, ho2, hb2⟩
  have T2 := hide hb2
  have Ho2 := hide ho2
  clear ho2 hb2
  simp only
  go_wp2_with fail
  refine (eqTermS_any _ _ _ _ R R _ hRm hRm Hv.out Hv.out Ho2.out.row (Hr1.out.below T2.out)).mono ?_
  rintro e w3 ⟨rfl, hb3⟩
  have T3 := hide (T2.out.trans (hb3.mono T2.out.size))
  have Ho3 := hide (Ho2.out.below hb3)
  clear hb3 Ho2
  go_wp2_with fail
  refine (markTermS_any _ _ _ 1 R _ hRn Hvn.out (by decide) hk1 Ho3.out).mono ?_
  rintro e w4 ⟨rfl, ho4, hO4⟩
  have T4 := hide (T3.out.trans (hO4.below (Nat.le_refl _) T3.out.size))
  have Ho4 := hide ho4
  clear ho4 hO4 Ho3
  go_wp2_with fail
  refine (heldTermS_any _ _ 1 R _ hRn Hvn.out (by decide) hk1 Ho4.out.row).mono ?_
  rintro e w5 ⟨rfl, hb5⟩
  have T5 := hide (T4.out.trans (hb5.mono T4.out.size))
  have Ho5 := hide (Ho4.out.below hb5)
  clear hb5 Ho4
  have hq1 : (((kEnd R 1 : Nat) : Int) != ((kEnd R 1 : Nat) : Int)) = false := by simp
  have hq2 : ¬ ((kEnd R 1 : Nat) : Int) < 0 := by omega
  have Hb5 : Hid (Below w.heap.size w w5) := Hb1.out.trans (T5.out.mono Hb1.out.size)
  go_wp2_with fail
  refine (Hip.out _ (Hm.out _ Hb5.out)).mono ?_
  rintro e w6 ⟨g6, cap6, rfl, ho6, hb6⟩
  have T6 := hide (T5.out.trans (hb6.mono T5.out.size))
  have Ho6 := hide (Ho5.out.below hb6)
  have Hn6 := hide ho6
  clear ho6 hb6 Ho5
  simp only
  go_wp2_with fail
  refine (eqTermS_any _ _ _ _ R R _ hRm hRm Hv.out Hv.out Hn6.out.row (Hr1.out.below T6.out)).mono ?_
  rintro e w7 ⟨rfl, hb7⟩
  have T7 := hide (T6.out.trans (hb7.mono T6.out.size))
  have Ho7 := hide (Ho6.out.below hb7)
  clear hb7 Ho6 Hn6
  go_wp2_with fail
  refine (heldTermS_any _ _ 1 R _ hRn Hvn.out (by decide) hk1 Ho7.out.row).mono ?_
  rintro e w8 ⟨rfl, hb8⟩
  have T8 := hide (T7.out.trans (hb8.mono T7.out.size))
  clear hb8 Ho7
  go_wp2
  go_ret
  exact ⟨rfl, Hb1.out.trans (T8.out.mono Hb1.out.size)⟩

set_option maxRecDepth 100000 in
theorem contract (H : Type) (enc : TypeId × Value → H) (W : World) (base : Nat) (args : Array Value) (ds gs : List (DataW H)) (before : List MemPlace)
    (hval0 : ∀ (j : Nat) t v, Tryd.f4.params[j]? = some t → args[j]? = some v → Value.okWide Tryd.prog W .any base t v)
    (hW : DataW.Whole enc Tryd.prog Tryd.f4.params.toList Rows.fnExactParseSelectorSpec.vars false W args.toList ds gs before) (hsh : W.ShapedOpen Tryd.prog) :
    Calls Tryd.prog 4 args W fun e W' => ∃ v, e = .returned v ∧ Rows.fnExactParseSelectorSpec.post enc Tryd.prog Tryd.f4 false true false false W args v W' := by
  have hval : ∀ (j : Nat) t v, Tryd.f4.params[j]? = some t → args[j]? = some v → Value.okWide Tryd.prog W .any base t v := hval0
  have hW' := hW
  obtain ⟨p, q, hA0, hV, rfl, hfz, hnd⟩ := hW
  have hA : DataW.TrodAll enc Tryd.prog W 0 (fun _ => true) true Tryd.f4.params.toList args.toList ds p := hA0
  rw [Tryd.params4] at hA hval
  obtain ⟨v0, vs0, d0, ds0, p0, q0, hargs, rfl, rfl, h0, r0⟩ := trodAll_cons hA
  obtain ⟨rfl, rfl, rfl⟩ := trodAll_nil r0
  obtain rfl : args = #[v0] := by cases args; simp_all
  obtain ⟨rfl, rfl⟩ := trodVars_none hV
  obtain ⟨a0, rfl, rfl, rfl, w0⟩ := open_string Tryd.underlying9 (hval 0 9 v0 rfl rfl) h0
  clear hA0 hval0
  obtain ⟨m, hm⟩ : ∃ m, W.cell? ⟨0, 0, none⟩ = some (.int .i64 m) := Tryd.laysM147.s1_3 W hsh
  refine (walk a0 m W w0 hm).mono fun e W' ⟨he, bel⟩ => ?_
  subst he
  exact ⟨_, rfl, _, _, _, [], _, [], hW', trodAll_mk1 (shut_bool Tryd.underlying4 _), (trodAll_cons_mk (shut_string Tryd.underlying9 w0) trodAll_mk0), rfl, bel.frame _, fun h => by cases h⟩

/-- A WORLD FOR THE WITNESS: the settled one, the two tables holding what their initialisers lay. -/
def acc : Array Value := #[.int .u8 128, .int .u8 191, .int .u8 160, .int .u8 191, .int .u8 128, .int .u8 159, .int .u8 144, .int .u8 191, .int .u8 128, .int .u8 143, .int .u8 0, .int .u8 0, .int .u8 0, .int .u8 0, .int .u8 0, .int .u8 0, .int .u8 0, .int .u8 0, .int .u8 0, .int .u8 0, .int .u8 0, .int .u8 0, .int .u8 0, .int .u8 0, .int .u8 0, .int .u8 0, .int .u8 0, .int .u8 0, .int .u8 0, .int .u8 0, .int .u8 0, .int .u8 0]
def layFirst : Obj → Obj
  | .cells _ t frozen => .cells (Go.Pinned.utf8FirstZ.map fun n : Nat => Value.int .u8 (n : Int)).toArray t frozen
  | o => o
def layAcc : Obj → Obj
  | .cells _ t frozen => .cells acc t frozen
  | o => o
noncomputable def laidWorld (os : Os) : World :=
  { World.holding Tryd.prog os ⟨#[], #[], []⟩ with heap := ((World.holding Tryd.prog os ⟨#[], #[], []⟩).heap.modify 1 layFirst).modify 2 layAcc }
theorem laid_met (os : Os) : laidMet Tryd.prog Rows.fnExactParseSelectorRow.laid ((laidWorld os).forCall (fun _ _ => 0) ⟨#[], #[.string ByteArray.empty], []⟩).memory :=
  laidMet_of_run' 8 (by kernel_rfl) (by kernel_rfl)
theorem reads (os : Os) {H : Type} (enc : TypeId × Value → H) : ∃ places, DataW.whole enc Tryd.prog ((laidWorld os).forCall (fun _ _ => 0) ⟨#[], #[.string ByteArray.empty], []⟩).memory Tryd.f4.params.toList Rows.fnExactParseSelectorSpec.vars false #[Value.string ByteArray.empty].toList 8 = some ([.lit (.string [])], [], places) :=
  ⟨[], by kernel_rfl⟩

set_option maxRecDepth 100000 in
theorem lifted (os : Os) (started : os.Started) (H : Type) (enc : TypeId × Value → H) (F : Stop.Interp) :
    ReturnsInHanded {} Tryd.checked os 4 .any ((OpenSpec.ofChange Rows.fnExactParseSelectorSpec).preRow enc Tryd.prog Tryd.f4 Rows.fnExactParseSelectorRow.domain false Rows.fnExactParseSelectorRow.laid) (((OpenSpec.ofChange Rows.fnExactParseSelectorSpec).at F).post enc Tryd.prog Tryd.f4 false true false false) := by
  obtain ⟨places, hx⟩ := reads os enc
  refine returnsInHanded_of_row (C := Tryd.checked) (s := OpenSpec.ofChange Rows.fnExactParseSelectorSpec) own started (by kernel_rfl) Tryd.func4
    (witness_row_at (enc := enc) (C := Tryd.checked) false (laidWorld os) #[.string ByteArray.empty] rfl (by kernel_rfl) (by kernel_rfl) (by kernel_rfl)
      (OpenSpec.preRow_of_cond 8 hx (by kernel_rfl) (fun k hk => by cases hk) (by kernel_rfl) (laid_met os))) ?_
  intro W base args ds gs before hval hW _ _ _ hL hsh _
  exact contract H enc W base args ds gs before hval hW hsh

theorem said : Rows.FnExactParseSelectorSaid :=
  OpenClaim.holds_of_cond 4 Tryd.f4 rfl rfl rfl rfl rfl rfl rfl ⟨rfl, rfl, rfl, rfl, rfl⟩ rfl rfl rfl rfl rfl (by kernel_rfl) Tryd.func4 (by kernel_rfl)
    (of_decide_eq_true (by kernel_rfl)) (by unfold Func.isWrapper; first | (rw [if_pos (by decide +kernel)]; kernel_rfl) | (rw [if_neg (by decide +kernel)]; exact ⟨rfl, rfl⟩))
    (fun os started H enc _ F => by rw [OpenClaim.pre_eq_preRow]; exact lifted os started H enc F)

theorem plain (f : FuncId) (fn : Func) (hf : Tryd.pinned.checked.prog.funcNamed "loop.example/g00119/laws.FnExactParseSelector" = some f) (hfn : Tryd.pinned.checked.prog.funcs[f]? = some fn) :
    true = Tryd.pinned.checked.prog.looks [] ∧ ∀ (j : Nat) t, fn.params[j]? = some t → Tryd.pinned.checked.prog.wantsStandIn t = false := by
  obtain rfl : f = 4 := Option.some.inj ((show Tryd.prog.funcNamed "loop.example/g00119/laws.FnExactParseSelector" = some 4 by kernel_rfl).symm.trans hf) |>.symm
  obtain rfl : fn = Tryd.f4 := (Option.some.inj (Tryd.func4.symm.trans hfn)).symm
  refine ⟨by kernel_rfl, fun j t ht => ?_⟩
  rw [Tryd.params4] at ht
  obtain rfl : t = 9 := by simpa using Array.mem_of_getElem? ht
  exact (show Tryd.prog.wantsStandIn 9 = false by kernel_rfl)
end LParseSel
theorem parseSelector_holds : Rows.FnExactParseSelectorCardSaid :=
  Claim7.holds_tied_plain_at .later [] _ _ _ _ LParseSel.said (fun _ h => by cases h) (by kernel_rfl) (fun _ h => by cases h) fnExactParseSelector_row_tie rfl ⟨rfl, rfl⟩ (by kernel_rfl) rfl LParseSel.plain (by kernel_rfl)
#print axioms parseSelector_holds
end Go.Proofs.YtbadjopaocindaaDoor
