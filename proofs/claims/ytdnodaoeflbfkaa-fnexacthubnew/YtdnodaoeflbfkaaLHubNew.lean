/- FnExactHubNew holds: impl.HubNew answers as spec.HubNew, field by field; its answer owns its memory, behind another call too. No conditions. -/
import Derived.Test.YtdnodaoeflbfkaaRows
import Derived.Test.YtdnodaoeflbfkaaU5
import Derived.Test.YtdnodaoeflbfkaaHNew
import Derived.Test.YtdnodaoeflbfkaaU3
import Derived.WalkKit
import Derived.ProofKit
import Derived.OpenShut
import Derived.ShutString
import Derived.ChangeOld
import Derived.Below
namespace Go.Proofs.Ytdnodaoeflbfkaa
open Go.ChangeShapes Go.WideShapes Go.ChangeAt Go.RowKit Go.BigFrame
open Go.ChangeMaps (open_string shut_string)
set_option linter.unusedVariables false
theorem szB : (Try.prog.info? 27).map (·.size) = some 7 := by kernel_rfl
theorem rwB : (Try.prog.underlying 27).map TypeDesc.isRow = some true := by kernel_rfl
namespace LHubNew
theorem laidOut : laidOutB Try.prog = true := by kernel_rfl
theorem own : ownKnob Try.prog.godebug = none := by kernel_rfl
set_option maxRecDepth 20000 in
set_option maxHeartbeats 1600000 in
theorem walk (w : World) : Calls Try.prog 3 #[] w fun e w' => e = .returned (.bool true) ∧ Below w.heap.size w w' := by
  have HI : Hid ((Try.prog.info? 27).map (·.size) = some ([.int .i64 0, .int .i64 1, .int .i64 0, .slice none 0 0, .slice none 0 0, .slice none 0 0, .slice none 0 0] : List Value).length) := szB
  have HR : Hid ((Try.prog.underlying 27).map TypeDesc.isRow = some true) := rwB
  have BX : Hid (Below w.heap.size w w) := Below.refl _ _
  have Q1 := uhide HN.sNew
  have Q2 := uhide HN.iNew
  have Q3 := uhide HN.eqB
  have Q4 := uhide HN.mkB
  have Q5 := uhide HN.hdB
  go_enter Try.func3, Try.ntmps3
  go_wp2_with fail
  refine (Q1.out _).mono ?_
  rintro e w1 ⟨rfl, hb⟩
  replace BX : Hid (Below w.heap.size w w1) := BX.out.trans (hb.mono BX.out.size)
  clear hb
  have OA : Hid (objU (w1.alloc (.cells ([.int .i64 0, .int .i64 1, .int .i64 0, .slice none 0 0, .slice none 0 0, .slice none 0 0, .slice none 0 0] : List Value).toArray 27)) w1.heap.size 27 [.int .i64 0, .int .i64 1, .int .i64 0, .slice none 0 0, .slice none 0 0, .slice none 0 0, .slice none 0 0]) := objU.new2 _ _ rfl
  replace BX : Hid (Below w.heap.size w (w1.alloc (.cells ([.int .i64 0, .int .i64 1, .int .i64 0, .slice none 0 0, .slice none 0 0, .slice none 0 0, .slice none 0 0] : List Value).toArray 27))) := BX.out.alloc BX.out.size _
  go_wp2_with fail
  refine (Q2.out _).mono ?_
  rintro e w2 ⟨rfl, hb⟩
  replace OA := uhide (OA.out.below hb)
  replace BX : Hid (Below w.heap.size w w2) := BX.out.trans (hb.mono BX.out.size)
  clear hb
  have OB : Hid (objU (w2.alloc (.cells ([.int .i64 0, .int .i64 1, .int .i64 0, .slice none 0 0, .slice none 0 0, .slice none 0 0, .slice none 0 0] : List Value).toArray 27)) w2.heap.size 27 [.int .i64 0, .int .i64 1, .int .i64 0, .slice none 0 0, .slice none 0 0, .slice none 0 0, .slice none 0 0]) := objU.new2 _ _ rfl
  replace OA : Hid (objU (w2.alloc (.cells ([.int .i64 0, .int .i64 1, .int .i64 0, .slice none 0 0, .slice none 0 0, .slice none 0 0, .slice none 0 0] : List Value).toArray 27)) w1.heap.size 27 [.int .i64 0, .int .i64 1, .int .i64 0, .slice none 0 0, .slice none 0 0, .slice none 0 0, .slice none 0 0]) := OA.out.old _
  replace BX : Hid (Below w.heap.size w (w2.alloc (.cells ([.int .i64 0, .int .i64 1, .int .i64 0, .slice none 0 0, .slice none 0 0, .slice none 0 0, .slice none 0 0] : List Value).toArray 27))) := BX.out.alloc BX.out.size _
  go_wp2_with (first
    | ((with_reducible refine wpList_load_row2 ?qqg1 27 ?qqx1 ?qqo1 w1.heap.size 0 ?qqh1 [.int .i64 0, .int .i64 1, .int .i64 0, .slice none 0 0, .slice none 0 0, .slice none 0 0, .slice none 0 0] HR.out HI.out OA.out.whole ?_); (case qqg1 => rfl); (case qqo1 => rfl); (case qqh1 => first | (simp; done) | (simp [Act.eval]; done) | (simp only [Act.put]; simp; done) | (simp only [Act.put]; simp [Act.eval]; done)))
    | ((with_reducible refine wpList_load_row2 ?qqg2 27 ?qqx2 ?qqo2 w2.heap.size 0 ?qqh2 [.int .i64 0, .int .i64 1, .int .i64 0, .slice none 0 0, .slice none 0 0, .slice none 0 0, .slice none 0 0] HR.out HI.out OB.out.whole ?_); (case qqg2 => rfl); (case qqo2 => rfl); (case qqh2 => first | (simp; done) | (simp [Act.eval]; done) | (simp only [Act.put]; simp; done) | (simp only [Act.put]; simp [Act.eval]; done)))
    )
  refine (Q3.out _).mono ?_
  rintro e w3 ⟨rfl, hb⟩
  replace OA := uhide (OA.out.below hb)
  replace OB := uhide (OB.out.below hb)
  replace BX : Hid (Below w.heap.size w w3) := BX.out.trans (hb.mono BX.out.size)
  clear hb
  go_wp2_with (first
    | ((with_reducible refine wpList_load_row2 ?qqg3 27 ?qqx3 ?qqo3 w1.heap.size 0 ?qqh3 [.int .i64 0, .int .i64 1, .int .i64 0, .slice none 0 0, .slice none 0 0, .slice none 0 0, .slice none 0 0] HR.out HI.out OA.out.whole ?_); (case qqg3 => rfl); (case qqo3 => rfl); (case qqh3 => first | (simp; done) | (simp [Act.eval]; done) | (simp only [Act.put]; simp; done) | (simp only [Act.put]; simp [Act.eval]; done)))
    | ((with_reducible refine wpList_load_row2 ?qqg4 27 ?qqx4 ?qqo4 w2.heap.size 0 ?qqh4 [.int .i64 0, .int .i64 1, .int .i64 0, .slice none 0 0, .slice none 0 0, .slice none 0 0, .slice none 0 0] HR.out HI.out OB.out.whole ?_); (case qqg4 => rfl); (case qqo4 => rfl); (case qqh4 => first | (simp; done) | (simp [Act.eval]; done) | (simp only [Act.put]; simp; done) | (simp only [Act.put]; simp [Act.eval]; done)))
    )
  refine (Q4.out _ _).mono ?_
  rintro e w4 ⟨rfl, hb⟩
  replace OA := uhide (OA.out.below hb)
  replace OB := uhide (OB.out.below hb)
  replace BX : Hid (Below w.heap.size w w4) := BX.out.trans (hb.mono BX.out.size)
  clear hb
  go_wp2_with (first
    | ((with_reducible refine wpList_load_row2 ?qqg5 27 ?qqx5 ?qqo5 w1.heap.size 0 ?qqh5 [.int .i64 0, .int .i64 1, .int .i64 0, .slice none 0 0, .slice none 0 0, .slice none 0 0, .slice none 0 0] HR.out HI.out OA.out.whole ?_); (case qqg5 => rfl); (case qqo5 => rfl); (case qqh5 => first | (simp; done) | (simp [Act.eval]; done) | (simp only [Act.put]; simp; done) | (simp only [Act.put]; simp [Act.eval]; done)))
    | ((with_reducible refine wpList_load_row2 ?qqg6 27 ?qqx6 ?qqo6 w2.heap.size 0 ?qqh6 [.int .i64 0, .int .i64 1, .int .i64 0, .slice none 0 0, .slice none 0 0, .slice none 0 0, .slice none 0 0] HR.out HI.out OB.out.whole ?_); (case qqg6 => rfl); (case qqo6 => rfl); (case qqh6 => first | (simp; done) | (simp [Act.eval]; done) | (simp only [Act.put]; simp; done) | (simp only [Act.put]; simp [Act.eval]; done)))
    )
  refine (Q5.out _).mono ?_
  rintro e w5 ⟨rfl, hb⟩
  replace OA := uhide (OA.out.below hb)
  replace OB := uhide (OB.out.below hb)
  replace BX : Hid (Below w.heap.size w w5) := BX.out.trans (hb.mono BX.out.size)
  clear hb
  go_wp2_with fail
  refine (Q2.out _).mono ?_
  rintro e w6 ⟨rfl, hb⟩
  replace OA := uhide (OA.out.below hb)
  replace OB := uhide (OB.out.below hb)
  replace BX : Hid (Below w.heap.size w w6) := BX.out.trans (hb.mono BX.out.size)
  clear hb
  have OC : Hid (objU (w6.alloc (.cells ([.int .i64 0, .int .i64 1, .int .i64 0, .slice none 0 0, .slice none 0 0, .slice none 0 0, .slice none 0 0] : List Value).toArray 27)) w6.heap.size 27 [.int .i64 0, .int .i64 1, .int .i64 0, .slice none 0 0, .slice none 0 0, .slice none 0 0, .slice none 0 0]) := objU.new2 _ _ rfl
  replace OA : Hid (objU (w6.alloc (.cells ([.int .i64 0, .int .i64 1, .int .i64 0, .slice none 0 0, .slice none 0 0, .slice none 0 0, .slice none 0 0] : List Value).toArray 27)) w1.heap.size 27 [.int .i64 0, .int .i64 1, .int .i64 0, .slice none 0 0, .slice none 0 0, .slice none 0 0, .slice none 0 0]) := OA.out.old _
  replace OB : Hid (objU (w6.alloc (.cells ([.int .i64 0, .int .i64 1, .int .i64 0, .slice none 0 0, .slice none 0 0, .slice none 0 0, .slice none 0 0] : List Value).toArray 27)) w2.heap.size 27 [.int .i64 0, .int .i64 1, .int .i64 0, .slice none 0 0, .slice none 0 0, .slice none 0 0, .slice none 0 0]) := OB.out.old _
  replace BX : Hid (Below w.heap.size w (w6.alloc (.cells ([.int .i64 0, .int .i64 1, .int .i64 0, .slice none 0 0, .slice none 0 0, .slice none 0 0, .slice none 0 0] : List Value).toArray 27))) := BX.out.alloc BX.out.size _
  go_wp2_with (first
    | ((with_reducible refine wpList_load_row2 ?qqg7 27 ?qqx7 ?qqo7 w1.heap.size 0 ?qqh7 [.int .i64 0, .int .i64 1, .int .i64 0, .slice none 0 0, .slice none 0 0, .slice none 0 0, .slice none 0 0] HR.out HI.out OA.out.whole ?_); (case qqg7 => rfl); (case qqo7 => rfl); (case qqh7 => first | (simp; done) | (simp [Act.eval]; done) | (simp only [Act.put]; simp; done) | (simp only [Act.put]; simp [Act.eval]; done)))
    | ((with_reducible refine wpList_load_row2 ?qqg8 27 ?qqx8 ?qqo8 w2.heap.size 0 ?qqh8 [.int .i64 0, .int .i64 1, .int .i64 0, .slice none 0 0, .slice none 0 0, .slice none 0 0, .slice none 0 0] HR.out HI.out OB.out.whole ?_); (case qqg8 => rfl); (case qqo8 => rfl); (case qqh8 => first | (simp; done) | (simp [Act.eval]; done) | (simp only [Act.put]; simp; done) | (simp only [Act.put]; simp [Act.eval]; done)))
    | ((with_reducible refine wpList_load_row2 ?qqg9 27 ?qqx9 ?qqo9 w6.heap.size 0 ?qqh9 [.int .i64 0, .int .i64 1, .int .i64 0, .slice none 0 0, .slice none 0 0, .slice none 0 0, .slice none 0 0] HR.out HI.out OC.out.whole ?_); (case qqg9 => rfl); (case qqo9 => rfl); (case qqh9 => first | (simp; done) | (simp [Act.eval]; done) | (simp only [Act.put]; simp; done) | (simp only [Act.put]; simp [Act.eval]; done)))
    )
  refine (Q3.out _).mono ?_
  rintro e w7 ⟨rfl, hb⟩
  replace OA := uhide (OA.out.below hb)
  replace OB := uhide (OB.out.below hb)
  replace OC := uhide (OC.out.below hb)
  replace BX : Hid (Below w.heap.size w w7) := BX.out.trans (hb.mono BX.out.size)
  clear hb
  go_wp2_with (first
    | ((with_reducible refine wpList_load_row2 ?qqg10 27 ?qqx10 ?qqo10 w1.heap.size 0 ?qqh10 [.int .i64 0, .int .i64 1, .int .i64 0, .slice none 0 0, .slice none 0 0, .slice none 0 0, .slice none 0 0] HR.out HI.out OA.out.whole ?_); (case qqg10 => rfl); (case qqo10 => rfl); (case qqh10 => first | (simp; done) | (simp [Act.eval]; done) | (simp only [Act.put]; simp; done) | (simp only [Act.put]; simp [Act.eval]; done)))
    | ((with_reducible refine wpList_load_row2 ?qqg11 27 ?qqx11 ?qqo11 w2.heap.size 0 ?qqh11 [.int .i64 0, .int .i64 1, .int .i64 0, .slice none 0 0, .slice none 0 0, .slice none 0 0, .slice none 0 0] HR.out HI.out OB.out.whole ?_); (case qqg11 => rfl); (case qqo11 => rfl); (case qqh11 => first | (simp; done) | (simp [Act.eval]; done) | (simp only [Act.put]; simp; done) | (simp only [Act.put]; simp [Act.eval]; done)))
    | ((with_reducible refine wpList_load_row2 ?qqg12 27 ?qqx12 ?qqo12 w6.heap.size 0 ?qqh12 [.int .i64 0, .int .i64 1, .int .i64 0, .slice none 0 0, .slice none 0 0, .slice none 0 0, .slice none 0 0] HR.out HI.out OC.out.whole ?_); (case qqg12 => rfl); (case qqo12 => rfl); (case qqh12 => first | (simp; done) | (simp [Act.eval]; done) | (simp only [Act.put]; simp; done) | (simp only [Act.put]; simp [Act.eval]; done)))
    )
  refine (Q5.out _).mono ?_
  rintro e w8 ⟨rfl, hb⟩
  replace OA := uhide (OA.out.below hb)
  replace OB := uhide (OB.out.below hb)
  replace OC := uhide (OC.out.below hb)
  replace BX : Hid (Below w.heap.size w w8) := BX.out.trans (hb.mono BX.out.size)
  clear hb
  go_wp2
  go_ret
  exact ⟨rfl, BX.out⟩
set_option maxRecDepth 100000 in
theorem lifted (os : Os) (started : os.Started) (H : Type) (enc : TypeId × Value → H) :
    ReturnsInHanded {} Try.checked os 3 .any (Rows.fnExactHubNewSpec.pre6 enc Try.prog Try.f3 Rows.fnExactHubNewRow.domain false) (Rows.fnExactHubNewSpec.post enc Try.prog Try.f3 false true false false) := by
  refine returnsInHanded_of_change (C := Try.checked) own started (by kernel_rfl) Try.func3
    (ChangeSpec.witness6 (enc := enc) (C := Try.checked) false ⟨#[], #[], []⟩ 12 (by kernel_rfl) (by kernel_rfl) (by kernel_rfl) (by kernel_rfl)) ?_
  intro W base args ds gs before hval0 hW hcnd _
  have hval : ∀ (j : Nat) t v, Try.f3.params[j]? = some t → args[j]? = some v → Value.okWide Try.prog W .any base t v := hval0
  have hW' := hW
  obtain ⟨p, q, hA0, hV, rfl, hfz, hnd⟩ := hW
  have hA : DataW.TrodAll enc Try.prog W 0 (fun _ => true) true Try.f3.params.toList args.toList ds p := hA0
  rw [Try.params3] at hA hval
  obtain ⟨ha0, rfl, rfl⟩ := trodAll_nil hA
  obtain rfl : args = #[] := by cases args; simp_all
  obtain ⟨rfl, rfl⟩ := trodVars_none hV
  clear hA0 hval0
  refine (walk  W ).mono fun e W' ⟨he, bel⟩ => ?_
  subst he
  exact ⟨_, rfl, _, _, _, [], _, [], hW', trodAll_mk1 (shut_bool Try.underlying4 _), trodAll_mk0, rfl, bel.frame _, fun h => by cases h⟩
end LHubNew
theorem hubNew_holds : Rows.FnExactHubNewSaid :=
  OpenClaim.holds_of_wide 3 Try.f3 rfl rfl rfl rfl rfl rfl rfl ⟨rfl, rfl, rfl, rfl, rfl⟩ rfl rfl rfl rfl rfl (by kernel_rfl) Try.func3 (by kernel_rfl)
    (of_decide_eq_true (by kernel_rfl)) (by unfold Func.isWrapper; first | (rw [if_pos (by decide +kernel)]; kernel_rfl) | (rw [if_neg (by decide +kernel)]; exact ⟨rfl, rfl⟩))
    (fun os started H enc _ => LHubNew.lifted os started H enc)
#print axioms hubNew_holds
end Go.Proofs.Ytdnodaoeflbfkaa
