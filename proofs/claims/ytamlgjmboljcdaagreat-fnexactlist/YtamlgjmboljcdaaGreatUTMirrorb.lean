/- Data as cells: the helpers of the laws over Mirror. -/
import Derived.Test.YtamlgjmboljcdaaGreatULeaf
import Derived.Test.YtamlgjmboljcdaaGreatULd
import Derived.Test.YtamlgjmboljcdaaGreatUFMirror
import Derived.Test.YtamlgjmboljcdaaGreatUTObjb
namespace Go.Proofs.YtamlgjmboljcdaaGreat
open Go.RowKit Go.BigFrame
set_option linter.unusedVariables false

set_option maxRecDepth 20000 in
set_option maxHeartbeats 1600000 in
theorem ueqMirror_any {lo hi lo' hi' : Nat} (d : UD) (xs ys : List Value) (w : World) (ht : tyL d (uE 11)) (hx : uH w lo hi d xs) (hy : uH w lo' hi' d ys) :
    Calls Tryz.prog 58 #[.agg xs.toArray, .agg ys.toArray] w fun e w' => e = .returned (.bool true) ∧ Below w.heap.size w w' := by
  replace ht : tyL d [.i .i64, .l 17 8] := ht
  obtain ⟨z0, _, rfl, g0, h0⟩ := tyL.i ht
  obtain ⟨n1, c1, _, rfl, g1, h1⟩ := tyL.l h0
  clear h0
  obtain rfl := tyL.nil h1
  clear h1
  obtain ⟨_, rfl, h0⟩ := hx
  obtain ⟨v1, _, rfl, s1, h1⟩ := h0
  obtain rfl := h1
  obtain ⟨_, rfl, h0r⟩ := hy
  obtain ⟨v1r, _, rfl, s1r, h1r⟩ := h0r
  obtain rfl := h1r
  have HC0 : Hid (∀ wx : World, Below w.heap.size w wx → Calls Tryz.prog 117 #[v1, v1r] wx fun e w' => e = .returned (.bool true) ∧ Below wx.heap.size wx w') := fun wx hb => ueqObjS_any (lo := lo) (hi := hi) (lo' := lo') (hi' := hi') n1 c1 _ _ wx g1 (s1.below hb) (s1r.below hb)
  have q0 : (z0 != z0) = false := by simp
  have HB : Hid (∀ o o', Below w.heap.size w ((w.alloc o).alloc o')) := fun o o' => ((Below.refl _ _).alloc (Nat.le_refl _) _).alloc (by simp) _
  obtain ⟨AX, hAX⟩ : ∃ AX : List Value, AX = (Value.int .i64 z0 :: (v1 :: [])) := ⟨_, rfl⟩
  rw [← hAX]
  have hlen : AX.length = 2 := by rw [hAX]; simp
  have e0 : AX[0]? = some (.int .i64 z0) := at_mid (i := 0) (pre := (([] : List Value))) (ys := [.int .i64 z0]) (post := (v1 :: [])) (by rw [hAX]; simp) (by simp) rfl
  have e1 : AX[1]? = some (v1) := at_mid (i := 0) (pre := ([Value.int .i64 z0])) (ys := [v1]) (post := []) (by rw [hAX]; simp) (by simp) rfl
  clear hAX
  have E0 := uhide e0
  clear e0
  have E1 := uhide e1
  clear e1
  obtain ⟨AY, hAY⟩ : ∃ AY : List Value, AY = (Value.int .i64 z0 :: (v1r :: [])) := ⟨_, rfl⟩
  rw [← hAY]
  have hlenr : AY.length = 2 := by rw [hAY]; simp
  have e0r : AY[0]? = some (.int .i64 z0) := at_mid (i := 0) (pre := (([] : List Value))) (ys := [.int .i64 z0]) (post := (v1r :: [])) (by rw [hAY]; simp) (by simp) rfl
  have e1r : AY[1]? = some (v1r) := at_mid (i := 0) (pre := ([Value.int .i64 z0])) (ys := [v1r]) (post := []) (by rw [hAY]; simp) (by simp) rfl
  clear hAY
  have Er0 := uhide e0r
  clear e0r
  have Er1 := uhide e1r
  clear e1r
  have OA0 : Hid (objU ((w.alloc (.cells AX.toArray 48)).alloc (.cells AY.toArray 48)) w.heap.size 48 AX) := (objU.new2 _ _ rfl).old _
  have OB0 : Hid (objU ((w.alloc (.cells AX.toArray 48)).alloc (.cells AY.toArray 48)) (w.heap.size + 1) 48 AY) := objU.new2 _ _ (by simp)
  clear ht g0 g1 s1 s1r
  go_enter Tryz.func58, Tryz.ntmps58
  go_wp2_with (first
    | ((with_reducible refine wpList_load_one ?qqg54 3 ?qqx54 ?qqo54 w.heap.size 0 ?qqh54 (.int .i64 z0) Tryz.rMirror_int (OA0.out.cell 0 _ E0.out) ?_); (case qqg54 => rfl); (case qqo54 => rfl); (case qqh54 => first | (simp; done) | (simp [Act.eval]; done) | (simp only [Act.put]; simp; done) | (simp only [Act.put]; simp [Act.eval]; done)))
    | ((with_reducible refine wpList_load_one ?qqg55 24 ?qqx55 ?qqo55 w.heap.size 1 ?qqh55 (v1) Tryz.rMirror_Limpl_Obj (OA0.out.cell 1 _ E1.out) ?_); (case qqg55 => rfl); (case qqo55 => rfl); (case qqh55 => first | (simp; done) | (simp [Act.eval]; done) | (simp only [Act.put]; simp; done) | (simp only [Act.put]; simp [Act.eval]; done)))
    | ((with_reducible refine wpList_load_one ?qqg56 3 ?qqx56 ?qqo56 (w.heap.size + 1) 0 ?qqh56 (.int .i64 z0) Tryz.rMirror_int (OB0.out.cell 0 _ Er0.out) ?_); (case qqg56 => rfl); (case qqo56 => rfl); (case qqh56 => first | (simp; done) | (simp [Act.eval]; done) | (simp only [Act.put]; simp; done) | (simp only [Act.put]; simp [Act.eval]; done)))
    | ((with_reducible refine wpList_load_one ?qqg57 24 ?qqx57 ?qqo57 (w.heap.size + 1) 1 ?qqh57 (v1r) Tryz.rMirror_Limpl_Obj (OB0.out.cell 1 _ Er1.out) ?_); (case qqg57 => rfl); (case qqo57 => rfl); (case qqh57 => first | (simp; done) | (simp [Act.eval]; done) | (simp only [Act.put]; simp; done) | (simp only [Act.put]; simp [Act.eval]; done)))
    )
  refine (HC0.out _ (HB.out _ _)).mono ?_
  rintro e w1 ⟨rfl, hb1⟩
  have OA1 := uhide (OA0.out.below hb1)
  have OB1 := uhide (OB0.out.below hb1)
  have B1 : Hid (Below w.heap.size w w1) := (HB.out _ _).trans (hb1.mono (by simp; omega))
  clear hb1 OA0 OB0
  go_wp2
  go_ret
  exact ⟨rfl, B1.out⟩
end Go.Proofs.YtamlgjmboljcdaaGreat
