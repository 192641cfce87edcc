/- Data as cells: the helpers of the laws over Base. -/
import Derived.Test.YtdnodaoeflbfkaaULeaf
import Derived.Test.YtdnodaoeflbfkaaULd
import Derived.Test.YtdnodaoeflbfkaaUFBase
import Derived.Test.YtdnodaoeflbfkaaUTObjb
import Derived.Test.YtdnodaoeflbfkaaUTChangeb
namespace Go.Proofs.Ytdnodaoeflbfkaa
open Go.RowKit Go.BigFrame
set_option linter.unusedVariables false
set_option linter.unusedSimpArgs false

set_option maxRecDepth 20000 in
set_option maxHeartbeats 1600000 in
theorem ueqBase_any {lo hi lo' hi' : Nat} (d : UD) (xs ys : List Value) (w : World) (ht : tyL d (uE 10)) (hx : uH w lo hi d xs) (hy : uH w lo' hi' d ys) :
    Calls Try.prog 32 #[.agg xs.toArray, .agg ys.toArray] w fun e w' => e = .returned (.bool true) ∧ Below w.heap.size w w' := by
  replace ht : tyL d [.l 17 8, .i .i64, .i .i64, .l 19 9] := ht
  obtain ⟨n0, c0, _, rfl, g0, h0⟩ := tyL.l ht
  obtain ⟨z1, _, rfl, g1, h1⟩ := tyL.i h0
  clear h0
  obtain ⟨z2, _, rfl, g2, h2⟩ := tyL.i h1
  clear h1
  obtain ⟨n3, c3, _, rfl, g3, h3⟩ := tyL.l h2
  clear h2
  obtain rfl := tyL.nil h3
  clear h3
  obtain ⟨v0, _, rfl, s0, h0⟩ := hx
  obtain ⟨_, rfl, h1⟩ := h0
  obtain ⟨_, rfl, h2⟩ := h1
  obtain ⟨v3, _, rfl, s3, h3⟩ := h2
  obtain rfl := h3
  obtain ⟨v0r, _, rfl, s0r, h0r⟩ := hy
  obtain ⟨_, rfl, h1r⟩ := h0r
  obtain ⟨_, rfl, h2r⟩ := h1r
  obtain ⟨v3r, _, rfl, s3r, h3r⟩ := h2r
  obtain rfl := h3r
  have HC0 : Hid (∀ wx : World, Below w.heap.size w wx → Calls Try.prog 94 #[v0, v0r] wx fun e w' => e = .returned (.bool true) ∧ Below wx.heap.size wx w') := fun wx hb => ueqObjS_any (lo := lo) (hi := hi) (lo' := lo') (hi' := hi') n0 c0 _ _ wx g0 (s0.below hb) (s0r.below hb)
  have HC1 : Hid (∀ wx : World, Below w.heap.size w wx → Calls Try.prog 95 #[v3, v3r] wx fun e w' => e = .returned (.bool true) ∧ Below wx.heap.size wx w') := fun wx hb => ueqChangeS_any (lo := lo) (hi := hi) (lo' := lo') (hi' := hi') n3 c3 _ _ wx g3 (s3.below hb) (s3r.below hb)
  have q1 : (z1 != z1) = false := by simp
  have q2 : (z2 != z2) = false := by simp
  have HB : Hid (∀ o o', Below w.heap.size w ((w.alloc o).alloc o')) := fun o o' => ((Below.refl _ _).alloc (Nat.le_refl _) _).alloc (by simp) _
  obtain ⟨AX, hAX⟩ : ∃ AX : List Value, AX = (v0 :: (Value.int .i64 z1 :: (Value.int .i64 z2 :: (v3 :: [])))) := ⟨_, rfl⟩
  rw [← hAX]
  have hlen : AX.length = 4 := by rw [hAX]; simp
  have e0 : AX[0]? = some (v0) := at_mid (i := 0) (pre := (([] : List Value))) (ys := [v0]) (post := (Value.int .i64 z1 :: (Value.int .i64 z2 :: (v3 :: [])))) (by rw [hAX]; simp) (by simp) rfl
  have e1 : AX[1]? = some (.int .i64 z1) := at_mid (i := 0) (pre := ([v0])) (ys := [.int .i64 z1]) (post := (Value.int .i64 z2 :: (v3 :: []))) (by rw [hAX]; simp) (by simp) rfl
  have e2 : AX[2]? = some (.int .i64 z2) := at_mid (i := 0) (pre := ([v0, Value.int .i64 z1])) (ys := [.int .i64 z2]) (post := (v3 :: [])) (by rw [hAX]; simp) (by simp) rfl
  have e3 : AX[3]? = some (v3) := at_mid (i := 0) (pre := ([v0, Value.int .i64 z1, Value.int .i64 z2])) (ys := [v3]) (post := []) (by rw [hAX]; simp) (by simp) rfl
  clear hAX
  have E0 := uhide e0
  clear e0
  have E1 := uhide e1
  clear e1
  have E2 := uhide e2
  clear e2
  have E3 := uhide e3
  clear e3
  obtain ⟨AY, hAY⟩ : ∃ AY : List Value, AY = (v0r :: (Value.int .i64 z1 :: (Value.int .i64 z2 :: (v3r :: [])))) := ⟨_, rfl⟩
  rw [← hAY]
  have hlenr : AY.length = 4 := by rw [hAY]; simp
  have e0r : AY[0]? = some (v0r) := at_mid (i := 0) (pre := (([] : List Value))) (ys := [v0r]) (post := (Value.int .i64 z1 :: (Value.int .i64 z2 :: (v3r :: [])))) (by rw [hAY]; simp) (by simp) rfl
  have e1r : AY[1]? = some (.int .i64 z1) := at_mid (i := 0) (pre := ([v0r])) (ys := [.int .i64 z1]) (post := (Value.int .i64 z2 :: (v3r :: []))) (by rw [hAY]; simp) (by simp) rfl
  have e2r : AY[2]? = some (.int .i64 z2) := at_mid (i := 0) (pre := ([v0r, Value.int .i64 z1])) (ys := [.int .i64 z2]) (post := (v3r :: [])) (by rw [hAY]; simp) (by simp) rfl
  have e3r : AY[3]? = some (v3r) := at_mid (i := 0) (pre := ([v0r, Value.int .i64 z1, Value.int .i64 z2])) (ys := [v3r]) (post := []) (by rw [hAY]; simp) (by simp) rfl
  clear hAY
  have Er0 := uhide e0r
  clear e0r
  have Er1 := uhide e1r
  clear e1r
  have Er2 := uhide e2r
  clear e2r
  have Er3 := uhide e3r
  clear e3r
  have OA0 : Hid (objU ((w.alloc (.cells AX.toArray 67)).alloc (.cells AY.toArray 67)) w.heap.size 67 AX) := (objU.new2 _ _ rfl).old _
  have OB0 : Hid (objU ((w.alloc (.cells AX.toArray 67)).alloc (.cells AY.toArray 67)) (w.heap.size + 1) 67 AY) := objU.new2 _ _ (by simp)
  clear ht g0 s0 s0r g1 g2 g3 s3 s3r
  go_enter Try.func32, Try.ntmps32
  go_wp2_with (first
    | ((with_reducible refine wpList_load_one ?qqg77 64 ?qqx77 ?qqo77 w.heap.size 0 ?qqh77 (v0) Try.rBase_Limpl_Obj (OA0.out.cell 0 _ E0.out) ?_); (case qqg77 => rfl); (case qqo77 => rfl); (case qqh77 => simp [Act.eval, Act.put]))
    | ((with_reducible refine wpList_load_one ?qqg78 3 ?qqx78 ?qqo78 w.heap.size 1 ?qqh78 (.int .i64 z1) Try.rBase_int (OA0.out.cell 1 _ E1.out) ?_); (case qqg78 => rfl); (case qqo78 => rfl); (case qqh78 => simp [Act.eval, Act.put]))
    | ((with_reducible refine wpList_load_one ?qqg79 3 ?qqx79 ?qqo79 w.heap.size 2 ?qqh79 (.int .i64 z2) Try.rBase_int (OA0.out.cell 2 _ E2.out) ?_); (case qqg79 => rfl); (case qqo79 => rfl); (case qqh79 => simp [Act.eval, Act.put]))
    | ((with_reducible refine wpList_load_one ?qqg80 65 ?qqx80 ?qqo80 w.heap.size 3 ?qqh80 (v3) Try.rBase_Limpl_Change (OA0.out.cell 3 _ E3.out) ?_); (case qqg80 => rfl); (case qqo80 => rfl); (case qqh80 => simp [Act.eval, Act.put]))
    | ((with_reducible refine wpList_load_one ?qqg81 64 ?qqx81 ?qqo81 (w.heap.size + 1) 0 ?qqh81 (v0r) Try.rBase_Limpl_Obj (OB0.out.cell 0 _ Er0.out) ?_); (case qqg81 => rfl); (case qqo81 => rfl); (case qqh81 => simp [Act.eval, Act.put]))
    | ((with_reducible refine wpList_load_one ?qqg82 3 ?qqx82 ?qqo82 (w.heap.size + 1) 1 ?qqh82 (.int .i64 z1) Try.rBase_int (OB0.out.cell 1 _ Er1.out) ?_); (case qqg82 => rfl); (case qqo82 => rfl); (case qqh82 => simp [Act.eval, Act.put]))
    | ((with_reducible refine wpList_load_one ?qqg83 3 ?qqx83 ?qqo83 (w.heap.size + 1) 2 ?qqh83 (.int .i64 z2) Try.rBase_int (OB0.out.cell 2 _ Er2.out) ?_); (case qqg83 => rfl); (case qqo83 => rfl); (case qqh83 => simp [Act.eval, Act.put]))
    | ((with_reducible refine wpList_load_one ?qqg84 65 ?qqx84 ?qqo84 (w.heap.size + 1) 3 ?qqh84 (v3r) Try.rBase_Limpl_Change (OB0.out.cell 3 _ Er3.out) ?_); (case qqg84 => rfl); (case qqo84 => rfl); (case qqh84 => simp [Act.eval, Act.put]))
    )
  refine (HC0.out _ (HB.out _ _)).mono ?_
  rintro e w1 ⟨rfl, hb1⟩
  have OA1 := uhide (OA0.out.below hb1)
  have OB1 := uhide (OB0.out.below hb1)
  have B1 : Hid (Below w.heap.size w w1) := (HB.out _ _).trans (hb1.mono (by simp; omega))
  clear hb1 OA0 OB0
  go_wp2_with (first
    | ((with_reducible refine wpList_load_one ?qqg93 64 ?qqx93 ?qqo93 w.heap.size 0 ?qqh93 (v0) Try.rBase_Limpl_Obj (OA1.out.cell 0 _ E0.out) ?_); (case qqg93 => rfl); (case qqo93 => rfl); (case qqh93 => simp [Act.eval, Act.put]))
    | ((with_reducible refine wpList_load_one ?qqg94 3 ?qqx94 ?qqo94 w.heap.size 1 ?qqh94 (.int .i64 z1) Try.rBase_int (OA1.out.cell 1 _ E1.out) ?_); (case qqg94 => rfl); (case qqo94 => rfl); (case qqh94 => simp [Act.eval, Act.put]))
    | ((with_reducible refine wpList_load_one ?qqg95 3 ?qqx95 ?qqo95 w.heap.size 2 ?qqh95 (.int .i64 z2) Try.rBase_int (OA1.out.cell 2 _ E2.out) ?_); (case qqg95 => rfl); (case qqo95 => rfl); (case qqh95 => simp [Act.eval, Act.put]))
    | ((with_reducible refine wpList_load_one ?qqg96 65 ?qqx96 ?qqo96 w.heap.size 3 ?qqh96 (v3) Try.rBase_Limpl_Change (OA1.out.cell 3 _ E3.out) ?_); (case qqg96 => rfl); (case qqo96 => rfl); (case qqh96 => simp [Act.eval, Act.put]))
    | ((with_reducible refine wpList_load_one ?qqg97 64 ?qqx97 ?qqo97 (w.heap.size + 1) 0 ?qqh97 (v0r) Try.rBase_Limpl_Obj (OB1.out.cell 0 _ Er0.out) ?_); (case qqg97 => rfl); (case qqo97 => rfl); (case qqh97 => simp [Act.eval, Act.put]))
    | ((with_reducible refine wpList_load_one ?qqg98 3 ?qqx98 ?qqo98 (w.heap.size + 1) 1 ?qqh98 (.int .i64 z1) Try.rBase_int (OB1.out.cell 1 _ Er1.out) ?_); (case qqg98 => rfl); (case qqo98 => rfl); (case qqh98 => simp [Act.eval, Act.put]))
    | ((with_reducible refine wpList_load_one ?qqg99 3 ?qqx99 ?qqo99 (w.heap.size + 1) 2 ?qqh99 (.int .i64 z2) Try.rBase_int (OB1.out.cell 2 _ Er2.out) ?_); (case qqg99 => rfl); (case qqo99 => rfl); (case qqh99 => simp [Act.eval, Act.put]))
    | ((with_reducible refine wpList_load_one ?qqg100 65 ?qqx100 ?qqo100 (w.heap.size + 1) 3 ?qqh100 (v3r) Try.rBase_Limpl_Change (OB1.out.cell 3 _ Er3.out) ?_); (case qqg100 => rfl); (case qqo100 => rfl); (case qqh100 => simp [Act.eval, Act.put]))
    )
  refine (HC1.out _ B1.out).mono ?_
  rintro e w2 ⟨rfl, hb2⟩
  have OA2 := uhide (OA1.out.below hb2)
  have OB2 := uhide (OB1.out.below hb2)
  have B2 : Hid (Below w.heap.size w w2) := B1.out.trans (hb2.mono B1.out.size)
  clear hb2 OA1 OB1
  go_wp2
  go_ret
  exact ⟨rfl, B2.out⟩
end Go.Proofs.Ytdnodaoeflbfkaa
