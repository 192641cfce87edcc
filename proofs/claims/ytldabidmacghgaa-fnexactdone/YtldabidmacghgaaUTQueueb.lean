/- Data as cells: the helpers of the laws over Queue. -/
import Derived.Test.YtldabidmacghgaaULeaf
import Derived.Test.YtldabidmacghgaaULd
import Derived.Test.YtldabidmacghgaaUFQueue
import Derived.Test.YtldabidmacghgaaUTItem
namespace Go.Proofs.Ytldabidmacghgaa
open Go.RowKit Go.BigFrame
set_option linter.unusedVariables false
set_option linter.unusedSimpArgs false

set_option maxRecDepth 20000 in
set_option maxHeartbeats 1600000 in
theorem ueqQueue_any {lo hi lo' hi' : Nat} (d : UD) (xs ys : List Value) (w : World) (ht : tyL d (uE 13)) (hx : uH w lo hi d xs) (hy : uH w lo' hi' d ys) :
    Calls Try.prog 25 #[.agg xs.toArray, .agg ys.toArray] w fun e w' => e = .returned (.bool true) ∧ Below w.heap.size w w' := by
  replace ht : tyL d [.l 3 12, .l 3 12, .l 1 0, .i .i64] := ht
  obtain ⟨n0, c0, _, rfl, g0, h0⟩ := tyL.l ht
  obtain ⟨n1, c1, _, rfl, g1, h1⟩ := tyL.l h0
  clear h0
  obtain ⟨n2, c2, _, rfl, g2, h2⟩ := tyL.l h1
  clear h1
  obtain ⟨z3, _, rfl, g3, h3⟩ := tyL.i h2
  clear h2
  obtain rfl := tyL.nil h3
  clear h3
  obtain ⟨v0, _, rfl, s0, h0⟩ := hx
  obtain ⟨v1, _, rfl, s1, h1⟩ := h0
  obtain ⟨v2, _, rfl, s2, h2⟩ := h1
  obtain ⟨_, rfl, h3⟩ := h2
  obtain rfl := h3
  obtain ⟨v0r, _, rfl, s0r, h0r⟩ := hy
  obtain ⟨v1r, _, rfl, s1r, h1r⟩ := h0r
  obtain ⟨v2r, _, rfl, s2r, h2r⟩ := h1r
  obtain ⟨_, rfl, h3r⟩ := h2r
  obtain rfl := h3r
  have HC0 : Hid (∀ wx : World, Below w.heap.size w wx → Calls Try.prog 54 #[v0, v0r] wx fun e w' => e = .returned (.bool true) ∧ Below wx.heap.size wx w') := fun wx hb => ueqItemS_any (lo := lo) (hi := hi) (lo' := lo') (hi' := hi') n0 c0 _ _ wx g0 (s0.below hb) (s0r.below hb)
  have HC1 : Hid (∀ wx : World, Below w.heap.size w wx → Calls Try.prog 54 #[v1, v1r] wx fun e w' => e = .returned (.bool true) ∧ Below wx.heap.size wx w') := fun wx hb => ueqItemS_any (lo := lo) (hi := hi) (lo' := lo') (hi' := hi') n1 c1 _ _ wx g1 (s1.below hb) (s1r.below hb)
  have HC2 : Hid (∀ wx : World, Below w.heap.size w wx → Calls Try.prog 55 #[v2, v2r] wx fun e w' => e = .returned (.bool true) ∧ Below wx.heap.size wx w') := fun wx hb => ueqStringS_any (lo := lo) (hi := hi) (lo' := lo') (hi' := hi') n2 c2 _ _ wx g2 (s2.below hb) (s2r.below hb)
  have q3 : (z3 != z3) = false := by simp
  have HB : Hid (∀ o o', Below w.heap.size w ((w.alloc o).alloc o')) := fun o o' => ((Below.refl _ _).alloc (Nat.le_refl _) _).alloc (by simp) _
  obtain ⟨AX, hAX⟩ : ∃ AX : List Value, AX = (v0 :: (v1 :: (v2 :: (Value.int .i64 z3 :: [])))) := ⟨_, rfl⟩
  rw [← hAX]
  have hlen : AX.length = 4 := by rw [hAX]; simp
  have e0 : AX[0]? = some (v0) := at_mid (i := 0) (pre := (([] : List Value))) (ys := [v0]) (post := (v1 :: (v2 :: (Value.int .i64 z3 :: [])))) (by rw [hAX]; simp) (by simp) rfl
  have e1 : AX[1]? = some (v1) := at_mid (i := 0) (pre := ([v0])) (ys := [v1]) (post := (v2 :: (Value.int .i64 z3 :: []))) (by rw [hAX]; simp) (by simp) rfl
  have e2 : AX[2]? = some (v2) := at_mid (i := 0) (pre := ([v0, v1])) (ys := [v2]) (post := (Value.int .i64 z3 :: [])) (by rw [hAX]; simp) (by simp) rfl
  have e3 : AX[3]? = some (.int .i64 z3) := at_mid (i := 0) (pre := ([v0, v1, v2])) (ys := [.int .i64 z3]) (post := []) (by rw [hAX]; simp) (by simp) rfl
  clear hAX
  have E0 := uhide e0
  clear e0
  have E1 := uhide e1
  clear e1
  have E2 := uhide e2
  clear e2
  have E3 := uhide e3
  clear e3
  obtain ⟨AY, hAY⟩ : ∃ AY : List Value, AY = (v0r :: (v1r :: (v2r :: (Value.int .i64 z3 :: [])))) := ⟨_, rfl⟩
  rw [← hAY]
  have hlenr : AY.length = 4 := by rw [hAY]; simp
  have e0r : AY[0]? = some (v0r) := at_mid (i := 0) (pre := (([] : List Value))) (ys := [v0r]) (post := (v1r :: (v2r :: (Value.int .i64 z3 :: [])))) (by rw [hAY]; simp) (by simp) rfl
  have e1r : AY[1]? = some (v1r) := at_mid (i := 0) (pre := ([v0r])) (ys := [v1r]) (post := (v2r :: (Value.int .i64 z3 :: []))) (by rw [hAY]; simp) (by simp) rfl
  have e2r : AY[2]? = some (v2r) := at_mid (i := 0) (pre := ([v0r, v1r])) (ys := [v2r]) (post := (Value.int .i64 z3 :: [])) (by rw [hAY]; simp) (by simp) rfl
  have e3r : AY[3]? = some (.int .i64 z3) := at_mid (i := 0) (pre := ([v0r, v1r, v2r])) (ys := [.int .i64 z3]) (post := []) (by rw [hAY]; simp) (by simp) rfl
  clear hAY
  have Er0 := uhide e0r
  clear e0r
  have Er1 := uhide e1r
  clear e1r
  have Er2 := uhide e2r
  clear e2r
  have Er3 := uhide e3r
  clear e3r
  have OA0 : Hid (objU ((w.alloc (.cells AX.toArray 27)).alloc (.cells AY.toArray 27)) w.heap.size 27 AX) := (objU.new2 _ _ rfl).old _
  have OB0 : Hid (objU ((w.alloc (.cells AX.toArray 27)).alloc (.cells AY.toArray 27)) (w.heap.size + 1) 27 AY) := objU.new2 _ _ (by simp)
  clear ht g0 s0 s0r g1 s1 s1r g2 s2 s2r g3
  go_enter Try.func25, Try.ntmps25
  go_wp2_with (first
    | ((with_reducible refine wpList_load_one ?qqg76 24 ?qqx76 ?qqo76 w.heap.size 0 ?qqh76 (v0) Try.rQueue_Limpl_Item (OA0.out.cell 0 _ E0.out) ?_); (case qqg76 => rfl); (case qqo76 => rfl); (case qqh76 => first | (simp; done) | (simp [Act.eval]; done) | (simp only [Act.put]; simp; done) | (simp only [Act.put]; simp [Act.eval]; done)))
    | ((with_reducible refine wpList_load_one ?qqg77 24 ?qqx77 ?qqo77 w.heap.size 1 ?qqh77 (v1) Try.rQueue_Limpl_Item (OA0.out.cell 1 _ E1.out) ?_); (case qqg77 => rfl); (case qqo77 => rfl); (case qqh77 => first | (simp; done) | (simp [Act.eval]; done) | (simp only [Act.put]; simp; done) | (simp only [Act.put]; simp [Act.eval]; done)))
    | ((with_reducible refine wpList_load_one ?qqg78 25 ?qqx78 ?qqo78 w.heap.size 2 ?qqh78 (v2) Try.rQueue_Lstring (OA0.out.cell 2 _ E2.out) ?_); (case qqg78 => rfl); (case qqo78 => rfl); (case qqh78 => first | (simp; done) | (simp [Act.eval]; done) | (simp only [Act.put]; simp; done) | (simp only [Act.put]; simp [Act.eval]; done)))
    | ((with_reducible refine wpList_load_one ?qqg79 3 ?qqx79 ?qqo79 w.heap.size 3 ?qqh79 (.int .i64 z3) Try.rQueue_int (OA0.out.cell 3 _ E3.out) ?_); (case qqg79 => rfl); (case qqo79 => rfl); (case qqh79 => first | (simp; done) | (simp [Act.eval]; done) | (simp only [Act.put]; simp; done) | (simp only [Act.put]; simp [Act.eval]; done)))
    | ((with_reducible refine wpList_load_one ?qqg80 24 ?qqx80 ?qqo80 (w.heap.size + 1) 0 ?qqh80 (v0r) Try.rQueue_Limpl_Item (OB0.out.cell 0 _ Er0.out) ?_); (case qqg80 => rfl); (case qqo80 => rfl); (case qqh80 => first | (simp; done) | (simp [Act.eval]; done) | (simp only [Act.put]; simp; done) | (simp only [Act.put]; simp [Act.eval]; done)))
    | ((with_reducible refine wpList_load_one ?qqg81 24 ?qqx81 ?qqo81 (w.heap.size + 1) 1 ?qqh81 (v1r) Try.rQueue_Limpl_Item (OB0.out.cell 1 _ Er1.out) ?_); (case qqg81 => rfl); (case qqo81 => rfl); (case qqh81 => first | (simp; done) | (simp [Act.eval]; done) | (simp only [Act.put]; simp; done) | (simp only [Act.put]; simp [Act.eval]; done)))
    | ((with_reducible refine wpList_load_one ?qqg82 25 ?qqx82 ?qqo82 (w.heap.size + 1) 2 ?qqh82 (v2r) Try.rQueue_Lstring (OB0.out.cell 2 _ Er2.out) ?_); (case qqg82 => rfl); (case qqo82 => rfl); (case qqh82 => first | (simp; done) | (simp [Act.eval]; done) | (simp only [Act.put]; simp; done) | (simp only [Act.put]; simp [Act.eval]; done)))
    | ((with_reducible refine wpList_load_one ?qqg83 3 ?qqx83 ?qqo83 (w.heap.size + 1) 3 ?qqh83 (.int .i64 z3) Try.rQueue_int (OB0.out.cell 3 _ Er3.out) ?_); (case qqg83 => rfl); (case qqo83 => rfl); (case qqh83 => first | (simp; done) | (simp [Act.eval]; done) | (simp only [Act.put]; simp; done) | (simp only [Act.put]; simp [Act.eval]; done)))
    )
  refine (HC0.out _ (HB.out _ _)).mono ?_
  rintro e w1 ⟨rfl, hb1⟩
  have OA1 := uhide (OA0.out.below hb1)
  have OB1 := uhide (OB0.out.below hb1)
  have B1 : Hid (Below w.heap.size w w1) := (HB.out _ _).trans (hb1.mono (by simp; omega))
  clear hb1 OA0 OB0
  go_wp2_with (first
    | ((with_reducible refine wpList_load_one ?qqg92 24 ?qqx92 ?qqo92 w.heap.size 0 ?qqh92 (v0) Try.rQueue_Limpl_Item (OA1.out.cell 0 _ E0.out) ?_); (case qqg92 => rfl); (case qqo92 => rfl); (case qqh92 => first | (simp; done) | (simp [Act.eval]; done) | (simp only [Act.put]; simp; done) | (simp only [Act.put]; simp [Act.eval]; done)))
    | ((with_reducible refine wpList_load_one ?qqg93 24 ?qqx93 ?qqo93 w.heap.size 1 ?qqh93 (v1) Try.rQueue_Limpl_Item (OA1.out.cell 1 _ E1.out) ?_); (case qqg93 => rfl); (case qqo93 => rfl); (case qqh93 => first | (simp; done) | (simp [Act.eval]; done) | (simp only [Act.put]; simp; done) | (simp only [Act.put]; simp [Act.eval]; done)))
    | ((with_reducible refine wpList_load_one ?qqg94 25 ?qqx94 ?qqo94 w.heap.size 2 ?qqh94 (v2) Try.rQueue_Lstring (OA1.out.cell 2 _ E2.out) ?_); (case qqg94 => rfl); (case qqo94 => rfl); (case qqh94 => first | (simp; done) | (simp [Act.eval]; done) | (simp only [Act.put]; simp; done) | (simp only [Act.put]; simp [Act.eval]; done)))
    | ((with_reducible refine wpList_load_one ?qqg95 3 ?qqx95 ?qqo95 w.heap.size 3 ?qqh95 (.int .i64 z3) Try.rQueue_int (OA1.out.cell 3 _ E3.out) ?_); (case qqg95 => rfl); (case qqo95 => rfl); (case qqh95 => first | (simp; done) | (simp [Act.eval]; done) | (simp only [Act.put]; simp; done) | (simp only [Act.put]; simp [Act.eval]; done)))
    | ((with_reducible refine wpList_load_one ?qqg96 24 ?qqx96 ?qqo96 (w.heap.size + 1) 0 ?qqh96 (v0r) Try.rQueue_Limpl_Item (OB1.out.cell 0 _ Er0.out) ?_); (case qqg96 => rfl); (case qqo96 => rfl); (case qqh96 => first | (simp; done) | (simp [Act.eval]; done) | (simp only [Act.put]; simp; done) | (simp only [Act.put]; simp [Act.eval]; done)))
    | ((with_reducible refine wpList_load_one ?qqg97 24 ?qqx97 ?qqo97 (w.heap.size + 1) 1 ?qqh97 (v1r) Try.rQueue_Limpl_Item (OB1.out.cell 1 _ Er1.out) ?_); (case qqg97 => rfl); (case qqo97 => rfl); (case qqh97 => first | (simp; done) | (simp [Act.eval]; done) | (simp only [Act.put]; simp; done) | (simp only [Act.put]; simp [Act.eval]; done)))
    | ((with_reducible refine wpList_load_one ?qqg98 25 ?qqx98 ?qqo98 (w.heap.size + 1) 2 ?qqh98 (v2r) Try.rQueue_Lstring (OB1.out.cell 2 _ Er2.out) ?_); (case qqg98 => rfl); (case qqo98 => rfl); (case qqh98 => first | (simp; done) | (simp [Act.eval]; done) | (simp only [Act.put]; simp; done) | (simp only [Act.put]; simp [Act.eval]; done)))
    | ((with_reducible refine wpList_load_one ?qqg99 3 ?qqx99 ?qqo99 (w.heap.size + 1) 3 ?qqh99 (.int .i64 z3) Try.rQueue_int (OB1.out.cell 3 _ Er3.out) ?_); (case qqg99 => rfl); (case qqo99 => rfl); (case qqh99 => first | (simp; done) | (simp [Act.eval]; done) | (simp only [Act.put]; simp; done) | (simp only [Act.put]; simp [Act.eval]; done)))
    )
  refine (HC1.out _ B1.out).mono ?_
  rintro e w2 ⟨rfl, hb2⟩
  have OA2 := uhide (OA1.out.below hb2)
  have OB2 := uhide (OB1.out.below hb2)
  have B2 : Hid (Below w.heap.size w w2) := B1.out.trans (hb2.mono B1.out.size)
  clear hb2 OA1 OB1
  go_wp2_with (first
    | ((with_reducible refine wpList_load_one ?qqg108 24 ?qqx108 ?qqo108 w.heap.size 0 ?qqh108 (v0) Try.rQueue_Limpl_Item (OA2.out.cell 0 _ E0.out) ?_); (case qqg108 => rfl); (case qqo108 => rfl); (case qqh108 => first | (simp; done) | (simp [Act.eval]; done) | (simp only [Act.put]; simp; done) | (simp only [Act.put]; simp [Act.eval]; done)))
    | ((with_reducible refine wpList_load_one ?qqg109 24 ?qqx109 ?qqo109 w.heap.size 1 ?qqh109 (v1) Try.rQueue_Limpl_Item (OA2.out.cell 1 _ E1.out) ?_); (case qqg109 => rfl); (case qqo109 => rfl); (case qqh109 => first | (simp; done) | (simp [Act.eval]; done) | (simp only [Act.put]; simp; done) | (simp only [Act.put]; simp [Act.eval]; done)))
    | ((with_reducible refine wpList_load_one ?qqg110 25 ?qqx110 ?qqo110 w.heap.size 2 ?qqh110 (v2) Try.rQueue_Lstring (OA2.out.cell 2 _ E2.out) ?_); (case qqg110 => rfl); (case qqo110 => rfl); (case qqh110 => first | (simp; done) | (simp [Act.eval]; done) | (simp only [Act.put]; simp; done) | (simp only [Act.put]; simp [Act.eval]; done)))
    | ((with_reducible refine wpList_load_one ?qqg111 3 ?qqx111 ?qqo111 w.heap.size 3 ?qqh111 (.int .i64 z3) Try.rQueue_int (OA2.out.cell 3 _ E3.out) ?_); (case qqg111 => rfl); (case qqo111 => rfl); (case qqh111 => first | (simp; done) | (simp [Act.eval]; done) | (simp only [Act.put]; simp; done) | (simp only [Act.put]; simp [Act.eval]; done)))
    | ((with_reducible refine wpList_load_one ?qqg112 24 ?qqx112 ?qqo112 (w.heap.size + 1) 0 ?qqh112 (v0r) Try.rQueue_Limpl_Item (OB2.out.cell 0 _ Er0.out) ?_); (case qqg112 => rfl); (case qqo112 => rfl); (case qqh112 => first | (simp; done) | (simp [Act.eval]; done) | (simp only [Act.put]; simp; done) | (simp only [Act.put]; simp [Act.eval]; done)))
    | ((with_reducible refine wpList_load_one ?qqg113 24 ?qqx113 ?qqo113 (w.heap.size + 1) 1 ?qqh113 (v1r) Try.rQueue_Limpl_Item (OB2.out.cell 1 _ Er1.out) ?_); (case qqg113 => rfl); (case qqo113 => rfl); (case qqh113 => first | (simp; done) | (simp [Act.eval]; done) | (simp only [Act.put]; simp; done) | (simp only [Act.put]; simp [Act.eval]; done)))
    | ((with_reducible refine wpList_load_one ?qqg114 25 ?qqx114 ?qqo114 (w.heap.size + 1) 2 ?qqh114 (v2r) Try.rQueue_Lstring (OB2.out.cell 2 _ Er2.out) ?_); (case qqg114 => rfl); (case qqo114 => rfl); (case qqh114 => first | (simp; done) | (simp [Act.eval]; done) | (simp only [Act.put]; simp; done) | (simp only [Act.put]; simp [Act.eval]; done)))
    | ((with_reducible refine wpList_load_one ?qqg115 3 ?qqx115 ?qqo115 (w.heap.size + 1) 3 ?qqh115 (.int .i64 z3) Try.rQueue_int (OB2.out.cell 3 _ Er3.out) ?_); (case qqg115 => rfl); (case qqo115 => rfl); (case qqh115 => first | (simp; done) | (simp [Act.eval]; done) | (simp only [Act.put]; simp; done) | (simp only [Act.put]; simp [Act.eval]; done)))
    )
  refine (HC2.out _ B2.out).mono ?_
  rintro e w3 ⟨rfl, hb3⟩
  have OA3 := uhide (OA2.out.below hb3)
  have OB3 := uhide (OB2.out.below hb3)
  have B3 : Hid (Below w.heap.size w w3) := B2.out.trans (hb3.mono B2.out.size)
  clear hb3 OA2 OB2
  go_wp2_with (first
    | ((with_reducible refine wpList_load_one ?qqg124 24 ?qqx124 ?qqo124 w.heap.size 0 ?qqh124 (v0) Try.rQueue_Limpl_Item (OA3.out.cell 0 _ E0.out) ?_); (case qqg124 => rfl); (case qqo124 => rfl); (case qqh124 => first | (simp; done) | (simp [Act.eval]; done) | (simp only [Act.put]; simp; done) | (simp only [Act.put]; simp [Act.eval]; done)))
    | ((with_reducible refine wpList_load_one ?qqg125 24 ?qqx125 ?qqo125 w.heap.size 1 ?qqh125 (v1) Try.rQueue_Limpl_Item (OA3.out.cell 1 _ E1.out) ?_); (case qqg125 => rfl); (case qqo125 => rfl); (case qqh125 => first | (simp; done) | (simp [Act.eval]; done) | (simp only [Act.put]; simp; done) | (simp only [Act.put]; simp [Act.eval]; done)))
    | ((with_reducible refine wpList_load_one ?qqg126 25 ?qqx126 ?qqo126 w.heap.size 2 ?qqh126 (v2) Try.rQueue_Lstring (OA3.out.cell 2 _ E2.out) ?_); (case qqg126 => rfl); (case qqo126 => rfl); (case qqh126 => first | (simp; done) | (simp [Act.eval]; done) | (simp only [Act.put]; simp; done) | (simp only [Act.put]; simp [Act.eval]; done)))
    | ((with_reducible refine wpList_load_one ?qqg127 3 ?qqx127 ?qqo127 w.heap.size 3 ?qqh127 (.int .i64 z3) Try.rQueue_int (OA3.out.cell 3 _ E3.out) ?_); (case qqg127 => rfl); (case qqo127 => rfl); (case qqh127 => first | (simp; done) | (simp [Act.eval]; done) | (simp only [Act.put]; simp; done) | (simp only [Act.put]; simp [Act.eval]; done)))
    | ((with_reducible refine wpList_load_one ?qqg128 24 ?qqx128 ?qqo128 (w.heap.size + 1) 0 ?qqh128 (v0r) Try.rQueue_Limpl_Item (OB3.out.cell 0 _ Er0.out) ?_); (case qqg128 => rfl); (case qqo128 => rfl); (case qqh128 => first | (simp; done) | (simp [Act.eval]; done) | (simp only [Act.put]; simp; done) | (simp only [Act.put]; simp [Act.eval]; done)))
    | ((with_reducible refine wpList_load_one ?qqg129 24 ?qqx129 ?qqo129 (w.heap.size + 1) 1 ?qqh129 (v1r) Try.rQueue_Limpl_Item (OB3.out.cell 1 _ Er1.out) ?_); (case qqg129 => rfl); (case qqo129 => rfl); (case qqh129 => first | (simp; done) | (simp [Act.eval]; done) | (simp only [Act.put]; simp; done) | (simp only [Act.put]; simp [Act.eval]; done)))
    | ((with_reducible refine wpList_load_one ?qqg130 25 ?qqx130 ?qqo130 (w.heap.size + 1) 2 ?qqh130 (v2r) Try.rQueue_Lstring (OB3.out.cell 2 _ Er2.out) ?_); (case qqg130 => rfl); (case qqo130 => rfl); (case qqh130 => first | (simp; done) | (simp [Act.eval]; done) | (simp only [Act.put]; simp; done) | (simp only [Act.put]; simp [Act.eval]; done)))
    | ((with_reducible refine wpList_load_one ?qqg131 3 ?qqx131 ?qqo131 (w.heap.size + 1) 3 ?qqh131 (.int .i64 z3) Try.rQueue_int (OB3.out.cell 3 _ Er3.out) ?_); (case qqg131 => rfl); (case qqo131 => rfl); (case qqh131 => first | (simp; done) | (simp [Act.eval]; done) | (simp only [Act.put]; simp; done) | (simp only [Act.put]; simp [Act.eval]; done)))
    )
  go_ret
  exact ⟨rfl, B3.out⟩
end Go.Proofs.Ytldabidmacghgaa
