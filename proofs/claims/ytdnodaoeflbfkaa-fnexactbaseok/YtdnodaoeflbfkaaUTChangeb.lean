/- Data as cells: the helpers of the laws over Change. -/
import Derived.Test.YtdnodaoeflbfkaaULeaf
import Derived.Test.YtdnodaoeflbfkaaULd
import Derived.Test.YtdnodaoeflbfkaaUFChange
import Derived.Test.YtdnodaoeflbfkaaUTObjb
namespace Go.Proofs.Ytdnodaoeflbfkaa
open Go.RowKit Go.BigFrame
set_option linter.unusedVariables false
set_option linter.unusedSimpArgs false

set_option maxRecDepth 20000 in
set_option maxHeartbeats 1600000 in
theorem ueqChange_any {lo hi lo' hi' : Nat} (d : UD) (xs ys : List Value) (w : World) (ht : tyL d (uE 9)) (hx : uH w lo hi d xs) (hy : uH w lo' hi' d ys) :
    Calls Try.prog 171 #[.agg xs.toArray, .agg ys.toArray] w fun e w' => e = .returned (.bool true) ∧ Below w.heap.size w w' := by
  replace ht : tyL d [.i .i64, .b, .i .i64, .s, .i .i64, .i .i64, .i .i64, .b, .l 1 0, .i .i64, .s, .i .i64, .l 1 0, .l 5 6, .i .i64, .s, .i .i64, .l 1 0, .l 5 6] := ht
  obtain ⟨z0, _, rfl, g0, h0⟩ := tyL.i ht
  obtain ⟨z1, _, rfl, h1⟩ := tyL.b h0
  clear h0
  obtain ⟨d2, _, rfl, g2, h2⟩ := tyL.split (f1 := uE 8) (f2 := []) h1
  clear h1
  obtain rfl := tyL.nil h2
  clear h2
  obtain ⟨_, rfl, h0⟩ := hx
  obtain ⟨_, rfl, h1⟩ := h0
  obtain ⟨y2, _, rfl, l2, s2, h2⟩ := uH.split h1
  replace l2 : y2.length = 17 := l2.trans (tyL.len g2)
  clear h1
  obtain rfl := h2
  obtain ⟨_, rfl, h0r⟩ := hy
  obtain ⟨_, rfl, h1r⟩ := h0r
  obtain ⟨y2r, _, rfl, l2r, s2r, h2r⟩ := uH.split h1r
  replace l2r : y2r.length = 17 := l2r.trans (tyL.len g2)
  clear h1r
  obtain rfl := h2r
  have HC0 : Hid (∀ wx : World, Below w.heap.size w wx → Calls Try.prog 170 #[.agg y2.toArray, .agg y2r.toArray] wx fun e w' => e = .returned (.bool true) ∧ Below wx.heap.size wx w') := fun wx hb => ueqObj_any (lo := lo) (hi := hi) (lo' := lo') (hi' := hi') d2 _ _ wx g2 (s2.below hb) (s2r.below hb)
  have q0 : (z0 != z0) = false := by simp
  have q1 : (z1 != z1) = false := by simp
  have HB : Hid (∀ o o', Below w.heap.size w ((w.alloc o).alloc o')) := fun o o' => ((Below.refl _ _).alloc (Nat.le_refl _) _).alloc (by simp) _
  obtain ⟨AX, hAX⟩ : ∃ AX : List Value, AX = (Value.int .i64 z0 :: (Value.bool z1 :: ((y2 ++ [])))) := ⟨_, rfl⟩
  rw [← hAX]
  have hlen : AX.length = 19 := by rw [hAX]; simp [l2]
  have e0 : AX[0]? = some (.int .i64 z0) := at_mid (i := 0) (pre := (([] : List Value))) (ys := [.int .i64 z0]) (post := (Value.bool z1 :: ((y2 ++ [])))) (by rw [hAX]; simp) (by simp) rfl
  have e1 : AX[1]? = some (.bool z1) := at_mid (i := 0) (pre := ([Value.int .i64 z0])) (ys := [.bool z1]) (post := ((y2 ++ []))) (by rw [hAX]; simp) (by simp) rfl
  have e2 : ∀ i v, y2[i]? = some v → AX[2 + i]? = some v := fun i v h => at_mid (pre := ([Value.int .i64 z0, Value.bool z1])) (ys := y2) (post := []) (by rw [hAX]; simp) (by simp) h
  clear hAX
  have E0 := uhide e0
  clear e0
  have E1 := uhide e1
  clear e1
  have YZ2 : Hid ((Try.prog.info? 136).map (·.size) = some y2.length) := by show _ = _; rw [l2]; exact Try.zChange_impl_Obj
  have E2 := uhide e2
  clear e2
  obtain ⟨AY, hAY⟩ : ∃ AY : List Value, AY = (Value.int .i64 z0 :: (Value.bool z1 :: ((y2r ++ [])))) := ⟨_, rfl⟩
  rw [← hAY]
  have hlenr : AY.length = 19 := by rw [hAY]; simp [l2r]
  have e0r : AY[0]? = some (.int .i64 z0) := at_mid (i := 0) (pre := (([] : List Value))) (ys := [.int .i64 z0]) (post := (Value.bool z1 :: ((y2r ++ [])))) (by rw [hAY]; simp) (by simp) rfl
  have e1r : AY[1]? = some (.bool z1) := at_mid (i := 0) (pre := ([Value.int .i64 z0])) (ys := [.bool z1]) (post := ((y2r ++ []))) (by rw [hAY]; simp) (by simp) rfl
  have e2r : ∀ i v, y2r[i]? = some v → AY[2 + i]? = some v := fun i v h => at_mid (pre := ([Value.int .i64 z0, Value.bool z1])) (ys := y2r) (post := []) (by rw [hAY]; simp) (by simp) h
  clear hAY
  have Er0 := uhide e0r
  clear e0r
  have Er1 := uhide e1r
  clear e1r
  have YrZ2 : Hid ((Try.prog.info? 136).map (·.size) = some y2r.length) := by show _ = _; rw [l2r]; exact Try.zChange_impl_Obj
  clear l2 l2r
  have Er2 := uhide e2r
  clear e2r
  have OA0 : Hid (objU ((w.alloc (.cells AX.toArray 138)).alloc (.cells AY.toArray 138)) w.heap.size 138 AX) := (objU.new2 _ _ rfl).old _
  have OB0 : Hid (objU ((w.alloc (.cells AX.toArray 138)).alloc (.cells AY.toArray 138)) (w.heap.size + 1) 138 AY) := objU.new2 _ _ (by simp)
  clear ht g0 g2 s2 s2r
  go_enter Try.func171, Try.ntmps171
  go_wp2_with (first
    | ((with_reducible refine wpList_load_one ?qqg72 3 ?qqx72 ?qqo72 w.heap.size 0 ?qqh72 (.int .i64 z0) Try.rChange_int (OA0.out.cell 0 _ E0.out) ?_); (case qqg72 => rfl); (case qqo72 => rfl); (case qqh72 => simp [Act.eval, Act.put]))
    | ((with_reducible refine wpList_load_one ?qqg73 4 ?qqx73 ?qqo73 w.heap.size 1 ?qqh73 (.bool z1) Try.rChange_bool (OA0.out.cell 1 _ E1.out) ?_); (case qqg73 => rfl); (case qqo73 => rfl); (case qqh73 => simp [Act.eval, Act.put]))
    | ((with_reducible refine wpList_load_row2 ?qqg74 136 ?qqx74 ?qqo74 w.heap.size 2 ?qqh74 y2 Try.rChange_impl_Obj YZ2.out (OA0.out.range 2 _ E2.out) ?_); (case qqg74 => rfl); (case qqo74 => rfl); (case qqh74 => simp [Act.eval, Act.put]))
    | ((with_reducible refine wpList_load_one ?qqg75 3 ?qqx75 ?qqo75 (w.heap.size + 1) 0 ?qqh75 (.int .i64 z0) Try.rChange_int (OB0.out.cell 0 _ Er0.out) ?_); (case qqg75 => rfl); (case qqo75 => rfl); (case qqh75 => simp [Act.eval, Act.put]))
    | ((with_reducible refine wpList_load_one ?qqg76 4 ?qqx76 ?qqo76 (w.heap.size + 1) 1 ?qqh76 (.bool z1) Try.rChange_bool (OB0.out.cell 1 _ Er1.out) ?_); (case qqg76 => rfl); (case qqo76 => rfl); (case qqh76 => simp [Act.eval, Act.put]))
    | ((with_reducible refine wpList_load_row2 ?qqg77 136 ?qqx77 ?qqo77 (w.heap.size + 1) 2 ?qqh77 y2r Try.rChange_impl_Obj YrZ2.out (OB0.out.range 2 _ Er2.out) ?_); (case qqg77 => rfl); (case qqo77 => rfl); (case qqh77 => simp [Act.eval, Act.put]))
    )
  refine (HC0.out _ (HB.out _ _)).mono ?_
  rintro e w1 ⟨rfl, hb1⟩
  have OA1 := uhide (OA0.out.below hb1)
  have OB1 := uhide (OB0.out.below hb1)
  have B1 : Hid (Below w.heap.size w w1) := (HB.out _ _).trans (hb1.mono (by simp; omega))
  clear hb1 OA0 OB0
  go_wp2
  go_ret
  exact ⟨rfl, B1.out⟩
set_option maxRecDepth 20000 in
set_option maxHeartbeats 1600000 in
theorem ueqChangeS_any {lo hi lo' hi' : Nat} (n : Nat) (cs : UD) (c c' : Value) (w : World) (ht : tyS 19 n cs 9) (hx : uS w lo hi 19 n cs c) (hy : uS w lo' hi' 19 n cs c') :
    Calls Try.prog 95 #[c, c'] w fun e w' => e = .returned (.bool true) ∧ Below w.heap.size w w' := by
  obtain ⟨a, cap, rfl, hx2⟩ := hx
  obtain ⟨a', cap', rfl, hy2⟩ := hy
  have Hx : Hid (uS w lo hi 19 n cs (.slice a n cap)) := ⟨a, cap, rfl, hx2⟩
  have Hy : Hid (uS w lo' hi' 19 n cs (.slice a' n cap')) := ⟨a', cap', rfl, hy2⟩
  have hmx := ht.2.2.1
  unfold maxLen at hmx
  have Ht := uhide ht
  have hb0 : ((n : Int) != (n : Int)) = false := by simp
  clear hx2 hy2 ht
  go_enter Try.func95, Try.ntmps95
  go_wp2
  go_loopw [5] (fun i wr => ∃ (q : Nat), q ≤ n ∧ i = .int .i64 q ∧ Hid (Below w.heap.size w wr)) (fun i _ => n - (intOf i).toNat)
  case atStart => exact ⟨0, Nat.zero_le _, rfl, Below.refl _ _⟩
  case round =>
    obtain ⟨q, hq, rfl, hbw⟩ := hrel
    by_cases hlt : q < n
    · obtain ⟨b, off, rfl, hbb, hm⟩ := (Hx.out.below hbw.out).cells (by omega)
      obtain ⟨b', off', rfl, hbb', hm'⟩ := (Hy.out.below hbw.out).cells (by omega)
      have htr := Ht.out.row hlt
      obtain ⟨xs, hh, hcl⟩ := (hm.row 19 q).hand
      obtain ⟨ys, hh', hcl'⟩ := (hm'.row 19 q).hand
      have hi1 : (Try.prog.info? 138).map (·.size) = some xs.length := by rw [hh.len, tyL.len htr]; exact Try.zChange_impl_Change
      have hi2 : (Try.prog.info? 138).map (·.size) = some ys.length := by rw [hh'.len, tyL.len htr]; exact Try.zChange_impl_Change
      have Hcon : Hid (∀ wx, Below wr.heap.size wr wx → Calls Try.prog 171 #[.agg xs.toArray, .agg ys.toArray] wx fun e w' => e = .returned (.bool true) ∧ Hid (Below wr.heap.size wr w')) := fun wx hb => (ueqChange_any (lo := lo) (hi := hi) (lo' := lo') (hi' := hi') _ _ _ wx htr (hh.below hb) (hh'.below hb)).mono fun e w' h => ⟨h.1, hb.trans (h.2.mono hb.size)⟩
      have r1 : wr.rangeAt b (off + q * 19) xs := hcl
      have r2 : wr.rangeAt b' (off' + q * 19) ys := hcl'
      have R1 := uhide r1
      have R2 := uhide r2
      clear hcl hcl' hm hm' htr hh hh' Hx Hy Ht
      go_wp2
      refine wp_region_held_drew (S := fun w' => w'.rangeAt b (off + q * 19) xs ∧ w'.rangeAt b' (off' + q * 19) ys) (by kernel_rfl) ⟨(World.rangeAt_drew _ _ _ _).2 R1.out, (World.rangeAt_drew _ _ _ _).2 R2.out⟩ (fun hHeld => ?_)
      refine wpAnyH_take (i := 0) (oi := ⟨some 17, .move (.tmp 0), _, _, _, _⟩) (v := .slice (some ⟨b, off, none⟩) n cap) rfl (by kernel_rfl) (by kernel_rfl) (by kernel_rfl) (fun _ _ _ h => h) (Or.inl ⟨by rfl, by intro w hSw; go_simp⟩) hHeld ?_
      simp only [Act.put, List.setIfInBounds_toArray, List.set_cons_zero, List.set_cons_succ]
      refine wpAnyH_take (i := 1) (oi := ⟨some 18, .move (.tmp 5), _, _, _, _⟩) (v := .int .i64 q) rfl (by kernel_rfl) (by kernel_rfl) (by kernel_rfl) (fun _ _ _ h => h) (Or.inl ⟨by rfl, by intro w hSw; go_simp⟩) hHeld ?_
      simp only [Act.put, List.setIfInBounds_toArray, List.set_cons_zero, List.set_cons_succ]
      refine wpAnyH_take (i := 2) (oi := ⟨some 19, .indexAddr 65 (.tmp 17) (.tmp 18), _, _, _, _⟩) (v := .pointer (some ⟨b, off + q * 19, none⟩)) rfl (by kernel_rfl) (by kernel_rfl) (by kernel_rfl) (fun _ _ _ h => h) (Or.inl ⟨by rfl, by intro w hSw; go_simp⟩) hHeld ?_
      simp only [Act.put, List.setIfInBounds_toArray, List.set_cons_zero, List.set_cons_succ]
      refine wpAnyH_take (i := 3) (oi := ⟨some 20, .load 138 (.tmp 19), _, _, _, _⟩) (v := .agg xs.toArray) rfl (by kernel_rfl) (by kernel_rfl) (by kernel_rfl) (fun _ _ _ h => h) (yieldsIf_load_row (by rfl) 138 _ rfl b (off + q * 19) rfl xs (fun w hS => hS.1) Try.rChange_impl_Change hi1) hHeld ?_
      simp only [Act.put, List.setIfInBounds_toArray, List.set_cons_zero, List.set_cons_succ]
      refine wpAnyH_take (i := 4) (oi := ⟨some 21, .move (.tmp 1), _, _, _, _⟩) (v := .slice (some ⟨b', off', none⟩) n cap') rfl (by kernel_rfl) (by kernel_rfl) (by kernel_rfl) (fun _ _ _ h => h) (Or.inl ⟨by rfl, by intro w hSw; go_simp⟩) hHeld ?_
      simp only [Act.put, List.setIfInBounds_toArray, List.set_cons_zero, List.set_cons_succ]
      refine wpAnyH_take (i := 5) (oi := ⟨some 22, .move (.tmp 5), _, _, _, _⟩) (v := .int .i64 q) rfl (by kernel_rfl) (by kernel_rfl) (by kernel_rfl) (fun _ _ _ h => h) (Or.inl ⟨by rfl, by intro w hSw; go_simp⟩) hHeld ?_
      simp only [Act.put, List.setIfInBounds_toArray, List.set_cons_zero, List.set_cons_succ]
      refine wpAnyH_take (i := 6) (oi := ⟨some 23, .indexAddr 65 (.tmp 21) (.tmp 22), _, _, _, _⟩) (v := .pointer (some ⟨b', off' + q * 19, none⟩)) rfl (by kernel_rfl) (by kernel_rfl) (by kernel_rfl) (fun _ _ _ h => h) (Or.inl ⟨by rfl, by intro w hSw; go_simp⟩) hHeld ?_
      simp only [Act.put, List.setIfInBounds_toArray, List.set_cons_zero, List.set_cons_succ]
      refine wpAnyH_take (i := 7) (oi := ⟨some 24, .load 138 (.tmp 23), _, _, _, _⟩) (v := .agg ys.toArray) rfl (by kernel_rfl) (by kernel_rfl) (by kernel_rfl) (fun _ _ _ h => h) (yieldsIf_load_row (by rfl) 138 _ rfl b' (off' + q * 19) rfl ys (fun w hS => hS.2) Try.rChange_impl_Change hi2) hHeld ?_
      simp only [Act.put, List.setIfInBounds_toArray, List.set_cons_zero, List.set_cons_succ]
      refine wpAnyH_ready (rs := [8]) (by kernel_rfl) (by simp) (AllReadyH.cons (o := ⟨some 25, .call { callee := .value (.func 171), args := #[.tmp 20, .tmp 24], argTypes := #[138, 138] }, _, _, _, _⟩) rfl (fun K hK => ?_) AllReadyH.nil)
      refine step_call_of rfl 171 #[.tmp 20, .tmp 24] #[138, 138] rfl (callFunc_enter Try.func171 (by kernel_rfl) (by kernel_rfl)) #[.agg xs.toArray, .agg ys.toArray] (by simp [Act.eval]) (Hcon.out _ (Below.drew (Below.refl _ _))) ?_
      rintro e w2 ⟨rfl, hb2⟩
      refine ⟨.bool true, rfl, hK.out _ _ ⟨range_below R1.out hb2.out, range_below R2.out hb2.out⟩ (fun hHeld => ?_)⟩
      clear hK K
      simp only [Act.put, List.setIfInBounds_toArray, List.set_cons_zero, List.set_cons_succ]
      refine wpAnyH_take (i := 9) (oi := ⟨some 26, .unOp .not 4 (.tmp 25), _, _, _, _⟩) (v := .bool false) rfl (by kernel_rfl) (by kernel_rfl) (by kernel_rfl) (fun _ _ _ h => h) (Or.inl ⟨by rfl, by intro w hSw; go_simp⟩) hHeld ?_
      simp only [Act.put, List.setIfInBounds_toArray, List.set_cons_zero, List.set_cons_succ]
      refine wpAnyH_done (by kernel_rfl) ?_ _
      clear hHeld
      go_wp2
      go_roundw
      case rel => exact ⟨q + 1, by omega, by go_num, hbw.out.trans (hb2.out.mono hbw.out.size)⟩
      case measure => simp [intOf]; omega
    · have e : q = n := by omega
      subst e
      go_wp2
      go_ret
      exact ⟨rfl, hbw.out⟩
end Go.Proofs.Ytdnodaoeflbfkaa
