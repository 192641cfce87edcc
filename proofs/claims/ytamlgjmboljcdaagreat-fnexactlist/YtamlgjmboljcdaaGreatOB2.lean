/- Objects: both that ask whether one is as told; whether one ends and waits for nothing. -/
import Derived.Test.YtamlgjmboljcdaaGreatOB1
import Derived.Test.YtamlgjmboljcdaaGreatUTObja
namespace Go.Proofs.YtamlgjmboljcdaaGreat
open Go.RowKit Go.BigFrame
set_option linter.unusedVariables false

theorem wpList_load_oneG {P : Program} {ops : Array Oper} {rest : List Oper} {o : Oper} {a : Act} {w : World} {Q : Exit → Act → World → Prop} (hw : Region.wanted o (yielded ops a.tmps) = true) (t : TypeId) (x : Operand) (ho : o.op = .load t x)
    (b j : Nat) (hx : a.eval x = .pointer (some ⟨b, j, none⟩)) (v : Value) (hu : (P.underlying t).map TypeDesc.isRow = some false) (hc : w.cell? ⟨b, j, none⟩ = some v) (h : wpList P ops Q rest (a.put o.dst v) w) : wpList P ops Q (o :: rest) a w := by
  refine wpList_want hw fun K hK => ?_
  have hl : Sem.run P (Instr.loadAt t (.pointer (some ⟨b, j, none⟩))) w = .ok v w := by
    cases hd : P.underlying t with
    | none => rw [hd] at hu; cases hu
    | some d =>
      rw [hd] at hu
      have hagg : (isAgg t).run P w = .ok false w := by
        unfold isAgg
        rw [Sem.run_bind, run_underlying hd w]
        cases d <;> simp_all [TypeDesc.isRow]
      simp only [Instr.loadAt, Instr.sureAddr, Sem.run_bind, Sem.run_pure, Result.andThen_ok, loadVar, hagg, Bool.false_eq_true, if_false, run_load, hc]
  unfold Oper.wp execOp
  simp only [ho, Sem.run_bind, Sem.run_pure, hx, hl, Result.andThen_ok]
  exact hK _ _ h
theorem wpList_load_rowG {P : Program} {ops : Array Oper} {rest : List Oper} {o : Oper} {a : Act} {w : World} {Q : Exit → Act → World → Prop} (hw : Region.wanted o (yielded ops a.tmps) = true) (t : TypeId) (x : Operand) (ho : o.op = .load t x)
    (b j : Nat) (hx : a.eval x = .pointer (some ⟨b, j, none⟩)) (ys : List Value) (hu : (P.underlying t).map TypeDesc.isRow = some true) (hi : (P.info? t).map (·.size) = some ys.length) (hr : w.rangeAt b j ys) (h : wpList P ops Q rest (a.put o.dst (.agg ys.toArray)) w) : wpList P ops Q (o :: rest) a w := by
  refine wpList_want hw fun K hK => ?_
  unfold Oper.wp execOp
  simp only [ho, Sem.run_bind, Sem.run_pure, hx, load_row_eq hu hi hr, Result.andThen_ok]
  exact hK _ _ h
def kindU : UD → Int
  | .p (.int _ z) _ => z
  | _ => 0
def nameU : UD → ByteArray
  | .p _ (.p (.string s) _) => s
  | _ => ByteArray.empty
def uidU : UD → Int
  | .p _ (.p _ (.p (.int _ z) _)) => z
  | _ => 0
theorem okStrs_of {n : Nat} {c : UD} (h : tyS 1 n c 0) : ∀ t ∈ strL c, t.size ≤ maxLen := by
  intro t ht
  obtain ⟨i, hi, rfl⟩ := List.getElem_of_mem ht
  exact ((strL_get c 0 h.2.2.2.2).2 i hi).2
theorem uS.slice_of {w : World} {lo hi k n : Nat} {cs : UD} {c : Value} (h : uS w lo hi k n cs c) : ∃ a cap, c = .slice a n cap ∧ True := by
  obtain ⟨a, cap, e, _⟩ := h; exact ⟨a, cap, e, trivial⟩
set_option maxRecDepth 40000 in
set_option maxHeartbeats 6400000 in
theorem objOk_of {lo hi : Nat} (z0 : Int) (z1 : ByteArray) (z2 z3 z4 : Int) (z5 : Bool) (n6 : Nat) (c6 d7 d8 : UD) (k6 k7 : Bool) (xs : List Value) (rev next : Int) (w : World) (g1 : z1.size ≤ maxLen) (g6 : tyS 1 n6 c6 0) (g7 : tyL d7 (uE 6)) (g8 : tyL d8 (uE 6))
    (hv7 : ∀ (w : World) (lo hi : Nat) (xs : List Value), uH w lo hi d7 xs → Calls Tryz.prog 74 #[.agg xs.toArray] w fun e w' => e = .returned (.bool k6) ∧ Below w.heap.size w w')
    (hv8 : ∀ (w : World) (lo hi : Nat) (xs : List Value), uH w lo hi d8 xs → Calls Tryz.prog 74 #[.agg xs.toArray] w fun e w' => e = .returned (.bool k7) ∧ Below w.heap.size w w')
    (hn0 : -9223372036854775807 ≤ next) (hn1 : next ≤ 9223372036854775807) (hx : uH w lo hi (UD.p (.int .i64 z0) (UD.p (.string z1) (UD.p (.int .i64 z2) (UD.p (.int .i64 z3) (UD.p (.int .i64 z4) (UD.p (.bool z5) (UD.l 1 n6 c6 (UD.app d7 (UD.app d8 UD.nil))))))))) xs) :
    Calls Tryz.prog 160 #[.agg xs.toArray, .int .i64 rev, .int .i64 (next - 1)] w fun e w' => e = .returned (.bool (inB z0 1 3 && nameB z1 && waitsB (strL c6) && inB z2 1 (next - 1) && inB z3 1 rev && inB z4 1 z3 && k6 && k7)) ∧ Below w.heap.size w w' := by
  obtain ⟨_, rfl, h0⟩ := hx
  obtain ⟨_, rfl, h1⟩ := h0
  obtain ⟨_, rfl, h2⟩ := h1
  obtain ⟨_, rfl, h3⟩ := h2
  obtain ⟨_, rfl, h4⟩ := h3
  obtain ⟨_, rfl, h5⟩ := h4
  obtain ⟨v6, _, rfl, s6, h6⟩ := h5
  obtain ⟨y7, _, rfl, l7, s7, h7⟩ := uH.split h6
  replace l7 : y7.length = 5 := l7.trans (tyL.len g7)
  clear h6
  obtain ⟨y8, _, rfl, l8, s8, h8⟩ := uH.split h7
  replace l8 : y8.length = 5 := l8.trans (tyL.len g8)
  clear h7
  obtain rfl := h8
  obtain ⟨a6, cp6, rfl⟩ : ∃ a cap, v6 = .slice a n6 cap := by obtain ⟨a, cap, e, _⟩ := s6; exact ⟨a, cap, e⟩
  have hW6 : ∀ wx : World, Below w.heap.size w wx → Calls Tryz.prog 75 #[(.slice a6 n6 cp6)] wx fun e w' => e = .returned (.bool (waitsB (strL c6))) ∧ Below wx.heap.size wx w' := by
    intro wx hb
    have h6 := s6.below hb
    obtain ⟨q1, q2, q3⟩ := strB_of g6 h6
    have q4 := okStrs_of g6
    have := iwaits_any a6 cp6 (strL c6) wx (by rw [q3]; exact g6.2.2.1) (strB.of q1)
    rw [q3] at this
    exact this
  obtain ⟨k0, hk0⟩ : ∃ k, k = inB z0 1 3 := ⟨_, rfl⟩
  have HK0 : Hid (∀ wx : World, Below w.heap.size w wx → Calls Tryz.prog 99 #[.int .i64 z0, .int .i64 3] wx fun e w' => e = .returned (.bool k0) ∧ Below wx.heap.size wx w') := fun wx hb => hk0 ▸ ((fromOne_any _ _ wx).mono fun e w' h => ⟨h.1, h.2 ▸ Below.refl _ _⟩)
  obtain ⟨k1, hk1⟩ : ∃ k, k = nameB z1 := ⟨_, rfl⟩
  have HK1 : Hid (∀ wx : World, Below w.heap.size w wx → Calls Tryz.prog 93 #[.string z1] wx fun e w' => e = .returned (.bool k1) ∧ Below wx.heap.size wx w') := fun wx hb => hk1 ▸ (iname_any z1 wx)
  obtain ⟨k2, hk2⟩ : ∃ k, k = waitsB (strL c6) := ⟨_, rfl⟩
  have HK2 : Hid (∀ wx : World, Below w.heap.size w wx → Calls Tryz.prog 75 #[(.slice a6 n6 cp6)] wx fun e w' => e = .returned (.bool k2) ∧ Below wx.heap.size wx w') := fun wx hb => hk2 ▸ (hW6 _ hb)
  obtain ⟨k3, hk3⟩ : ∃ k, k = inB z2 1 (next - 1) := ⟨_, rfl⟩
  have HK3 : Hid (∀ wx : World, Below w.heap.size w wx → Calls Tryz.prog 99 #[.int .i64 z2, .int .i64 (next - 1)] wx fun e w' => e = .returned (.bool k3) ∧ Below wx.heap.size wx w') := fun wx hb => hk3 ▸ ((fromOne_any _ _ wx).mono fun e w' h => ⟨h.1, h.2 ▸ Below.refl _ _⟩)
  obtain ⟨k4, hk4⟩ : ∃ k, k = inB z3 1 rev := ⟨_, rfl⟩
  have HK4 : Hid (∀ wx : World, Below w.heap.size w wx → Calls Tryz.prog 99 #[.int .i64 z3, .int .i64 rev] wx fun e w' => e = .returned (.bool k4) ∧ Below wx.heap.size wx w') := fun wx hb => hk4 ▸ ((fromOne_any _ _ wx).mono fun e w' h => ⟨h.1, h.2 ▸ Below.refl _ _⟩)
  obtain ⟨k5, hk5⟩ : ∃ k, k = inB z4 1 z3 := ⟨_, rfl⟩
  have HK5 : Hid (∀ wx : World, Below w.heap.size w wx → Calls Tryz.prog 99 #[.int .i64 z4, .int .i64 z3] wx fun e w' => e = .returned (.bool k5) ∧ Below wx.heap.size wx w') := fun wx hb => hk5 ▸ ((fromOne_any _ _ wx).mono fun e w' h => ⟨h.1, h.2 ▸ Below.refl _ _⟩)
  have HK6 : Hid (∀ wx : World, Below w.heap.size w wx → Calls Tryz.prog 74 #[.agg y7.toArray] wx fun e w' => e = .returned (.bool k6) ∧ Below wx.heap.size wx w') := fun wx hb => (hv7 wx lo hi y7 (s7.below hb))
  have HK7 : Hid (∀ wx : World, Below w.heap.size w wx → Calls Tryz.prog 74 #[.agg y8.toArray] wx fun e w' => e = .returned (.bool k7) ∧ Below wx.heap.size wx w') := fun wx hb => (hv8 wx lo hi y8 (s8.below hb))
  rw [← hk0, ← hk1, ← hk2, ← hk3, ← hk4, ← hk5]
  obtain ⟨AX, hAX⟩ : ∃ AX : List Value, AX = (Value.int .i64 z0 :: (Value.string z1 :: (Value.int .i64 z2 :: (Value.int .i64 z3 :: (Value.int .i64 z4 :: (Value.bool z5 :: ((.slice a6 n6 cp6) :: ((y7 ++ ((y8 ++ []))))))))))) := ⟨_, rfl⟩
  rw [← hAX]
  have hlen : AX.length = 17 := by rw [hAX]; simp [l7, l8]
  have e0 : AX[0]? = some (.int .i64 z0) := at_mid (i := 0) (pre := (([] : List Value))) (ys := [.int .i64 z0]) (post := (Value.string z1 :: (Value.int .i64 z2 :: (Value.int .i64 z3 :: (Value.int .i64 z4 :: (Value.bool z5 :: ((.slice a6 n6 cp6) :: ((y7 ++ ((y8 ++ []))))))))))) (by rw [hAX]; simp) (by simp) rfl
  have e1 : AX[1]? = some (.string z1) := at_mid (i := 0) (pre := ([Value.int .i64 z0])) (ys := [.string z1]) (post := (Value.int .i64 z2 :: (Value.int .i64 z3 :: (Value.int .i64 z4 :: (Value.bool z5 :: ((.slice a6 n6 cp6) :: ((y7 ++ ((y8 ++ [])))))))))) (by rw [hAX]; simp) (by simp) rfl
  have e2 : AX[2]? = some (.int .i64 z2) := at_mid (i := 0) (pre := ([Value.int .i64 z0, Value.string z1])) (ys := [.int .i64 z2]) (post := (Value.int .i64 z3 :: (Value.int .i64 z4 :: (Value.bool z5 :: ((.slice a6 n6 cp6) :: ((y7 ++ ((y8 ++ []))))))))) (by rw [hAX]; simp) (by simp) rfl
  have e3 : AX[3]? = some (.int .i64 z3) := at_mid (i := 0) (pre := ([Value.int .i64 z0, Value.string z1, Value.int .i64 z2])) (ys := [.int .i64 z3]) (post := (Value.int .i64 z4 :: (Value.bool z5 :: ((.slice a6 n6 cp6) :: ((y7 ++ ((y8 ++ [])))))))) (by rw [hAX]; simp) (by simp) rfl
  have e4 : AX[4]? = some (.int .i64 z4) := at_mid (i := 0) (pre := ([Value.int .i64 z0, Value.string z1, Value.int .i64 z2, Value.int .i64 z3])) (ys := [.int .i64 z4]) (post := (Value.bool z5 :: ((.slice a6 n6 cp6) :: ((y7 ++ ((y8 ++ []))))))) (by rw [hAX]; simp) (by simp) rfl
  have e5 : AX[5]? = some (.bool z5) := at_mid (i := 0) (pre := ([Value.int .i64 z0, Value.string z1, Value.int .i64 z2, Value.int .i64 z3, Value.int .i64 z4])) (ys := [.bool z5]) (post := ((.slice a6 n6 cp6) :: ((y7 ++ ((y8 ++ [])))))) (by rw [hAX]; simp) (by simp) rfl
  have e6 : AX[6]? = some ((.slice a6 n6 cp6)) := at_mid (i := 0) (pre := ([Value.int .i64 z0, Value.string z1, Value.int .i64 z2, Value.int .i64 z3, Value.int .i64 z4, Value.bool z5])) (ys := [(.slice a6 n6 cp6)]) (post := ((y7 ++ ((y8 ++ []))))) (by rw [hAX]; simp) (by simp) rfl
  have e7 : ∀ i v, y7[i]? = some v → AX[7 + i]? = some v := fun i v h => at_mid (pre := ([Value.int .i64 z0, Value.string z1, Value.int .i64 z2, Value.int .i64 z3, Value.int .i64 z4, Value.bool z5, (.slice a6 n6 cp6)])) (ys := y7) (post := ((y8 ++ []))) (by rw [hAX]; simp) (by simp) h
  have e8 : ∀ i v, y8[i]? = some v → AX[12 + i]? = some v := fun i v h => at_mid (pre := ([Value.int .i64 z0, Value.string z1, Value.int .i64 z2, Value.int .i64 z3, Value.int .i64 z4, Value.bool z5, (.slice a6 n6 cp6)] ++ y7)) (ys := y8) (post := []) (by rw [hAX]; simp) (by simp [l7]) h
  clear hAX
  have E0 := uhide e0
  clear e0
  have E1 := uhide e1
  clear e1
  have E2 := uhide e2
  clear e2
  have E3 := uhide e3
  clear e3
  have E4 := uhide e4
  clear e4
  have E5 := uhide e5
  clear e5
  have E6 := uhide e6
  clear e6
  have YZ7 : Hid ((Tryz.prog.info? 31).map (·.size) = some y7.length) := by show _ = _; rw [l7]; exact Tryz.zObj_impl_Value
  have E7 := uhide e7
  clear e7
  have YZ8 : Hid ((Tryz.prog.info? 31).map (·.size) = some y8.length) := by show _ = _; rw [l8]; exact Tryz.zObj_impl_Value
  have E8 := uhide e8
  clear e8
  have OA : Hid (objU (w.alloc (.cells AX.toArray 38)) w.heap.size 38 AX) := objU.new2 _ _ rfl
  have BA : Hid (Below w.heap.size w (w.alloc (.cells AX.toArray 38))) := (Below.refl _ _).alloc (Nat.le_refl _) _
  have hmx := g6.2.2.1
  unfold maxLen at hmx
  clear hW6 hk0 hk1 hk2 hk3 hk4 hk5 hv7 hv8 g1 g6 g7 g8 s6 s7 s8 l7 l8 hlen
  cases k0 with
  | false =>
    go_enter Tryz.func160, Tryz.ntmps160
    go_wp2_with (first
      | ((with_reducible refine wpList_load_oneG ?qqg133 3 ?qqx133 ?qqo133 w.heap.size 0 ?qqh133 (.int .i64 z0) Tryz.rObj_int (OA.out.cell 0 _ E0.out) ?_); (case qqg133 => rfl); (case qqo133 => rfl); (case qqh133 => first | (simp; done) | (simp [Act.eval]; done) | (simp only [Act.put]; simp; done) | (simp only [Act.put]; simp [Act.eval]; done)))
      | ((with_reducible refine wpList_load_oneG ?qqg134 9 ?qqx134 ?qqo134 w.heap.size 1 ?qqh134 (.string z1) Tryz.rObj_string (OA.out.cell 1 _ E1.out) ?_); (case qqg134 => rfl); (case qqo134 => rfl); (case qqh134 => first | (simp; done) | (simp [Act.eval]; done) | (simp only [Act.put]; simp; done) | (simp only [Act.put]; simp [Act.eval]; done)))
      | ((with_reducible refine wpList_load_oneG ?qqg135 3 ?qqx135 ?qqo135 w.heap.size 2 ?qqh135 (.int .i64 z2) Tryz.rObj_int (OA.out.cell 2 _ E2.out) ?_); (case qqg135 => rfl); (case qqo135 => rfl); (case qqh135 => first | (simp; done) | (simp [Act.eval]; done) | (simp only [Act.put]; simp; done) | (simp only [Act.put]; simp [Act.eval]; done)))
      | ((with_reducible refine wpList_load_oneG ?qqg136 3 ?qqx136 ?qqo136 w.heap.size 3 ?qqh136 (.int .i64 z3) Tryz.rObj_int (OA.out.cell 3 _ E3.out) ?_); (case qqg136 => rfl); (case qqo136 => rfl); (case qqh136 => first | (simp; done) | (simp [Act.eval]; done) | (simp only [Act.put]; simp; done) | (simp only [Act.put]; simp [Act.eval]; done)))
      | ((with_reducible refine wpList_load_oneG ?qqg137 3 ?qqx137 ?qqo137 w.heap.size 4 ?qqh137 (.int .i64 z4) Tryz.rObj_int (OA.out.cell 4 _ E4.out) ?_); (case qqg137 => rfl); (case qqo137 => rfl); (case qqh137 => first | (simp; done) | (simp [Act.eval]; done) | (simp only [Act.put]; simp; done) | (simp only [Act.put]; simp [Act.eval]; done)))
      | ((with_reducible refine wpList_load_oneG ?qqg138 4 ?qqx138 ?qqo138 w.heap.size 5 ?qqh138 (.bool z5) Tryz.rObj_bool (OA.out.cell 5 _ E5.out) ?_); (case qqg138 => rfl); (case qqo138 => rfl); (case qqh138 => first | (simp; done) | (simp [Act.eval]; done) | (simp only [Act.put]; simp; done) | (simp only [Act.put]; simp [Act.eval]; done)))
      | ((with_reducible refine wpList_load_oneG ?qqg139 28 ?qqx139 ?qqo139 w.heap.size 6 ?qqh139 ((.slice a6 n6 cp6)) Tryz.rObj_Lstring (OA.out.cell 6 _ E6.out) ?_); (case qqg139 => rfl); (case qqo139 => rfl); (case qqh139 => first | (simp; done) | (simp [Act.eval]; done) | (simp only [Act.put]; simp; done) | (simp only [Act.put]; simp [Act.eval]; done)))
      | ((with_reducible refine wpList_load_rowG ?qqg140 31 ?qqx140 ?qqo140 w.heap.size 7 ?qqh140 y7 Tryz.rObj_impl_Value YZ7.out (OA.out.range 7 _ E7.out) ?_); (case qqg140 => rfl); (case qqo140 => rfl); (case qqh140 => first | (simp; done) | (simp [Act.eval]; done) | (simp only [Act.put]; simp; done) | (simp only [Act.put]; simp [Act.eval]; done)))
      | ((with_reducible refine wpList_load_rowG ?qqg141 31 ?qqx141 ?qqo141 w.heap.size 12 ?qqh141 y8 Tryz.rObj_impl_Value YZ8.out (OA.out.range 12 _ E8.out) ?_); (case qqg141 => rfl); (case qqo141 => rfl); (case qqh141 => first | (simp; done) | (simp [Act.eval]; done) | (simp only [Act.put]; simp; done) | (simp only [Act.put]; simp [Act.eval]; done)))
      )
    refine (HK0.out _ BA.out).mono ?_
    rintro e w0 ⟨rfl, hb0⟩
    have O0 := uhide (OA.out.below hb0)
    have B0 : Hid (Below w.heap.size w w0) := BA.out.trans (hb0.mono BA.out.size)
    clear hb0
    go_wp2
    go_ret
    exact ⟨ret_bool (by simp), B0.out⟩
  | true =>
  cases k1 with
  | false =>
    go_enter Tryz.func160, Tryz.ntmps160
    go_wp2_with (first
      | ((with_reducible refine wpList_load_oneG ?qqg156 3 ?qqx156 ?qqo156 w.heap.size 0 ?qqh156 (.int .i64 z0) Tryz.rObj_int (OA.out.cell 0 _ E0.out) ?_); (case qqg156 => rfl); (case qqo156 => rfl); (case qqh156 => first | (simp; done) | (simp [Act.eval]; done) | (simp only [Act.put]; simp; done) | (simp only [Act.put]; simp [Act.eval]; done)))
      | ((with_reducible refine wpList_load_oneG ?qqg157 9 ?qqx157 ?qqo157 w.heap.size 1 ?qqh157 (.string z1) Tryz.rObj_string (OA.out.cell 1 _ E1.out) ?_); (case qqg157 => rfl); (case qqo157 => rfl); (case qqh157 => first | (simp; done) | (simp [Act.eval]; done) | (simp only [Act.put]; simp; done) | (simp only [Act.put]; simp [Act.eval]; done)))
      | ((with_reducible refine wpList_load_oneG ?qqg158 3 ?qqx158 ?qqo158 w.heap.size 2 ?qqh158 (.int .i64 z2) Tryz.rObj_int (OA.out.cell 2 _ E2.out) ?_); (case qqg158 => rfl); (case qqo158 => rfl); (case qqh158 => first | (simp; done) | (simp [Act.eval]; done) | (simp only [Act.put]; simp; done) | (simp only [Act.put]; simp [Act.eval]; done)))
      | ((with_reducible refine wpList_load_oneG ?qqg159 3 ?qqx159 ?qqo159 w.heap.size 3 ?qqh159 (.int .i64 z3) Tryz.rObj_int (OA.out.cell 3 _ E3.out) ?_); (case qqg159 => rfl); (case qqo159 => rfl); (case qqh159 => first | (simp; done) | (simp [Act.eval]; done) | (simp only [Act.put]; simp; done) | (simp only [Act.put]; simp [Act.eval]; done)))
      | ((with_reducible refine wpList_load_oneG ?qqg160 3 ?qqx160 ?qqo160 w.heap.size 4 ?qqh160 (.int .i64 z4) Tryz.rObj_int (OA.out.cell 4 _ E4.out) ?_); (case qqg160 => rfl); (case qqo160 => rfl); (case qqh160 => first | (simp; done) | (simp [Act.eval]; done) | (simp only [Act.put]; simp; done) | (simp only [Act.put]; simp [Act.eval]; done)))
      | ((with_reducible refine wpList_load_oneG ?qqg161 4 ?qqx161 ?qqo161 w.heap.size 5 ?qqh161 (.bool z5) Tryz.rObj_bool (OA.out.cell 5 _ E5.out) ?_); (case qqg161 => rfl); (case qqo161 => rfl); (case qqh161 => first | (simp; done) | (simp [Act.eval]; done) | (simp only [Act.put]; simp; done) | (simp only [Act.put]; simp [Act.eval]; done)))
      | ((with_reducible refine wpList_load_oneG ?qqg162 28 ?qqx162 ?qqo162 w.heap.size 6 ?qqh162 ((.slice a6 n6 cp6)) Tryz.rObj_Lstring (OA.out.cell 6 _ E6.out) ?_); (case qqg162 => rfl); (case qqo162 => rfl); (case qqh162 => first | (simp; done) | (simp [Act.eval]; done) | (simp only [Act.put]; simp; done) | (simp only [Act.put]; simp [Act.eval]; done)))
      | ((with_reducible refine wpList_load_rowG ?qqg163 31 ?qqx163 ?qqo163 w.heap.size 7 ?qqh163 y7 Tryz.rObj_impl_Value YZ7.out (OA.out.range 7 _ E7.out) ?_); (case qqg163 => rfl); (case qqo163 => rfl); (case qqh163 => first | (simp; done) | (simp [Act.eval]; done) | (simp only [Act.put]; simp; done) | (simp only [Act.put]; simp [Act.eval]; done)))
      | ((with_reducible refine wpList_load_rowG ?qqg164 31 ?qqx164 ?qqo164 w.heap.size 12 ?qqh164 y8 Tryz.rObj_impl_Value YZ8.out (OA.out.range 12 _ E8.out) ?_); (case qqg164 => rfl); (case qqo164 => rfl); (case qqh164 => first | (simp; done) | (simp [Act.eval]; done) | (simp only [Act.put]; simp; done) | (simp only [Act.put]; simp [Act.eval]; done)))
      )
    refine (HK0.out _ BA.out).mono ?_
    rintro e w0 ⟨rfl, hb0⟩
    have O0 := uhide (OA.out.below hb0)
    have B0 : Hid (Below w.heap.size w w0) := BA.out.trans (hb0.mono BA.out.size)
    clear hb0
    go_wp2_with (first
      | ((with_reducible refine wpList_load_oneG ?qqg172 3 ?qqx172 ?qqo172 w.heap.size 0 ?qqh172 (.int .i64 z0) Tryz.rObj_int (O0.out.cell 0 _ E0.out) ?_); (case qqg172 => rfl); (case qqo172 => rfl); (case qqh172 => first | (simp; done) | (simp [Act.eval]; done) | (simp only [Act.put]; simp; done) | (simp only [Act.put]; simp [Act.eval]; done)))
      | ((with_reducible refine wpList_load_oneG ?qqg173 9 ?qqx173 ?qqo173 w.heap.size 1 ?qqh173 (.string z1) Tryz.rObj_string (O0.out.cell 1 _ E1.out) ?_); (case qqg173 => rfl); (case qqo173 => rfl); (case qqh173 => first | (simp; done) | (simp [Act.eval]; done) | (simp only [Act.put]; simp; done) | (simp only [Act.put]; simp [Act.eval]; done)))
      | ((with_reducible refine wpList_load_oneG ?qqg174 3 ?qqx174 ?qqo174 w.heap.size 2 ?qqh174 (.int .i64 z2) Tryz.rObj_int (O0.out.cell 2 _ E2.out) ?_); (case qqg174 => rfl); (case qqo174 => rfl); (case qqh174 => first | (simp; done) | (simp [Act.eval]; done) | (simp only [Act.put]; simp; done) | (simp only [Act.put]; simp [Act.eval]; done)))
      | ((with_reducible refine wpList_load_oneG ?qqg175 3 ?qqx175 ?qqo175 w.heap.size 3 ?qqh175 (.int .i64 z3) Tryz.rObj_int (O0.out.cell 3 _ E3.out) ?_); (case qqg175 => rfl); (case qqo175 => rfl); (case qqh175 => first | (simp; done) | (simp [Act.eval]; done) | (simp only [Act.put]; simp; done) | (simp only [Act.put]; simp [Act.eval]; done)))
      | ((with_reducible refine wpList_load_oneG ?qqg176 3 ?qqx176 ?qqo176 w.heap.size 4 ?qqh176 (.int .i64 z4) Tryz.rObj_int (O0.out.cell 4 _ E4.out) ?_); (case qqg176 => rfl); (case qqo176 => rfl); (case qqh176 => first | (simp; done) | (simp [Act.eval]; done) | (simp only [Act.put]; simp; done) | (simp only [Act.put]; simp [Act.eval]; done)))
      | ((with_reducible refine wpList_load_oneG ?qqg177 4 ?qqx177 ?qqo177 w.heap.size 5 ?qqh177 (.bool z5) Tryz.rObj_bool (O0.out.cell 5 _ E5.out) ?_); (case qqg177 => rfl); (case qqo177 => rfl); (case qqh177 => first | (simp; done) | (simp [Act.eval]; done) | (simp only [Act.put]; simp; done) | (simp only [Act.put]; simp [Act.eval]; done)))
      | ((with_reducible refine wpList_load_oneG ?qqg178 28 ?qqx178 ?qqo178 w.heap.size 6 ?qqh178 ((.slice a6 n6 cp6)) Tryz.rObj_Lstring (O0.out.cell 6 _ E6.out) ?_); (case qqg178 => rfl); (case qqo178 => rfl); (case qqh178 => first | (simp; done) | (simp [Act.eval]; done) | (simp only [Act.put]; simp; done) | (simp only [Act.put]; simp [Act.eval]; done)))
      | ((with_reducible refine wpList_load_rowG ?qqg179 31 ?qqx179 ?qqo179 w.heap.size 7 ?qqh179 y7 Tryz.rObj_impl_Value YZ7.out (O0.out.range 7 _ E7.out) ?_); (case qqg179 => rfl); (case qqo179 => rfl); (case qqh179 => first | (simp; done) | (simp [Act.eval]; done) | (simp only [Act.put]; simp; done) | (simp only [Act.put]; simp [Act.eval]; done)))
      | ((with_reducible refine wpList_load_rowG ?qqg180 31 ?qqx180 ?qqo180 w.heap.size 12 ?qqh180 y8 Tryz.rObj_impl_Value YZ8.out (O0.out.range 12 _ E8.out) ?_); (case qqg180 => rfl); (case qqo180 => rfl); (case qqh180 => first | (simp; done) | (simp [Act.eval]; done) | (simp only [Act.put]; simp; done) | (simp only [Act.put]; simp [Act.eval]; done)))
      )
    refine (HK1.out _ B0.out).mono ?_
    rintro e w1 ⟨rfl, hb1⟩
    have O1 := uhide (O0.out.below hb1)
    have B1 : Hid (Below w.heap.size w w1) := B0.out.trans (hb1.mono B0.out.size)
    clear hb1
    go_wp2
    go_ret
    exact ⟨ret_bool (by simp), B1.out⟩
  | true =>
  cases k2 with
  | false =>
    go_enter Tryz.func160, Tryz.ntmps160
    go_wp2_with (first
      | ((with_reducible refine wpList_load_oneG ?qqg195 3 ?qqx195 ?qqo195 w.heap.size 0 ?qqh195 (.int .i64 z0) Tryz.rObj_int (OA.out.cell 0 _ E0.out) ?_); (case qqg195 => rfl); (case qqo195 => rfl); (case qqh195 => first | (simp; done) | (simp [Act.eval]; done) | (simp only [Act.put]; simp; done) | (simp only [Act.put]; simp [Act.eval]; done)))
      | ((with_reducible refine wpList_load_oneG ?qqg196 9 ?qqx196 ?qqo196 w.heap.size 1 ?qqh196 (.string z1) Tryz.rObj_string (OA.out.cell 1 _ E1.out) ?_); (case qqg196 => rfl); (case qqo196 => rfl); (case qqh196 => first | (simp; done) | (simp [Act.eval]; done) | (simp only [Act.put]; simp; done) | (simp only [Act.put]; simp [Act.eval]; done)))
      | ((with_reducible refine wpList_load_oneG ?qqg197 3 ?qqx197 ?qqo197 w.heap.size 2 ?qqh197 (.int .i64 z2) Tryz.rObj_int (OA.out.cell 2 _ E2.out) ?_); (case qqg197 => rfl); (case qqo197 => rfl); (case qqh197 => first | (simp; done) | (simp [Act.eval]; done) | (simp only [Act.put]; simp; done) | (simp only [Act.put]; simp [Act.eval]; done)))
      | ((with_reducible refine wpList_load_oneG ?qqg198 3 ?qqx198 ?qqo198 w.heap.size 3 ?qqh198 (.int .i64 z3) Tryz.rObj_int (OA.out.cell 3 _ E3.out) ?_); (case qqg198 => rfl); (case qqo198 => rfl); (case qqh198 => first | (simp; done) | (simp [Act.eval]; done) | (simp only [Act.put]; simp; done) | (simp only [Act.put]; simp [Act.eval]; done)))
      | ((with_reducible refine wpList_load_oneG ?qqg199 3 ?qqx199 ?qqo199 w.heap.size 4 ?qqh199 (.int .i64 z4) Tryz.rObj_int (OA.out.cell 4 _ E4.out) ?_); (case qqg199 => rfl); (case qqo199 => rfl); (case qqh199 => first | (simp; done) | (simp [Act.eval]; done) | (simp only [Act.put]; simp; done) | (simp only [Act.put]; simp [Act.eval]; done)))
      | ((with_reducible refine wpList_load_oneG ?qqg200 4 ?qqx200 ?qqo200 w.heap.size 5 ?qqh200 (.bool z5) Tryz.rObj_bool (OA.out.cell 5 _ E5.out) ?_); (case qqg200 => rfl); (case qqo200 => rfl); (case qqh200 => first | (simp; done) | (simp [Act.eval]; done) | (simp only [Act.put]; simp; done) | (simp only [Act.put]; simp [Act.eval]; done)))
      | ((with_reducible refine wpList_load_oneG ?qqg201 28 ?qqx201 ?qqo201 w.heap.size 6 ?qqh201 ((.slice a6 n6 cp6)) Tryz.rObj_Lstring (OA.out.cell 6 _ E6.out) ?_); (case qqg201 => rfl); (case qqo201 => rfl); (case qqh201 => first | (simp; done) | (simp [Act.eval]; done) | (simp only [Act.put]; simp; done) | (simp only [Act.put]; simp [Act.eval]; done)))
      | ((with_reducible refine wpList_load_rowG ?qqg202 31 ?qqx202 ?qqo202 w.heap.size 7 ?qqh202 y7 Tryz.rObj_impl_Value YZ7.out (OA.out.range 7 _ E7.out) ?_); (case qqg202 => rfl); (case qqo202 => rfl); (case qqh202 => first | (simp; done) | (simp [Act.eval]; done) | (simp only [Act.put]; simp; done) | (simp only [Act.put]; simp [Act.eval]; done)))
      | ((with_reducible refine wpList_load_rowG ?qqg203 31 ?qqx203 ?qqo203 w.heap.size 12 ?qqh203 y8 Tryz.rObj_impl_Value YZ8.out (OA.out.range 12 _ E8.out) ?_); (case qqg203 => rfl); (case qqo203 => rfl); (case qqh203 => first | (simp; done) | (simp [Act.eval]; done) | (simp only [Act.put]; simp; done) | (simp only [Act.put]; simp [Act.eval]; done)))
      )
    refine (HK0.out _ BA.out).mono ?_
    rintro e w0 ⟨rfl, hb0⟩
    have O0 := uhide (OA.out.below hb0)
    have B0 : Hid (Below w.heap.size w w0) := BA.out.trans (hb0.mono BA.out.size)
    clear hb0
    go_wp2_with (first
      | ((with_reducible refine wpList_load_oneG ?qqg211 3 ?qqx211 ?qqo211 w.heap.size 0 ?qqh211 (.int .i64 z0) Tryz.rObj_int (O0.out.cell 0 _ E0.out) ?_); (case qqg211 => rfl); (case qqo211 => rfl); (case qqh211 => first | (simp; done) | (simp [Act.eval]; done) | (simp only [Act.put]; simp; done) | (simp only [Act.put]; simp [Act.eval]; done)))
      | ((with_reducible refine wpList_load_oneG ?qqg212 9 ?qqx212 ?qqo212 w.heap.size 1 ?qqh212 (.string z1) Tryz.rObj_string (O0.out.cell 1 _ E1.out) ?_); (case qqg212 => rfl); (case qqo212 => rfl); (case qqh212 => first | (simp; done) | (simp [Act.eval]; done) | (simp only [Act.put]; simp; done) | (simp only [Act.put]; simp [Act.eval]; done)))
      | ((with_reducible refine wpList_load_oneG ?qqg213 3 ?qqx213 ?qqo213 w.heap.size 2 ?qqh213 (.int .i64 z2) Tryz.rObj_int (O0.out.cell 2 _ E2.out) ?_); (case qqg213 => rfl); (case qqo213 => rfl); (case qqh213 => first | (simp; done) | (simp [Act.eval]; done) | (simp only [Act.put]; simp; done) | (simp only [Act.put]; simp [Act.eval]; done)))
      | ((with_reducible refine wpList_load_oneG ?qqg214 3 ?qqx214 ?qqo214 w.heap.size 3 ?qqh214 (.int .i64 z3) Tryz.rObj_int (O0.out.cell 3 _ E3.out) ?_); (case qqg214 => rfl); (case qqo214 => rfl); (case qqh214 => first | (simp; done) | (simp [Act.eval]; done) | (simp only [Act.put]; simp; done) | (simp only [Act.put]; simp [Act.eval]; done)))
      | ((with_reducible refine wpList_load_oneG ?qqg215 3 ?qqx215 ?qqo215 w.heap.size 4 ?qqh215 (.int .i64 z4) Tryz.rObj_int (O0.out.cell 4 _ E4.out) ?_); (case qqg215 => rfl); (case qqo215 => rfl); (case qqh215 => first | (simp; done) | (simp [Act.eval]; done) | (simp only [Act.put]; simp; done) | (simp only [Act.put]; simp [Act.eval]; done)))
      | ((with_reducible refine wpList_load_oneG ?qqg216 4 ?qqx216 ?qqo216 w.heap.size 5 ?qqh216 (.bool z5) Tryz.rObj_bool (O0.out.cell 5 _ E5.out) ?_); (case qqg216 => rfl); (case qqo216 => rfl); (case qqh216 => first | (simp; done) | (simp [Act.eval]; done) | (simp only [Act.put]; simp; done) | (simp only [Act.put]; simp [Act.eval]; done)))
      | ((with_reducible refine wpList_load_oneG ?qqg217 28 ?qqx217 ?qqo217 w.heap.size 6 ?qqh217 ((.slice a6 n6 cp6)) Tryz.rObj_Lstring (O0.out.cell 6 _ E6.out) ?_); (case qqg217 => rfl); (case qqo217 => rfl); (case qqh217 => first | (simp; done) | (simp [Act.eval]; done) | (simp only [Act.put]; simp; done) | (simp only [Act.put]; simp [Act.eval]; done)))
      | ((with_reducible refine wpList_load_rowG ?qqg218 31 ?qqx218 ?qqo218 w.heap.size 7 ?qqh218 y7 Tryz.rObj_impl_Value YZ7.out (O0.out.range 7 _ E7.out) ?_); (case qqg218 => rfl); (case qqo218 => rfl); (case qqh218 => first | (simp; done) | (simp [Act.eval]; done) | (simp only [Act.put]; simp; done) | (simp only [Act.put]; simp [Act.eval]; done)))
      | ((with_reducible refine wpList_load_rowG ?qqg219 31 ?qqx219 ?qqo219 w.heap.size 12 ?qqh219 y8 Tryz.rObj_impl_Value YZ8.out (O0.out.range 12 _ E8.out) ?_); (case qqg219 => rfl); (case qqo219 => rfl); (case qqh219 => first | (simp; done) | (simp [Act.eval]; done) | (simp only [Act.put]; simp; done) | (simp only [Act.put]; simp [Act.eval]; done)))
      )
    refine (HK1.out _ B0.out).mono ?_
    rintro e w1 ⟨rfl, hb1⟩
    have O1 := uhide (O0.out.below hb1)
    have B1 : Hid (Below w.heap.size w w1) := B0.out.trans (hb1.mono B0.out.size)
    clear hb1
    go_wp2_with (first
      | ((with_reducible refine wpList_load_oneG ?qqg227 3 ?qqx227 ?qqo227 w.heap.size 0 ?qqh227 (.int .i64 z0) Tryz.rObj_int (O1.out.cell 0 _ E0.out) ?_); (case qqg227 => rfl); (case qqo227 => rfl); (case qqh227 => first | (simp; done) | (simp [Act.eval]; done) | (simp only [Act.put]; simp; done) | (simp only [Act.put]; simp [Act.eval]; done)))
      | ((with_reducible refine wpList_load_oneG ?qqg228 9 ?qqx228 ?qqo228 w.heap.size 1 ?qqh228 (.string z1) Tryz.rObj_string (O1.out.cell 1 _ E1.out) ?_); (case qqg228 => rfl); (case qqo228 => rfl); (case qqh228 => first | (simp; done) | (simp [Act.eval]; done) | (simp only [Act.put]; simp; done) | (simp only [Act.put]; simp [Act.eval]; done)))
      | ((with_reducible refine wpList_load_oneG ?qqg229 3 ?qqx229 ?qqo229 w.heap.size 2 ?qqh229 (.int .i64 z2) Tryz.rObj_int (O1.out.cell 2 _ E2.out) ?_); (case qqg229 => rfl); (case qqo229 => rfl); (case qqh229 => first | (simp; done) | (simp [Act.eval]; done) | (simp only [Act.put]; simp; done) | (simp only [Act.put]; simp [Act.eval]; done)))
      | ((with_reducible refine wpList_load_oneG ?qqg230 3 ?qqx230 ?qqo230 w.heap.size 3 ?qqh230 (.int .i64 z3) Tryz.rObj_int (O1.out.cell 3 _ E3.out) ?_); (case qqg230 => rfl); (case qqo230 => rfl); (case qqh230 => first | (simp; done) | (simp [Act.eval]; done) | (simp only [Act.put]; simp; done) | (simp only [Act.put]; simp [Act.eval]; done)))
      | ((with_reducible refine wpList_load_oneG ?qqg231 3 ?qqx231 ?qqo231 w.heap.size 4 ?qqh231 (.int .i64 z4) Tryz.rObj_int (O1.out.cell 4 _ E4.out) ?_); (case qqg231 => rfl); (case qqo231 => rfl); (case qqh231 => first | (simp; done) | (simp [Act.eval]; done) | (simp only [Act.put]; simp; done) | (simp only [Act.put]; simp [Act.eval]; done)))
      | ((with_reducible refine wpList_load_oneG ?qqg232 4 ?qqx232 ?qqo232 w.heap.size 5 ?qqh232 (.bool z5) Tryz.rObj_bool (O1.out.cell 5 _ E5.out) ?_); (case qqg232 => rfl); (case qqo232 => rfl); (case qqh232 => first | (simp; done) | (simp [Act.eval]; done) | (simp only [Act.put]; simp; done) | (simp only [Act.put]; simp [Act.eval]; done)))
      | ((with_reducible refine wpList_load_oneG ?qqg233 28 ?qqx233 ?qqo233 w.heap.size 6 ?qqh233 ((.slice a6 n6 cp6)) Tryz.rObj_Lstring (O1.out.cell 6 _ E6.out) ?_); (case qqg233 => rfl); (case qqo233 => rfl); (case qqh233 => first | (simp; done) | (simp [Act.eval]; done) | (simp only [Act.put]; simp; done) | (simp only [Act.put]; simp [Act.eval]; done)))
      | ((with_reducible refine wpList_load_rowG ?qqg234 31 ?qqx234 ?qqo234 w.heap.size 7 ?qqh234 y7 Tryz.rObj_impl_Value YZ7.out (O1.out.range 7 _ E7.out) ?_); (case qqg234 => rfl); (case qqo234 => rfl); (case qqh234 => first | (simp; done) | (simp [Act.eval]; done) | (simp only [Act.put]; simp; done) | (simp only [Act.put]; simp [Act.eval]; done)))
      | ((with_reducible refine wpList_load_rowG ?qqg235 31 ?qqx235 ?qqo235 w.heap.size 12 ?qqh235 y8 Tryz.rObj_impl_Value YZ8.out (O1.out.range 12 _ E8.out) ?_); (case qqg235 => rfl); (case qqo235 => rfl); (case qqh235 => first | (simp; done) | (simp [Act.eval]; done) | (simp only [Act.put]; simp; done) | (simp only [Act.put]; simp [Act.eval]; done)))
      )
    refine (HK2.out _ B1.out).mono ?_
    rintro e w2 ⟨rfl, hb2⟩
    have O2 := uhide (O1.out.below hb2)
    have B2 : Hid (Below w.heap.size w w2) := B1.out.trans (hb2.mono B1.out.size)
    clear hb2
    go_wp2
    go_ret
    exact ⟨ret_bool (by simp), B2.out⟩
  | true =>
  cases k3 with
  | false =>
    go_enter Tryz.func160, Tryz.ntmps160
    go_wp2_with (first
      | ((with_reducible refine wpList_load_oneG ?qqg250 3 ?qqx250 ?qqo250 w.heap.size 0 ?qqh250 (.int .i64 z0) Tryz.rObj_int (OA.out.cell 0 _ E0.out) ?_); (case qqg250 => rfl); (case qqo250 => rfl); (case qqh250 => first | (simp; done) | (simp [Act.eval]; done) | (simp only [Act.put]; simp; done) | (simp only [Act.put]; simp [Act.eval]; done)))
      | ((with_reducible refine wpList_load_oneG ?qqg251 9 ?qqx251 ?qqo251 w.heap.size 1 ?qqh251 (.string z1) Tryz.rObj_string (OA.out.cell 1 _ E1.out) ?_); (case qqg251 => rfl); (case qqo251 => rfl); (case qqh251 => first | (simp; done) | (simp [Act.eval]; done) | (simp only [Act.put]; simp; done) | (simp only [Act.put]; simp [Act.eval]; done)))
      | ((with_reducible refine wpList_load_oneG ?qqg252 3 ?qqx252 ?qqo252 w.heap.size 2 ?qqh252 (.int .i64 z2) Tryz.rObj_int (OA.out.cell 2 _ E2.out) ?_); (case qqg252 => rfl); (case qqo252 => rfl); (case qqh252 => first | (simp; done) | (simp [Act.eval]; done) | (simp only [Act.put]; simp; done) | (simp only [Act.put]; simp [Act.eval]; done)))
      | ((with_reducible refine wpList_load_oneG ?qqg253 3 ?qqx253 ?qqo253 w.heap.size 3 ?qqh253 (.int .i64 z3) Tryz.rObj_int (OA.out.cell 3 _ E3.out) ?_); (case qqg253 => rfl); (case qqo253 => rfl); (case qqh253 => first | (simp; done) | (simp [Act.eval]; done) | (simp only [Act.put]; simp; done) | (simp only [Act.put]; simp [Act.eval]; done)))
      | ((with_reducible refine wpList_load_oneG ?qqg254 3 ?qqx254 ?qqo254 w.heap.size 4 ?qqh254 (.int .i64 z4) Tryz.rObj_int (OA.out.cell 4 _ E4.out) ?_); (case qqg254 => rfl); (case qqo254 => rfl); (case qqh254 => first | (simp; done) | (simp [Act.eval]; done) | (simp only [Act.put]; simp; done) | (simp only [Act.put]; simp [Act.eval]; done)))
      | ((with_reducible refine wpList_load_oneG ?qqg255 4 ?qqx255 ?qqo255 w.heap.size 5 ?qqh255 (.bool z5) Tryz.rObj_bool (OA.out.cell 5 _ E5.out) ?_); (case qqg255 => rfl); (case qqo255 => rfl); (case qqh255 => first | (simp; done) | (simp [Act.eval]; done) | (simp only [Act.put]; simp; done) | (simp only [Act.put]; simp [Act.eval]; done)))
      | ((with_reducible refine wpList_load_oneG ?qqg256 28 ?qqx256 ?qqo256 w.heap.size 6 ?qqh256 ((.slice a6 n6 cp6)) Tryz.rObj_Lstring (OA.out.cell 6 _ E6.out) ?_); (case qqg256 => rfl); (case qqo256 => rfl); (case qqh256 => first | (simp; done) | (simp [Act.eval]; done) | (simp only [Act.put]; simp; done) | (simp only [Act.put]; simp [Act.eval]; done)))
      | ((with_reducible refine wpList_load_rowG ?qqg257 31 ?qqx257 ?qqo257 w.heap.size 7 ?qqh257 y7 Tryz.rObj_impl_Value YZ7.out (OA.out.range 7 _ E7.out) ?_); (case qqg257 => rfl); (case qqo257 => rfl); (case qqh257 => first | (simp; done) | (simp [Act.eval]; done) | (simp only [Act.put]; simp; done) | (simp only [Act.put]; simp [Act.eval]; done)))
      | ((with_reducible refine wpList_load_rowG ?qqg258 31 ?qqx258 ?qqo258 w.heap.size 12 ?qqh258 y8 Tryz.rObj_impl_Value YZ8.out (OA.out.range 12 _ E8.out) ?_); (case qqg258 => rfl); (case qqo258 => rfl); (case qqh258 => first | (simp; done) | (simp [Act.eval]; done) | (simp only [Act.put]; simp; done) | (simp only [Act.put]; simp [Act.eval]; done)))
      )
    refine (HK0.out _ BA.out).mono ?_
    rintro e w0 ⟨rfl, hb0⟩
    have O0 := uhide (OA.out.below hb0)
    have B0 : Hid (Below w.heap.size w w0) := BA.out.trans (hb0.mono BA.out.size)
    clear hb0
    go_wp2_with (first
      | ((with_reducible refine wpList_load_oneG ?qqg266 3 ?qqx266 ?qqo266 w.heap.size 0 ?qqh266 (.int .i64 z0) Tryz.rObj_int (O0.out.cell 0 _ E0.out) ?_); (case qqg266 => rfl); (case qqo266 => rfl); (case qqh266 => first | (simp; done) | (simp [Act.eval]; done) | (simp only [Act.put]; simp; done) | (simp only [Act.put]; simp [Act.eval]; done)))
      | ((with_reducible refine wpList_load_oneG ?qqg267 9 ?qqx267 ?qqo267 w.heap.size 1 ?qqh267 (.string z1) Tryz.rObj_string (O0.out.cell 1 _ E1.out) ?_); (case qqg267 => rfl); (case qqo267 => rfl); (case qqh267 => first | (simp; done) | (simp [Act.eval]; done) | (simp only [Act.put]; simp; done) | (simp only [Act.put]; simp [Act.eval]; done)))
      | ((with_reducible refine wpList_load_oneG ?qqg268 3 ?qqx268 ?qqo268 w.heap.size 2 ?qqh268 (.int .i64 z2) Tryz.rObj_int (O0.out.cell 2 _ E2.out) ?_); (case qqg268 => rfl); (case qqo268 => rfl); (case qqh268 => first | (simp; done) | (simp [Act.eval]; done) | (simp only [Act.put]; simp; done) | (simp only [Act.put]; simp [Act.eval]; done)))
      | ((with_reducible refine wpList_load_oneG ?qqg269 3 ?qqx269 ?qqo269 w.heap.size 3 ?qqh269 (.int .i64 z3) Tryz.rObj_int (O0.out.cell 3 _ E3.out) ?_); (case qqg269 => rfl); (case qqo269 => rfl); (case qqh269 => first | (simp; done) | (simp [Act.eval]; done) | (simp only [Act.put]; simp; done) | (simp only [Act.put]; simp [Act.eval]; done)))
      | ((with_reducible refine wpList_load_oneG ?qqg270 3 ?qqx270 ?qqo270 w.heap.size 4 ?qqh270 (.int .i64 z4) Tryz.rObj_int (O0.out.cell 4 _ E4.out) ?_); (case qqg270 => rfl); (case qqo270 => rfl); (case qqh270 => first | (simp; done) | (simp [Act.eval]; done) | (simp only [Act.put]; simp; done) | (simp only [Act.put]; simp [Act.eval]; done)))
      | ((with_reducible refine wpList_load_oneG ?qqg271 4 ?qqx271 ?qqo271 w.heap.size 5 ?qqh271 (.bool z5) Tryz.rObj_bool (O0.out.cell 5 _ E5.out) ?_); (case qqg271 => rfl); (case qqo271 => rfl); (case qqh271 => first | (simp; done) | (simp [Act.eval]; done) | (simp only [Act.put]; simp; done) | (simp only [Act.put]; simp [Act.eval]; done)))
      | ((with_reducible refine wpList_load_oneG ?qqg272 28 ?qqx272 ?qqo272 w.heap.size 6 ?qqh272 ((.slice a6 n6 cp6)) Tryz.rObj_Lstring (O0.out.cell 6 _ E6.out) ?_); (case qqg272 => rfl); (case qqo272 => rfl); (case qqh272 => first | (simp; done) | (simp [Act.eval]; done) | (simp only [Act.put]; simp; done) | (simp only [Act.put]; simp [Act.eval]; done)))
      | ((with_reducible refine wpList_load_rowG ?qqg273 31 ?qqx273 ?qqo273 w.heap.size 7 ?qqh273 y7 Tryz.rObj_impl_Value YZ7.out (O0.out.range 7 _ E7.out) ?_); (case qqg273 => rfl); (case qqo273 => rfl); (case qqh273 => first | (simp; done) | (simp [Act.eval]; done) | (simp only [Act.put]; simp; done) | (simp only [Act.put]; simp [Act.eval]; done)))
      | ((with_reducible refine wpList_load_rowG ?qqg274 31 ?qqx274 ?qqo274 w.heap.size 12 ?qqh274 y8 Tryz.rObj_impl_Value YZ8.out (O0.out.range 12 _ E8.out) ?_); (case qqg274 => rfl); (case qqo274 => rfl); (case qqh274 => first | (simp; done) | (simp [Act.eval]; done) | (simp only [Act.put]; simp; done) | (simp only [Act.put]; simp [Act.eval]; done)))
      )
    refine (HK1.out _ B0.out).mono ?_
    rintro e w1 ⟨rfl, hb1⟩
    have O1 := uhide (O0.out.below hb1)
    have B1 : Hid (Below w.heap.size w w1) := B0.out.trans (hb1.mono B0.out.size)
    clear hb1
    go_wp2_with (first
      | ((with_reducible refine wpList_load_oneG ?qqg282 3 ?qqx282 ?qqo282 w.heap.size 0 ?qqh282 (.int .i64 z0) Tryz.rObj_int (O1.out.cell 0 _ E0.out) ?_); (case qqg282 => rfl); (case qqo282 => rfl); (case qqh282 => first | (simp; done) | (simp [Act.eval]; done) | (simp only [Act.put]; simp; done) | (simp only [Act.put]; simp [Act.eval]; done)))
      | ((with_reducible refine wpList_load_oneG ?qqg283 9 ?qqx283 ?qqo283 w.heap.size 1 ?qqh283 (.string z1) Tryz.rObj_string (O1.out.cell 1 _ E1.out) ?_); (case qqg283 => rfl); (case qqo283 => rfl); (case qqh283 => first | (simp; done) | (simp [Act.eval]; done) | (simp only [Act.put]; simp; done) | (simp only [Act.put]; simp [Act.eval]; done)))
      | ((with_reducible refine wpList_load_oneG ?qqg284 3 ?qqx284 ?qqo284 w.heap.size 2 ?qqh284 (.int .i64 z2) Tryz.rObj_int (O1.out.cell 2 _ E2.out) ?_); (case qqg284 => rfl); (case qqo284 => rfl); (case qqh284 => first | (simp; done) | (simp [Act.eval]; done) | (simp only [Act.put]; simp; done) | (simp only [Act.put]; simp [Act.eval]; done)))
      | ((with_reducible refine wpList_load_oneG ?qqg285 3 ?qqx285 ?qqo285 w.heap.size 3 ?qqh285 (.int .i64 z3) Tryz.rObj_int (O1.out.cell 3 _ E3.out) ?_); (case qqg285 => rfl); (case qqo285 => rfl); (case qqh285 => first | (simp; done) | (simp [Act.eval]; done) | (simp only [Act.put]; simp; done) | (simp only [Act.put]; simp [Act.eval]; done)))
      | ((with_reducible refine wpList_load_oneG ?qqg286 3 ?qqx286 ?qqo286 w.heap.size 4 ?qqh286 (.int .i64 z4) Tryz.rObj_int (O1.out.cell 4 _ E4.out) ?_); (case qqg286 => rfl); (case qqo286 => rfl); (case qqh286 => first | (simp; done) | (simp [Act.eval]; done) | (simp only [Act.put]; simp; done) | (simp only [Act.put]; simp [Act.eval]; done)))
      | ((with_reducible refine wpList_load_oneG ?qqg287 4 ?qqx287 ?qqo287 w.heap.size 5 ?qqh287 (.bool z5) Tryz.rObj_bool (O1.out.cell 5 _ E5.out) ?_); (case qqg287 => rfl); (case qqo287 => rfl); (case qqh287 => first | (simp; done) | (simp [Act.eval]; done) | (simp only [Act.put]; simp; done) | (simp only [Act.put]; simp [Act.eval]; done)))
      | ((with_reducible refine wpList_load_oneG ?qqg288 28 ?qqx288 ?qqo288 w.heap.size 6 ?qqh288 ((.slice a6 n6 cp6)) Tryz.rObj_Lstring (O1.out.cell 6 _ E6.out) ?_); (case qqg288 => rfl); (case qqo288 => rfl); (case qqh288 => first | (simp; done) | (simp [Act.eval]; done) | (simp only [Act.put]; simp; done) | (simp only [Act.put]; simp [Act.eval]; done)))
      | ((with_reducible refine wpList_load_rowG ?qqg289 31 ?qqx289 ?qqo289 w.heap.size 7 ?qqh289 y7 Tryz.rObj_impl_Value YZ7.out (O1.out.range 7 _ E7.out) ?_); (case qqg289 => rfl); (case qqo289 => rfl); (case qqh289 => first | (simp; done) | (simp [Act.eval]; done) | (simp only [Act.put]; simp; done) | (simp only [Act.put]; simp [Act.eval]; done)))
      | ((with_reducible refine wpList_load_rowG ?qqg290 31 ?qqx290 ?qqo290 w.heap.size 12 ?qqh290 y8 Tryz.rObj_impl_Value YZ8.out (O1.out.range 12 _ E8.out) ?_); (case qqg290 => rfl); (case qqo290 => rfl); (case qqh290 => first | (simp; done) | (simp [Act.eval]; done) | (simp only [Act.put]; simp; done) | (simp only [Act.put]; simp [Act.eval]; done)))
      )
    refine (HK2.out _ B1.out).mono ?_
    rintro e w2 ⟨rfl, hb2⟩
    have O2 := uhide (O1.out.below hb2)
    have B2 : Hid (Below w.heap.size w w2) := B1.out.trans (hb2.mono B1.out.size)
    clear hb2
    go_wp2_with (first
      | ((with_reducible refine wpList_load_oneG ?qqg298 3 ?qqx298 ?qqo298 w.heap.size 0 ?qqh298 (.int .i64 z0) Tryz.rObj_int (O2.out.cell 0 _ E0.out) ?_); (case qqg298 => rfl); (case qqo298 => rfl); (case qqh298 => first | (simp; done) | (simp [Act.eval]; done) | (simp only [Act.put]; simp; done) | (simp only [Act.put]; simp [Act.eval]; done)))
      | ((with_reducible refine wpList_load_oneG ?qqg299 9 ?qqx299 ?qqo299 w.heap.size 1 ?qqh299 (.string z1) Tryz.rObj_string (O2.out.cell 1 _ E1.out) ?_); (case qqg299 => rfl); (case qqo299 => rfl); (case qqh299 => first | (simp; done) | (simp [Act.eval]; done) | (simp only [Act.put]; simp; done) | (simp only [Act.put]; simp [Act.eval]; done)))
      | ((with_reducible refine wpList_load_oneG ?qqg300 3 ?qqx300 ?qqo300 w.heap.size 2 ?qqh300 (.int .i64 z2) Tryz.rObj_int (O2.out.cell 2 _ E2.out) ?_); (case qqg300 => rfl); (case qqo300 => rfl); (case qqh300 => first | (simp; done) | (simp [Act.eval]; done) | (simp only [Act.put]; simp; done) | (simp only [Act.put]; simp [Act.eval]; done)))
      | ((with_reducible refine wpList_load_oneG ?qqg301 3 ?qqx301 ?qqo301 w.heap.size 3 ?qqh301 (.int .i64 z3) Tryz.rObj_int (O2.out.cell 3 _ E3.out) ?_); (case qqg301 => rfl); (case qqo301 => rfl); (case qqh301 => first | (simp; done) | (simp [Act.eval]; done) | (simp only [Act.put]; simp; done) | (simp only [Act.put]; simp [Act.eval]; done)))
      | ((with_reducible refine wpList_load_oneG ?qqg302 3 ?qqx302 ?qqo302 w.heap.size 4 ?qqh302 (.int .i64 z4) Tryz.rObj_int (O2.out.cell 4 _ E4.out) ?_); (case qqg302 => rfl); (case qqo302 => rfl); (case qqh302 => first | (simp; done) | (simp [Act.eval]; done) | (simp only [Act.put]; simp; done) | (simp only [Act.put]; simp [Act.eval]; done)))
      | ((with_reducible refine wpList_load_oneG ?qqg303 4 ?qqx303 ?qqo303 w.heap.size 5 ?qqh303 (.bool z5) Tryz.rObj_bool (O2.out.cell 5 _ E5.out) ?_); (case qqg303 => rfl); (case qqo303 => rfl); (case qqh303 => first | (simp; done) | (simp [Act.eval]; done) | (simp only [Act.put]; simp; done) | (simp only [Act.put]; simp [Act.eval]; done)))
      | ((with_reducible refine wpList_load_oneG ?qqg304 28 ?qqx304 ?qqo304 w.heap.size 6 ?qqh304 ((.slice a6 n6 cp6)) Tryz.rObj_Lstring (O2.out.cell 6 _ E6.out) ?_); (case qqg304 => rfl); (case qqo304 => rfl); (case qqh304 => first | (simp; done) | (simp [Act.eval]; done) | (simp only [Act.put]; simp; done) | (simp only [Act.put]; simp [Act.eval]; done)))
      | ((with_reducible refine wpList_load_rowG ?qqg305 31 ?qqx305 ?qqo305 w.heap.size 7 ?qqh305 y7 Tryz.rObj_impl_Value YZ7.out (O2.out.range 7 _ E7.out) ?_); (case qqg305 => rfl); (case qqo305 => rfl); (case qqh305 => first | (simp; done) | (simp [Act.eval]; done) | (simp only [Act.put]; simp; done) | (simp only [Act.put]; simp [Act.eval]; done)))
      | ((with_reducible refine wpList_load_rowG ?qqg306 31 ?qqx306 ?qqo306 w.heap.size 12 ?qqh306 y8 Tryz.rObj_impl_Value YZ8.out (O2.out.range 12 _ E8.out) ?_); (case qqg306 => rfl); (case qqo306 => rfl); (case qqh306 => first | (simp; done) | (simp [Act.eval]; done) | (simp only [Act.put]; simp; done) | (simp only [Act.put]; simp [Act.eval]; done)))
      )
    refine (HK3.out _ B2.out).mono ?_
    rintro e w3 ⟨rfl, hb3⟩
    have O3 := uhide (O2.out.below hb3)
    have B3 : Hid (Below w.heap.size w w3) := B2.out.trans (hb3.mono B2.out.size)
    clear hb3
    go_wp2
    go_ret
    exact ⟨ret_bool (by simp), B3.out⟩
  | true =>
  cases k4 with
  | false =>
    go_enter Tryz.func160, Tryz.ntmps160
    go_wp2_with (first
      | ((with_reducible refine wpList_load_oneG ?qqg321 3 ?qqx321 ?qqo321 w.heap.size 0 ?qqh321 (.int .i64 z0) Tryz.rObj_int (OA.out.cell 0 _ E0.out) ?_); (case qqg321 => rfl); (case qqo321 => rfl); (case qqh321 => first | (simp; done) | (simp [Act.eval]; done) | (simp only [Act.put]; simp; done) | (simp only [Act.put]; simp [Act.eval]; done)))
      | ((with_reducible refine wpList_load_oneG ?qqg322 9 ?qqx322 ?qqo322 w.heap.size 1 ?qqh322 (.string z1) Tryz.rObj_string (OA.out.cell 1 _ E1.out) ?_); (case qqg322 => rfl); (case qqo322 => rfl); (case qqh322 => first | (simp; done) | (simp [Act.eval]; done) | (simp only [Act.put]; simp; done) | (simp only [Act.put]; simp [Act.eval]; done)))
      | ((with_reducible refine wpList_load_oneG ?qqg323 3 ?qqx323 ?qqo323 w.heap.size 2 ?qqh323 (.int .i64 z2) Tryz.rObj_int (OA.out.cell 2 _ E2.out) ?_); (case qqg323 => rfl); (case qqo323 => rfl); (case qqh323 => first | (simp; done) | (simp [Act.eval]; done) | (simp only [Act.put]; simp; done) | (simp only [Act.put]; simp [Act.eval]; done)))
      | ((with_reducible refine wpList_load_oneG ?qqg324 3 ?qqx324 ?qqo324 w.heap.size 3 ?qqh324 (.int .i64 z3) Tryz.rObj_int (OA.out.cell 3 _ E3.out) ?_); (case qqg324 => rfl); (case qqo324 => rfl); (case qqh324 => first | (simp; done) | (simp [Act.eval]; done) | (simp only [Act.put]; simp; done) | (simp only [Act.put]; simp [Act.eval]; done)))
      | ((with_reducible refine wpList_load_oneG ?qqg325 3 ?qqx325 ?qqo325 w.heap.size 4 ?qqh325 (.int .i64 z4) Tryz.rObj_int (OA.out.cell 4 _ E4.out) ?_); (case qqg325 => rfl); (case qqo325 => rfl); (case qqh325 => first | (simp; done) | (simp [Act.eval]; done) | (simp only [Act.put]; simp; done) | (simp only [Act.put]; simp [Act.eval]; done)))
      | ((with_reducible refine wpList_load_oneG ?qqg326 4 ?qqx326 ?qqo326 w.heap.size 5 ?qqh326 (.bool z5) Tryz.rObj_bool (OA.out.cell 5 _ E5.out) ?_); (case qqg326 => rfl); (case qqo326 => rfl); (case qqh326 => first | (simp; done) | (simp [Act.eval]; done) | (simp only [Act.put]; simp; done) | (simp only [Act.put]; simp [Act.eval]; done)))
      | ((with_reducible refine wpList_load_oneG ?qqg327 28 ?qqx327 ?qqo327 w.heap.size 6 ?qqh327 ((.slice a6 n6 cp6)) Tryz.rObj_Lstring (OA.out.cell 6 _ E6.out) ?_); (case qqg327 => rfl); (case qqo327 => rfl); (case qqh327 => first | (simp; done) | (simp [Act.eval]; done) | (simp only [Act.put]; simp; done) | (simp only [Act.put]; simp [Act.eval]; done)))
      | ((with_reducible refine wpList_load_rowG ?qqg328 31 ?qqx328 ?qqo328 w.heap.size 7 ?qqh328 y7 Tryz.rObj_impl_Value YZ7.out (OA.out.range 7 _ E7.out) ?_); (case qqg328 => rfl); (case qqo328 => rfl); (case qqh328 => first | (simp; done) | (simp [Act.eval]; done) | (simp only [Act.put]; simp; done) | (simp only [Act.put]; simp [Act.eval]; done)))
      | ((with_reducible refine wpList_load_rowG ?qqg329 31 ?qqx329 ?qqo329 w.heap.size 12 ?qqh329 y8 Tryz.rObj_impl_Value YZ8.out (OA.out.range 12 _ E8.out) ?_); (case qqg329 => rfl); (case qqo329 => rfl); (case qqh329 => first | (simp; done) | (simp [Act.eval]; done) | (simp only [Act.put]; simp; done) | (simp only [Act.put]; simp [Act.eval]; done)))
      )
    refine (HK0.out _ BA.out).mono ?_
    rintro e w0 ⟨rfl, hb0⟩
    have O0 := uhide (OA.out.below hb0)
    have B0 : Hid (Below w.heap.size w w0) := BA.out.trans (hb0.mono BA.out.size)
    clear hb0
    go_wp2_with (first
      | ((with_reducible refine wpList_load_oneG ?qqg337 3 ?qqx337 ?qqo337 w.heap.size 0 ?qqh337 (.int .i64 z0) Tryz.rObj_int (O0.out.cell 0 _ E0.out) ?_); (case qqg337 => rfl); (case qqo337 => rfl); (case qqh337 => first | (simp; done) | (simp [Act.eval]; done) | (simp only [Act.put]; simp; done) | (simp only [Act.put]; simp [Act.eval]; done)))
      | ((with_reducible refine wpList_load_oneG ?qqg338 9 ?qqx338 ?qqo338 w.heap.size 1 ?qqh338 (.string z1) Tryz.rObj_string (O0.out.cell 1 _ E1.out) ?_); (case qqg338 => rfl); (case qqo338 => rfl); (case qqh338 => first | (simp; done) | (simp [Act.eval]; done) | (simp only [Act.put]; simp; done) | (simp only [Act.put]; simp [Act.eval]; done)))
      | ((with_reducible refine wpList_load_oneG ?qqg339 3 ?qqx339 ?qqo339 w.heap.size 2 ?qqh339 (.int .i64 z2) Tryz.rObj_int (O0.out.cell 2 _ E2.out) ?_); (case qqg339 => rfl); (case qqo339 => rfl); (case qqh339 => first | (simp; done) | (simp [Act.eval]; done) | (simp only [Act.put]; simp; done) | (simp only [Act.put]; simp [Act.eval]; done)))
      | ((with_reducible refine wpList_load_oneG ?qqg340 3 ?qqx340 ?qqo340 w.heap.size 3 ?qqh340 (.int .i64 z3) Tryz.rObj_int (O0.out.cell 3 _ E3.out) ?_); (case qqg340 => rfl); (case qqo340 => rfl); (case qqh340 => first | (simp; done) | (simp [Act.eval]; done) | (simp only [Act.put]; simp; done) | (simp only [Act.put]; simp [Act.eval]; done)))
      | ((with_reducible refine wpList_load_oneG ?qqg341 3 ?qqx341 ?qqo341 w.heap.size 4 ?qqh341 (.int .i64 z4) Tryz.rObj_int (O0.out.cell 4 _ E4.out) ?_); (case qqg341 => rfl); (case qqo341 => rfl); (case qqh341 => first | (simp; done) | (simp [Act.eval]; done) | (simp only [Act.put]; simp; done) | (simp only [Act.put]; simp [Act.eval]; done)))
      | ((with_reducible refine wpList_load_oneG ?qqg342 4 ?qqx342 ?qqo342 w.heap.size 5 ?qqh342 (.bool z5) Tryz.rObj_bool (O0.out.cell 5 _ E5.out) ?_); (case qqg342 => rfl); (case qqo342 => rfl); (case qqh342 => first | (simp; done) | (simp [Act.eval]; done) | (simp only [Act.put]; simp; done) | (simp only [Act.put]; simp [Act.eval]; done)))
      | ((with_reducible refine wpList_load_oneG ?qqg343 28 ?qqx343 ?qqo343 w.heap.size 6 ?qqh343 ((.slice a6 n6 cp6)) Tryz.rObj_Lstring (O0.out.cell 6 _ E6.out) ?_); (case qqg343 => rfl); (case qqo343 => rfl); (case qqh343 => first | (simp; done) | (simp [Act.eval]; done) | (simp only [Act.put]; simp; done) | (simp only [Act.put]; simp [Act.eval]; done)))
      | ((with_reducible refine wpList_load_rowG ?qqg344 31 ?qqx344 ?qqo344 w.heap.size 7 ?qqh344 y7 Tryz.rObj_impl_Value YZ7.out (O0.out.range 7 _ E7.out) ?_); (case qqg344 => rfl); (case qqo344 => rfl); (case qqh344 => first | (simp; done) | (simp [Act.eval]; done) | (simp only [Act.put]; simp; done) | (simp only [Act.put]; simp [Act.eval]; done)))
      | ((with_reducible refine wpList_load_rowG ?qqg345 31 ?qqx345 ?qqo345 w.heap.size 12 ?qqh345 y8 Tryz.rObj_impl_Value YZ8.out (O0.out.range 12 _ E8.out) ?_); (case qqg345 => rfl); (case qqo345 => rfl); (case qqh345 => first | (simp; done) | (simp [Act.eval]; done) | (simp only [Act.put]; simp; done) | (simp only [Act.put]; simp [Act.eval]; done)))
      )
    refine (HK1.out _ B0.out).mono ?_
    rintro e w1 ⟨rfl, hb1⟩
    have O1 := uhide (O0.out.below hb1)
    have B1 : Hid (Below w.heap.size w w1) := B0.out.trans (hb1.mono B0.out.size)
    clear hb1
    go_wp2_with (first
      | ((with_reducible refine wpList_load_oneG ?qqg353 3 ?qqx353 ?qqo353 w.heap.size 0 ?qqh353 (.int .i64 z0) Tryz.rObj_int (O1.out.cell 0 _ E0.out) ?_); (case qqg353 => rfl); (case qqo353 => rfl); (case qqh353 => first | (simp; done) | (simp [Act.eval]; done) | (simp only [Act.put]; simp; done) | (simp only [Act.put]; simp [Act.eval]; done)))
      | ((with_reducible refine wpList_load_oneG ?qqg354 9 ?qqx354 ?qqo354 w.heap.size 1 ?qqh354 (.string z1) Tryz.rObj_string (O1.out.cell 1 _ E1.out) ?_); (case qqg354 => rfl); (case qqo354 => rfl); (case qqh354 => first | (simp; done) | (simp [Act.eval]; done) | (simp only [Act.put]; simp; done) | (simp only [Act.put]; simp [Act.eval]; done)))
      | ((with_reducible refine wpList_load_oneG ?qqg355 3 ?qqx355 ?qqo355 w.heap.size 2 ?qqh355 (.int .i64 z2) Tryz.rObj_int (O1.out.cell 2 _ E2.out) ?_); (case qqg355 => rfl); (case qqo355 => rfl); (case qqh355 => first | (simp; done) | (simp [Act.eval]; done) | (simp only [Act.put]; simp; done) | (simp only [Act.put]; simp [Act.eval]; done)))
      | ((with_reducible refine wpList_load_oneG ?qqg356 3 ?qqx356 ?qqo356 w.heap.size 3 ?qqh356 (.int .i64 z3) Tryz.rObj_int (O1.out.cell 3 _ E3.out) ?_); (case qqg356 => rfl); (case qqo356 => rfl); (case qqh356 => first | (simp; done) | (simp [Act.eval]; done) | (simp only [Act.put]; simp; done) | (simp only [Act.put]; simp [Act.eval]; done)))
      | ((with_reducible refine wpList_load_oneG ?qqg357 3 ?qqx357 ?qqo357 w.heap.size 4 ?qqh357 (.int .i64 z4) Tryz.rObj_int (O1.out.cell 4 _ E4.out) ?_); (case qqg357 => rfl); (case qqo357 => rfl); (case qqh357 => first | (simp; done) | (simp [Act.eval]; done) | (simp only [Act.put]; simp; done) | (simp only [Act.put]; simp [Act.eval]; done)))
      | ((with_reducible refine wpList_load_oneG ?qqg358 4 ?qqx358 ?qqo358 w.heap.size 5 ?qqh358 (.bool z5) Tryz.rObj_bool (O1.out.cell 5 _ E5.out) ?_); (case qqg358 => rfl); (case qqo358 => rfl); (case qqh358 => first | (simp; done) | (simp [Act.eval]; done) | (simp only [Act.put]; simp; done) | (simp only [Act.put]; simp [Act.eval]; done)))
      | ((with_reducible refine wpList_load_oneG ?qqg359 28 ?qqx359 ?qqo359 w.heap.size 6 ?qqh359 ((.slice a6 n6 cp6)) Tryz.rObj_Lstring (O1.out.cell 6 _ E6.out) ?_); (case qqg359 => rfl); (case qqo359 => rfl); (case qqh359 => first | (simp; done) | (simp [Act.eval]; done) | (simp only [Act.put]; simp; done) | (simp only [Act.put]; simp [Act.eval]; done)))
      | ((with_reducible refine wpList_load_rowG ?qqg360 31 ?qqx360 ?qqo360 w.heap.size 7 ?qqh360 y7 Tryz.rObj_impl_Value YZ7.out (O1.out.range 7 _ E7.out) ?_); (case qqg360 => rfl); (case qqo360 => rfl); (case qqh360 => first | (simp; done) | (simp [Act.eval]; done) | (simp only [Act.put]; simp; done) | (simp only [Act.put]; simp [Act.eval]; done)))
      | ((with_reducible refine wpList_load_rowG ?qqg361 31 ?qqx361 ?qqo361 w.heap.size 12 ?qqh361 y8 Tryz.rObj_impl_Value YZ8.out (O1.out.range 12 _ E8.out) ?_); (case qqg361 => rfl); (case qqo361 => rfl); (case qqh361 => first | (simp; done) | (simp [Act.eval]; done) | (simp only [Act.put]; simp; done) | (simp only [Act.put]; simp [Act.eval]; done)))
      )
    refine (HK2.out _ B1.out).mono ?_
    rintro e w2 ⟨rfl, hb2⟩
    have O2 := uhide (O1.out.below hb2)
    have B2 : Hid (Below w.heap.size w w2) := B1.out.trans (hb2.mono B1.out.size)
    clear hb2
    go_wp2_with (first
      | ((with_reducible refine wpList_load_oneG ?qqg369 3 ?qqx369 ?qqo369 w.heap.size 0 ?qqh369 (.int .i64 z0) Tryz.rObj_int (O2.out.cell 0 _ E0.out) ?_); (case qqg369 => rfl); (case qqo369 => rfl); (case qqh369 => first | (simp; done) | (simp [Act.eval]; done) | (simp only [Act.put]; simp; done) | (simp only [Act.put]; simp [Act.eval]; done)))
      | ((with_reducible refine wpList_load_oneG ?qqg370 9 ?qqx370 ?qqo370 w.heap.size 1 ?qqh370 (.string z1) Tryz.rObj_string (O2.out.cell 1 _ E1.out) ?_); (case qqg370 => rfl); (case qqo370 => rfl); (case qqh370 => first | (simp; done) | (simp [Act.eval]; done) | (simp only [Act.put]; simp; done) | (simp only [Act.put]; simp [Act.eval]; done)))
      | ((with_reducible refine wpList_load_oneG ?qqg371 3 ?qqx371 ?qqo371 w.heap.size 2 ?qqh371 (.int .i64 z2) Tryz.rObj_int (O2.out.cell 2 _ E2.out) ?_); (case qqg371 => rfl); (case qqo371 => rfl); (case qqh371 => first | (simp; done) | (simp [Act.eval]; done) | (simp only [Act.put]; simp; done) | (simp only [Act.put]; simp [Act.eval]; done)))
      | ((with_reducible refine wpList_load_oneG ?qqg372 3 ?qqx372 ?qqo372 w.heap.size 3 ?qqh372 (.int .i64 z3) Tryz.rObj_int (O2.out.cell 3 _ E3.out) ?_); (case qqg372 => rfl); (case qqo372 => rfl); (case qqh372 => first | (simp; done) | (simp [Act.eval]; done) | (simp only [Act.put]; simp; done) | (simp only [Act.put]; simp [Act.eval]; done)))
      | ((with_reducible refine wpList_load_oneG ?qqg373 3 ?qqx373 ?qqo373 w.heap.size 4 ?qqh373 (.int .i64 z4) Tryz.rObj_int (O2.out.cell 4 _ E4.out) ?_); (case qqg373 => rfl); (case qqo373 => rfl); (case qqh373 => first | (simp; done) | (simp [Act.eval]; done) | (simp only [Act.put]; simp; done) | (simp only [Act.put]; simp [Act.eval]; done)))
      | ((with_reducible refine wpList_load_oneG ?qqg374 4 ?qqx374 ?qqo374 w.heap.size 5 ?qqh374 (.bool z5) Tryz.rObj_bool (O2.out.cell 5 _ E5.out) ?_); (case qqg374 => rfl); (case qqo374 => rfl); (case qqh374 => first | (simp; done) | (simp [Act.eval]; done) | (simp only [Act.put]; simp; done) | (simp only [Act.put]; simp [Act.eval]; done)))
      | ((with_reducible refine wpList_load_oneG ?qqg375 28 ?qqx375 ?qqo375 w.heap.size 6 ?qqh375 ((.slice a6 n6 cp6)) Tryz.rObj_Lstring (O2.out.cell 6 _ E6.out) ?_); (case qqg375 => rfl); (case qqo375 => rfl); (case qqh375 => first | (simp; done) | (simp [Act.eval]; done) | (simp only [Act.put]; simp; done) | (simp only [Act.put]; simp [Act.eval]; done)))
      | ((with_reducible refine wpList_load_rowG ?qqg376 31 ?qqx376 ?qqo376 w.heap.size 7 ?qqh376 y7 Tryz.rObj_impl_Value YZ7.out (O2.out.range 7 _ E7.out) ?_); (case qqg376 => rfl); (case qqo376 => rfl); (case qqh376 => first | (simp; done) | (simp [Act.eval]; done) | (simp only [Act.put]; simp; done) | (simp only [Act.put]; simp [Act.eval]; done)))
      | ((with_reducible refine wpList_load_rowG ?qqg377 31 ?qqx377 ?qqo377 w.heap.size 12 ?qqh377 y8 Tryz.rObj_impl_Value YZ8.out (O2.out.range 12 _ E8.out) ?_); (case qqg377 => rfl); (case qqo377 => rfl); (case qqh377 => first | (simp; done) | (simp [Act.eval]; done) | (simp only [Act.put]; simp; done) | (simp only [Act.put]; simp [Act.eval]; done)))
      )
    refine (HK3.out _ B2.out).mono ?_
    rintro e w3 ⟨rfl, hb3⟩
    have O3 := uhide (O2.out.below hb3)
    have B3 : Hid (Below w.heap.size w w3) := B2.out.trans (hb3.mono B2.out.size)
    clear hb3
    go_wp2_with (first
      | ((with_reducible refine wpList_load_oneG ?qqg385 3 ?qqx385 ?qqo385 w.heap.size 0 ?qqh385 (.int .i64 z0) Tryz.rObj_int (O3.out.cell 0 _ E0.out) ?_); (case qqg385 => rfl); (case qqo385 => rfl); (case qqh385 => first | (simp; done) | (simp [Act.eval]; done) | (simp only [Act.put]; simp; done) | (simp only [Act.put]; simp [Act.eval]; done)))
      | ((with_reducible refine wpList_load_oneG ?qqg386 9 ?qqx386 ?qqo386 w.heap.size 1 ?qqh386 (.string z1) Tryz.rObj_string (O3.out.cell 1 _ E1.out) ?_); (case qqg386 => rfl); (case qqo386 => rfl); (case qqh386 => first | (simp; done) | (simp [Act.eval]; done) | (simp only [Act.put]; simp; done) | (simp only [Act.put]; simp [Act.eval]; done)))
      | ((with_reducible refine wpList_load_oneG ?qqg387 3 ?qqx387 ?qqo387 w.heap.size 2 ?qqh387 (.int .i64 z2) Tryz.rObj_int (O3.out.cell 2 _ E2.out) ?_); (case qqg387 => rfl); (case qqo387 => rfl); (case qqh387 => first | (simp; done) | (simp [Act.eval]; done) | (simp only [Act.put]; simp; done) | (simp only [Act.put]; simp [Act.eval]; done)))
      | ((with_reducible refine wpList_load_oneG ?qqg388 3 ?qqx388 ?qqo388 w.heap.size 3 ?qqh388 (.int .i64 z3) Tryz.rObj_int (O3.out.cell 3 _ E3.out) ?_); (case qqg388 => rfl); (case qqo388 => rfl); (case qqh388 => first | (simp; done) | (simp [Act.eval]; done) | (simp only [Act.put]; simp; done) | (simp only [Act.put]; simp [Act.eval]; done)))
      | ((with_reducible refine wpList_load_oneG ?qqg389 3 ?qqx389 ?qqo389 w.heap.size 4 ?qqh389 (.int .i64 z4) Tryz.rObj_int (O3.out.cell 4 _ E4.out) ?_); (case qqg389 => rfl); (case qqo389 => rfl); (case qqh389 => first | (simp; done) | (simp [Act.eval]; done) | (simp only [Act.put]; simp; done) | (simp only [Act.put]; simp [Act.eval]; done)))
      | ((with_reducible refine wpList_load_oneG ?qqg390 4 ?qqx390 ?qqo390 w.heap.size 5 ?qqh390 (.bool z5) Tryz.rObj_bool (O3.out.cell 5 _ E5.out) ?_); (case qqg390 => rfl); (case qqo390 => rfl); (case qqh390 => first | (simp; done) | (simp [Act.eval]; done) | (simp only [Act.put]; simp; done) | (simp only [Act.put]; simp [Act.eval]; done)))
      | ((with_reducible refine wpList_load_oneG ?qqg391 28 ?qqx391 ?qqo391 w.heap.size 6 ?qqh391 ((.slice a6 n6 cp6)) Tryz.rObj_Lstring (O3.out.cell 6 _ E6.out) ?_); (case qqg391 => rfl); (case qqo391 => rfl); (case qqh391 => first | (simp; done) | (simp [Act.eval]; done) | (simp only [Act.put]; simp; done) | (simp only [Act.put]; simp [Act.eval]; done)))
      | ((with_reducible refine wpList_load_rowG ?qqg392 31 ?qqx392 ?qqo392 w.heap.size 7 ?qqh392 y7 Tryz.rObj_impl_Value YZ7.out (O3.out.range 7 _ E7.out) ?_); (case qqg392 => rfl); (case qqo392 => rfl); (case qqh392 => first | (simp; done) | (simp [Act.eval]; done) | (simp only [Act.put]; simp; done) | (simp only [Act.put]; simp [Act.eval]; done)))
      | ((with_reducible refine wpList_load_rowG ?qqg393 31 ?qqx393 ?qqo393 w.heap.size 12 ?qqh393 y8 Tryz.rObj_impl_Value YZ8.out (O3.out.range 12 _ E8.out) ?_); (case qqg393 => rfl); (case qqo393 => rfl); (case qqh393 => first | (simp; done) | (simp [Act.eval]; done) | (simp only [Act.put]; simp; done) | (simp only [Act.put]; simp [Act.eval]; done)))
      )
    refine (HK4.out _ B3.out).mono ?_
    rintro e w4 ⟨rfl, hb4⟩
    have O4 := uhide (O3.out.below hb4)
    have B4 : Hid (Below w.heap.size w w4) := B3.out.trans (hb4.mono B3.out.size)
    clear hb4
    go_wp2
    go_ret
    exact ⟨ret_bool (by simp), B4.out⟩
  | true =>
  cases k5 with
  | false =>
    go_enter Tryz.func160, Tryz.ntmps160
    go_wp2_with (first
      | ((with_reducible refine wpList_load_oneG ?qqg408 3 ?qqx408 ?qqo408 w.heap.size 0 ?qqh408 (.int .i64 z0) Tryz.rObj_int (OA.out.cell 0 _ E0.out) ?_); (case qqg408 => rfl); (case qqo408 => rfl); (case qqh408 => first | (simp; done) | (simp [Act.eval]; done) | (simp only [Act.put]; simp; done) | (simp only [Act.put]; simp [Act.eval]; done)))
      | ((with_reducible refine wpList_load_oneG ?qqg409 9 ?qqx409 ?qqo409 w.heap.size 1 ?qqh409 (.string z1) Tryz.rObj_string (OA.out.cell 1 _ E1.out) ?_); (case qqg409 => rfl); (case qqo409 => rfl); (case qqh409 => first | (simp; done) | (simp [Act.eval]; done) | (simp only [Act.put]; simp; done) | (simp only [Act.put]; simp [Act.eval]; done)))
      | ((with_reducible refine wpList_load_oneG ?qqg410 3 ?qqx410 ?qqo410 w.heap.size 2 ?qqh410 (.int .i64 z2) Tryz.rObj_int (OA.out.cell 2 _ E2.out) ?_); (case qqg410 => rfl); (case qqo410 => rfl); (case qqh410 => first | (simp; done) | (simp [Act.eval]; done) | (simp only [Act.put]; simp; done) | (simp only [Act.put]; simp [Act.eval]; done)))
      | ((with_reducible refine wpList_load_oneG ?qqg411 3 ?qqx411 ?qqo411 w.heap.size 3 ?qqh411 (.int .i64 z3) Tryz.rObj_int (OA.out.cell 3 _ E3.out) ?_); (case qqg411 => rfl); (case qqo411 => rfl); (case qqh411 => first | (simp; done) | (simp [Act.eval]; done) | (simp only [Act.put]; simp; done) | (simp only [Act.put]; simp [Act.eval]; done)))
      | ((with_reducible refine wpList_load_oneG ?qqg412 3 ?qqx412 ?qqo412 w.heap.size 4 ?qqh412 (.int .i64 z4) Tryz.rObj_int (OA.out.cell 4 _ E4.out) ?_); (case qqg412 => rfl); (case qqo412 => rfl); (case qqh412 => first | (simp; done) | (simp [Act.eval]; done) | (simp only [Act.put]; simp; done) | (simp only [Act.put]; simp [Act.eval]; done)))
      | ((with_reducible refine wpList_load_oneG ?qqg413 4 ?qqx413 ?qqo413 w.heap.size 5 ?qqh413 (.bool z5) Tryz.rObj_bool (OA.out.cell 5 _ E5.out) ?_); (case qqg413 => rfl); (case qqo413 => rfl); (case qqh413 => first | (simp; done) | (simp [Act.eval]; done) | (simp only [Act.put]; simp; done) | (simp only [Act.put]; simp [Act.eval]; done)))
      | ((with_reducible refine wpList_load_oneG ?qqg414 28 ?qqx414 ?qqo414 w.heap.size 6 ?qqh414 ((.slice a6 n6 cp6)) Tryz.rObj_Lstring (OA.out.cell 6 _ E6.out) ?_); (case qqg414 => rfl); (case qqo414 => rfl); (case qqh414 => first | (simp; done) | (simp [Act.eval]; done) | (simp only [Act.put]; simp; done) | (simp only [Act.put]; simp [Act.eval]; done)))
      | ((with_reducible refine wpList_load_rowG ?qqg415 31 ?qqx415 ?qqo415 w.heap.size 7 ?qqh415 y7 Tryz.rObj_impl_Value YZ7.out (OA.out.range 7 _ E7.out) ?_); (case qqg415 => rfl); (case qqo415 => rfl); (case qqh415 => first | (simp; done) | (simp [Act.eval]; done) | (simp only [Act.put]; simp; done) | (simp only [Act.put]; simp [Act.eval]; done)))
      | ((with_reducible refine wpList_load_rowG ?qqg416 31 ?qqx416 ?qqo416 w.heap.size 12 ?qqh416 y8 Tryz.rObj_impl_Value YZ8.out (OA.out.range 12 _ E8.out) ?_); (case qqg416 => rfl); (case qqo416 => rfl); (case qqh416 => first | (simp; done) | (simp [Act.eval]; done) | (simp only [Act.put]; simp; done) | (simp only [Act.put]; simp [Act.eval]; done)))
      )
    refine (HK0.out _ BA.out).mono ?_
    rintro e w0 ⟨rfl, hb0⟩
    have O0 := uhide (OA.out.below hb0)
    have B0 : Hid (Below w.heap.size w w0) := BA.out.trans (hb0.mono BA.out.size)
    clear hb0
    go_wp2_with (first
      | ((with_reducible refine wpList_load_oneG ?qqg424 3 ?qqx424 ?qqo424 w.heap.size 0 ?qqh424 (.int .i64 z0) Tryz.rObj_int (O0.out.cell 0 _ E0.out) ?_); (case qqg424 => rfl); (case qqo424 => rfl); (case qqh424 => first | (simp; done) | (simp [Act.eval]; done) | (simp only [Act.put]; simp; done) | (simp only [Act.put]; simp [Act.eval]; done)))
      | ((with_reducible refine wpList_load_oneG ?qqg425 9 ?qqx425 ?qqo425 w.heap.size 1 ?qqh425 (.string z1) Tryz.rObj_string (O0.out.cell 1 _ E1.out) ?_); (case qqg425 => rfl); (case qqo425 => rfl); (case qqh425 => first | (simp; done) | (simp [Act.eval]; done) | (simp only [Act.put]; simp; done) | (simp only [Act.put]; simp [Act.eval]; done)))
      | ((with_reducible refine wpList_load_oneG ?qqg426 3 ?qqx426 ?qqo426 w.heap.size 2 ?qqh426 (.int .i64 z2) Tryz.rObj_int (O0.out.cell 2 _ E2.out) ?_); (case qqg426 => rfl); (case qqo426 => rfl); (case qqh426 => first | (simp; done) | (simp [Act.eval]; done) | (simp only [Act.put]; simp; done) | (simp only [Act.put]; simp [Act.eval]; done)))
      | ((with_reducible refine wpList_load_oneG ?qqg427 3 ?qqx427 ?qqo427 w.heap.size 3 ?qqh427 (.int .i64 z3) Tryz.rObj_int (O0.out.cell 3 _ E3.out) ?_); (case qqg427 => rfl); (case qqo427 => rfl); (case qqh427 => first | (simp; done) | (simp [Act.eval]; done) | (simp only [Act.put]; simp; done) | (simp only [Act.put]; simp [Act.eval]; done)))
      | ((with_reducible refine wpList_load_oneG ?qqg428 3 ?qqx428 ?qqo428 w.heap.size 4 ?qqh428 (.int .i64 z4) Tryz.rObj_int (O0.out.cell 4 _ E4.out) ?_); (case qqg428 => rfl); (case qqo428 => rfl); (case qqh428 => first | (simp; done) | (simp [Act.eval]; done) | (simp only [Act.put]; simp; done) | (simp only [Act.put]; simp [Act.eval]; done)))
      | ((with_reducible refine wpList_load_oneG ?qqg429 4 ?qqx429 ?qqo429 w.heap.size 5 ?qqh429 (.bool z5) Tryz.rObj_bool (O0.out.cell 5 _ E5.out) ?_); (case qqg429 => rfl); (case qqo429 => rfl); (case qqh429 => first | (simp; done) | (simp [Act.eval]; done) | (simp only [Act.put]; simp; done) | (simp only [Act.put]; simp [Act.eval]; done)))
      | ((with_reducible refine wpList_load_oneG ?qqg430 28 ?qqx430 ?qqo430 w.heap.size 6 ?qqh430 ((.slice a6 n6 cp6)) Tryz.rObj_Lstring (O0.out.cell 6 _ E6.out) ?_); (case qqg430 => rfl); (case qqo430 => rfl); (case qqh430 => first | (simp; done) | (simp [Act.eval]; done) | (simp only [Act.put]; simp; done) | (simp only [Act.put]; simp [Act.eval]; done)))
      | ((with_reducible refine wpList_load_rowG ?qqg431 31 ?qqx431 ?qqo431 w.heap.size 7 ?qqh431 y7 Tryz.rObj_impl_Value YZ7.out (O0.out.range 7 _ E7.out) ?_); (case qqg431 => rfl); (case qqo431 => rfl); (case qqh431 => first | (simp; done) | (simp [Act.eval]; done) | (simp only [Act.put]; simp; done) | (simp only [Act.put]; simp [Act.eval]; done)))
      | ((with_reducible refine wpList_load_rowG ?qqg432 31 ?qqx432 ?qqo432 w.heap.size 12 ?qqh432 y8 Tryz.rObj_impl_Value YZ8.out (O0.out.range 12 _ E8.out) ?_); (case qqg432 => rfl); (case qqo432 => rfl); (case qqh432 => first | (simp; done) | (simp [Act.eval]; done) | (simp only [Act.put]; simp; done) | (simp only [Act.put]; simp [Act.eval]; done)))
      )
    refine (HK1.out _ B0.out).mono ?_
    rintro e w1 ⟨rfl, hb1⟩
    have O1 := uhide (O0.out.below hb1)
    have B1 : Hid (Below w.heap.size w w1) := B0.out.trans (hb1.mono B0.out.size)
    clear hb1
    go_wp2_with (first
      | ((with_reducible refine wpList_load_oneG ?qqg440 3 ?qqx440 ?qqo440 w.heap.size 0 ?qqh440 (.int .i64 z0) Tryz.rObj_int (O1.out.cell 0 _ E0.out) ?_); (case qqg440 => rfl); (case qqo440 => rfl); (case qqh440 => first | (simp; done) | (simp [Act.eval]; done) | (simp only [Act.put]; simp; done) | (simp only [Act.put]; simp [Act.eval]; done)))
      | ((with_reducible refine wpList_load_oneG ?qqg441 9 ?qqx441 ?qqo441 w.heap.size 1 ?qqh441 (.string z1) Tryz.rObj_string (O1.out.cell 1 _ E1.out) ?_); (case qqg441 => rfl); (case qqo441 => rfl); (case qqh441 => first | (simp; done) | (simp [Act.eval]; done) | (simp only [Act.put]; simp; done) | (simp only [Act.put]; simp [Act.eval]; done)))
      | ((with_reducible refine wpList_load_oneG ?qqg442 3 ?qqx442 ?qqo442 w.heap.size 2 ?qqh442 (.int .i64 z2) Tryz.rObj_int (O1.out.cell 2 _ E2.out) ?_); (case qqg442 => rfl); (case qqo442 => rfl); (case qqh442 => first | (simp; done) | (simp [Act.eval]; done) | (simp only [Act.put]; simp; done) | (simp only [Act.put]; simp [Act.eval]; done)))
      | ((with_reducible refine wpList_load_oneG ?qqg443 3 ?qqx443 ?qqo443 w.heap.size 3 ?qqh443 (.int .i64 z3) Tryz.rObj_int (O1.out.cell 3 _ E3.out) ?_); (case qqg443 => rfl); (case qqo443 => rfl); (case qqh443 => first | (simp; done) | (simp [Act.eval]; done) | (simp only [Act.put]; simp; done) | (simp only [Act.put]; simp [Act.eval]; done)))
      | ((with_reducible refine wpList_load_oneG ?qqg444 3 ?qqx444 ?qqo444 w.heap.size 4 ?qqh444 (.int .i64 z4) Tryz.rObj_int (O1.out.cell 4 _ E4.out) ?_); (case qqg444 => rfl); (case qqo444 => rfl); (case qqh444 => first | (simp; done) | (simp [Act.eval]; done) | (simp only [Act.put]; simp; done) | (simp only [Act.put]; simp [Act.eval]; done)))
      | ((with_reducible refine wpList_load_oneG ?qqg445 4 ?qqx445 ?qqo445 w.heap.size 5 ?qqh445 (.bool z5) Tryz.rObj_bool (O1.out.cell 5 _ E5.out) ?_); (case qqg445 => rfl); (case qqo445 => rfl); (case qqh445 => first | (simp; done) | (simp [Act.eval]; done) | (simp only [Act.put]; simp; done) | (simp only [Act.put]; simp [Act.eval]; done)))
      | ((with_reducible refine wpList_load_oneG ?qqg446 28 ?qqx446 ?qqo446 w.heap.size 6 ?qqh446 ((.slice a6 n6 cp6)) Tryz.rObj_Lstring (O1.out.cell 6 _ E6.out) ?_); (case qqg446 => rfl); (case qqo446 => rfl); (case qqh446 => first | (simp; done) | (simp [Act.eval]; done) | (simp only [Act.put]; simp; done) | (simp only [Act.put]; simp [Act.eval]; done)))
      | ((with_reducible refine wpList_load_rowG ?qqg447 31 ?qqx447 ?qqo447 w.heap.size 7 ?qqh447 y7 Tryz.rObj_impl_Value YZ7.out (O1.out.range 7 _ E7.out) ?_); (case qqg447 => rfl); (case qqo447 => rfl); (case qqh447 => first | (simp; done) | (simp [Act.eval]; done) | (simp only [Act.put]; simp; done) | (simp only [Act.put]; simp [Act.eval]; done)))
      | ((with_reducible refine wpList_load_rowG ?qqg448 31 ?qqx448 ?qqo448 w.heap.size 12 ?qqh448 y8 Tryz.rObj_impl_Value YZ8.out (O1.out.range 12 _ E8.out) ?_); (case qqg448 => rfl); (case qqo448 => rfl); (case qqh448 => first | (simp; done) | (simp [Act.eval]; done) | (simp only [Act.put]; simp; done) | (simp only [Act.put]; simp [Act.eval]; done)))
      )
    refine (HK2.out _ B1.out).mono ?_
    rintro e w2 ⟨rfl, hb2⟩
    have O2 := uhide (O1.out.below hb2)
    have B2 : Hid (Below w.heap.size w w2) := B1.out.trans (hb2.mono B1.out.size)
    clear hb2
    go_wp2_with (first
      | ((with_reducible refine wpList_load_oneG ?qqg456 3 ?qqx456 ?qqo456 w.heap.size 0 ?qqh456 (.int .i64 z0) Tryz.rObj_int (O2.out.cell 0 _ E0.out) ?_); (case qqg456 => rfl); (case qqo456 => rfl); (case qqh456 => first | (simp; done) | (simp [Act.eval]; done) | (simp only [Act.put]; simp; done) | (simp only [Act.put]; simp [Act.eval]; done)))
      | ((with_reducible refine wpList_load_oneG ?qqg457 9 ?qqx457 ?qqo457 w.heap.size 1 ?qqh457 (.string z1) Tryz.rObj_string (O2.out.cell 1 _ E1.out) ?_); (case qqg457 => rfl); (case qqo457 => rfl); (case qqh457 => first | (simp; done) | (simp [Act.eval]; done) | (simp only [Act.put]; simp; done) | (simp only [Act.put]; simp [Act.eval]; done)))
      | ((with_reducible refine wpList_load_oneG ?qqg458 3 ?qqx458 ?qqo458 w.heap.size 2 ?qqh458 (.int .i64 z2) Tryz.rObj_int (O2.out.cell 2 _ E2.out) ?_); (case qqg458 => rfl); (case qqo458 => rfl); (case qqh458 => first | (simp; done) | (simp [Act.eval]; done) | (simp only [Act.put]; simp; done) | (simp only [Act.put]; simp [Act.eval]; done)))
      | ((with_reducible refine wpList_load_oneG ?qqg459 3 ?qqx459 ?qqo459 w.heap.size 3 ?qqh459 (.int .i64 z3) Tryz.rObj_int (O2.out.cell 3 _ E3.out) ?_); (case qqg459 => rfl); (case qqo459 => rfl); (case qqh459 => first | (simp; done) | (simp [Act.eval]; done) | (simp only [Act.put]; simp; done) | (simp only [Act.put]; simp [Act.eval]; done)))
      | ((with_reducible refine wpList_load_oneG ?qqg460 3 ?qqx460 ?qqo460 w.heap.size 4 ?qqh460 (.int .i64 z4) Tryz.rObj_int (O2.out.cell 4 _ E4.out) ?_); (case qqg460 => rfl); (case qqo460 => rfl); (case qqh460 => first | (simp; done) | (simp [Act.eval]; done) | (simp only [Act.put]; simp; done) | (simp only [Act.put]; simp [Act.eval]; done)))
      | ((with_reducible refine wpList_load_oneG ?qqg461 4 ?qqx461 ?qqo461 w.heap.size 5 ?qqh461 (.bool z5) Tryz.rObj_bool (O2.out.cell 5 _ E5.out) ?_); (case qqg461 => rfl); (case qqo461 => rfl); (case qqh461 => first | (simp; done) | (simp [Act.eval]; done) | (simp only [Act.put]; simp; done) | (simp only [Act.put]; simp [Act.eval]; done)))
      | ((with_reducible refine wpList_load_oneG ?qqg462 28 ?qqx462 ?qqo462 w.heap.size 6 ?qqh462 ((.slice a6 n6 cp6)) Tryz.rObj_Lstring (O2.out.cell 6 _ E6.out) ?_); (case qqg462 => rfl); (case qqo462 => rfl); (case qqh462 => first | (simp; done) | (simp [Act.eval]; done) | (simp only [Act.put]; simp; done) | (simp only [Act.put]; simp [Act.eval]; done)))
      | ((with_reducible refine wpList_load_rowG ?qqg463 31 ?qqx463 ?qqo463 w.heap.size 7 ?qqh463 y7 Tryz.rObj_impl_Value YZ7.out (O2.out.range 7 _ E7.out) ?_); (case qqg463 => rfl); (case qqo463 => rfl); (case qqh463 => first | (simp; done) | (simp [Act.eval]; done) | (simp only [Act.put]; simp; done) | (simp only [Act.put]; simp [Act.eval]; done)))
      | ((with_reducible refine wpList_load_rowG ?qqg464 31 ?qqx464 ?qqo464 w.heap.size 12 ?qqh464 y8 Tryz.rObj_impl_Value YZ8.out (O2.out.range 12 _ E8.out) ?_); (case qqg464 => rfl); (case qqo464 => rfl); (case qqh464 => first | (simp; done) | (simp [Act.eval]; done) | (simp only [Act.put]; simp; done) | (simp only [Act.put]; simp [Act.eval]; done)))
      )
    refine (HK3.out _ B2.out).mono ?_
    rintro e w3 ⟨rfl, hb3⟩
    have O3 := uhide (O2.out.below hb3)
    have B3 : Hid (Below w.heap.size w w3) := B2.out.trans (hb3.mono B2.out.size)
    clear hb3
    go_wp2_with (first
      | ((with_reducible refine wpList_load_oneG ?qqg472 3 ?qqx472 ?qqo472 w.heap.size 0 ?qqh472 (.int .i64 z0) Tryz.rObj_int (O3.out.cell 0 _ E0.out) ?_); (case qqg472 => rfl); (case qqo472 => rfl); (case qqh472 => first | (simp; done) | (simp [Act.eval]; done) | (simp only [Act.put]; simp; done) | (simp only [Act.put]; simp [Act.eval]; done)))
      | ((with_reducible refine wpList_load_oneG ?qqg473 9 ?qqx473 ?qqo473 w.heap.size 1 ?qqh473 (.string z1) Tryz.rObj_string (O3.out.cell 1 _ E1.out) ?_); (case qqg473 => rfl); (case qqo473 => rfl); (case qqh473 => first | (simp; done) | (simp [Act.eval]; done) | (simp only [Act.put]; simp; done) | (simp only [Act.put]; simp [Act.eval]; done)))
      | ((with_reducible refine wpList_load_oneG ?qqg474 3 ?qqx474 ?qqo474 w.heap.size 2 ?qqh474 (.int .i64 z2) Tryz.rObj_int (O3.out.cell 2 _ E2.out) ?_); (case qqg474 => rfl); (case qqo474 => rfl); (case qqh474 => first | (simp; done) | (simp [Act.eval]; done) | (simp only [Act.put]; simp; done) | (simp only [Act.put]; simp [Act.eval]; done)))
      | ((with_reducible refine wpList_load_oneG ?qqg475 3 ?qqx475 ?qqo475 w.heap.size 3 ?qqh475 (.int .i64 z3) Tryz.rObj_int (O3.out.cell 3 _ E3.out) ?_); (case qqg475 => rfl); (case qqo475 => rfl); (case qqh475 => first | (simp; done) | (simp [Act.eval]; done) | (simp only [Act.put]; simp; done) | (simp only [Act.put]; simp [Act.eval]; done)))
      | ((with_reducible refine wpList_load_oneG ?qqg476 3 ?qqx476 ?qqo476 w.heap.size 4 ?qqh476 (.int .i64 z4) Tryz.rObj_int (O3.out.cell 4 _ E4.out) ?_); (case qqg476 => rfl); (case qqo476 => rfl); (case qqh476 => first | (simp; done) | (simp [Act.eval]; done) | (simp only [Act.put]; simp; done) | (simp only [Act.put]; simp [Act.eval]; done)))
      | ((with_reducible refine wpList_load_oneG ?qqg477 4 ?qqx477 ?qqo477 w.heap.size 5 ?qqh477 (.bool z5) Tryz.rObj_bool (O3.out.cell 5 _ E5.out) ?_); (case qqg477 => rfl); (case qqo477 => rfl); (case qqh477 => first | (simp; done) | (simp [Act.eval]; done) | (simp only [Act.put]; simp; done) | (simp only [Act.put]; simp [Act.eval]; done)))
      | ((with_reducible refine wpList_load_oneG ?qqg478 28 ?qqx478 ?qqo478 w.heap.size 6 ?qqh478 ((.slice a6 n6 cp6)) Tryz.rObj_Lstring (O3.out.cell 6 _ E6.out) ?_); (case qqg478 => rfl); (case qqo478 => rfl); (case qqh478 => first | (simp; done) | (simp [Act.eval]; done) | (simp only [Act.put]; simp; done) | (simp only [Act.put]; simp [Act.eval]; done)))
      | ((with_reducible refine wpList_load_rowG ?qqg479 31 ?qqx479 ?qqo479 w.heap.size 7 ?qqh479 y7 Tryz.rObj_impl_Value YZ7.out (O3.out.range 7 _ E7.out) ?_); (case qqg479 => rfl); (case qqo479 => rfl); (case qqh479 => first | (simp; done) | (simp [Act.eval]; done) | (simp only [Act.put]; simp; done) | (simp only [Act.put]; simp [Act.eval]; done)))
      | ((with_reducible refine wpList_load_rowG ?qqg480 31 ?qqx480 ?qqo480 w.heap.size 12 ?qqh480 y8 Tryz.rObj_impl_Value YZ8.out (O3.out.range 12 _ E8.out) ?_); (case qqg480 => rfl); (case qqo480 => rfl); (case qqh480 => first | (simp; done) | (simp [Act.eval]; done) | (simp only [Act.put]; simp; done) | (simp only [Act.put]; simp [Act.eval]; done)))
      )
    refine (HK4.out _ B3.out).mono ?_
    rintro e w4 ⟨rfl, hb4⟩
    have O4 := uhide (O3.out.below hb4)
    have B4 : Hid (Below w.heap.size w w4) := B3.out.trans (hb4.mono B3.out.size)
    clear hb4
    go_wp2_with (first
      | ((with_reducible refine wpList_load_oneG ?qqg488 3 ?qqx488 ?qqo488 w.heap.size 0 ?qqh488 (.int .i64 z0) Tryz.rObj_int (O4.out.cell 0 _ E0.out) ?_); (case qqg488 => rfl); (case qqo488 => rfl); (case qqh488 => first | (simp; done) | (simp [Act.eval]; done) | (simp only [Act.put]; simp; done) | (simp only [Act.put]; simp [Act.eval]; done)))
      | ((with_reducible refine wpList_load_oneG ?qqg489 9 ?qqx489 ?qqo489 w.heap.size 1 ?qqh489 (.string z1) Tryz.rObj_string (O4.out.cell 1 _ E1.out) ?_); (case qqg489 => rfl); (case qqo489 => rfl); (case qqh489 => first | (simp; done) | (simp [Act.eval]; done) | (simp only [Act.put]; simp; done) | (simp only [Act.put]; simp [Act.eval]; done)))
      | ((with_reducible refine wpList_load_oneG ?qqg490 3 ?qqx490 ?qqo490 w.heap.size 2 ?qqh490 (.int .i64 z2) Tryz.rObj_int (O4.out.cell 2 _ E2.out) ?_); (case qqg490 => rfl); (case qqo490 => rfl); (case qqh490 => first | (simp; done) | (simp [Act.eval]; done) | (simp only [Act.put]; simp; done) | (simp only [Act.put]; simp [Act.eval]; done)))
      | ((with_reducible refine wpList_load_oneG ?qqg491 3 ?qqx491 ?qqo491 w.heap.size 3 ?qqh491 (.int .i64 z3) Tryz.rObj_int (O4.out.cell 3 _ E3.out) ?_); (case qqg491 => rfl); (case qqo491 => rfl); (case qqh491 => first | (simp; done) | (simp [Act.eval]; done) | (simp only [Act.put]; simp; done) | (simp only [Act.put]; simp [Act.eval]; done)))
      | ((with_reducible refine wpList_load_oneG ?qqg492 3 ?qqx492 ?qqo492 w.heap.size 4 ?qqh492 (.int .i64 z4) Tryz.rObj_int (O4.out.cell 4 _ E4.out) ?_); (case qqg492 => rfl); (case qqo492 => rfl); (case qqh492 => first | (simp; done) | (simp [Act.eval]; done) | (simp only [Act.put]; simp; done) | (simp only [Act.put]; simp [Act.eval]; done)))
      | ((with_reducible refine wpList_load_oneG ?qqg493 4 ?qqx493 ?qqo493 w.heap.size 5 ?qqh493 (.bool z5) Tryz.rObj_bool (O4.out.cell 5 _ E5.out) ?_); (case qqg493 => rfl); (case qqo493 => rfl); (case qqh493 => first | (simp; done) | (simp [Act.eval]; done) | (simp only [Act.put]; simp; done) | (simp only [Act.put]; simp [Act.eval]; done)))
      | ((with_reducible refine wpList_load_oneG ?qqg494 28 ?qqx494 ?qqo494 w.heap.size 6 ?qqh494 ((.slice a6 n6 cp6)) Tryz.rObj_Lstring (O4.out.cell 6 _ E6.out) ?_); (case qqg494 => rfl); (case qqo494 => rfl); (case qqh494 => first | (simp; done) | (simp [Act.eval]; done) | (simp only [Act.put]; simp; done) | (simp only [Act.put]; simp [Act.eval]; done)))
      | ((with_reducible refine wpList_load_rowG ?qqg495 31 ?qqx495 ?qqo495 w.heap.size 7 ?qqh495 y7 Tryz.rObj_impl_Value YZ7.out (O4.out.range 7 _ E7.out) ?_); (case qqg495 => rfl); (case qqo495 => rfl); (case qqh495 => first | (simp; done) | (simp [Act.eval]; done) | (simp only [Act.put]; simp; done) | (simp only [Act.put]; simp [Act.eval]; done)))
      | ((with_reducible refine wpList_load_rowG ?qqg496 31 ?qqx496 ?qqo496 w.heap.size 12 ?qqh496 y8 Tryz.rObj_impl_Value YZ8.out (O4.out.range 12 _ E8.out) ?_); (case qqg496 => rfl); (case qqo496 => rfl); (case qqh496 => first | (simp; done) | (simp [Act.eval]; done) | (simp only [Act.put]; simp; done) | (simp only [Act.put]; simp [Act.eval]; done)))
      )
    refine (HK5.out _ B4.out).mono ?_
    rintro e w5 ⟨rfl, hb5⟩
    have O5 := uhide (O4.out.below hb5)
    have B5 : Hid (Below w.heap.size w w5) := B4.out.trans (hb5.mono B4.out.size)
    clear hb5
    go_wp2
    go_ret
    exact ⟨ret_bool (by simp), B5.out⟩
  | true =>
  cases k6 with
  | false =>
    go_enter Tryz.func160, Tryz.ntmps160
    go_wp2_with (first
      | ((with_reducible refine wpList_load_oneG ?qqg511 3 ?qqx511 ?qqo511 w.heap.size 0 ?qqh511 (.int .i64 z0) Tryz.rObj_int (OA.out.cell 0 _ E0.out) ?_); (case qqg511 => rfl); (case qqo511 => rfl); (case qqh511 => first | (simp; done) | (simp [Act.eval]; done) | (simp only [Act.put]; simp; done) | (simp only [Act.put]; simp [Act.eval]; done)))
      | ((with_reducible refine wpList_load_oneG ?qqg512 9 ?qqx512 ?qqo512 w.heap.size 1 ?qqh512 (.string z1) Tryz.rObj_string (OA.out.cell 1 _ E1.out) ?_); (case qqg512 => rfl); (case qqo512 => rfl); (case qqh512 => first | (simp; done) | (simp [Act.eval]; done) | (simp only [Act.put]; simp; done) | (simp only [Act.put]; simp [Act.eval]; done)))
      | ((with_reducible refine wpList_load_oneG ?qqg513 3 ?qqx513 ?qqo513 w.heap.size 2 ?qqh513 (.int .i64 z2) Tryz.rObj_int (OA.out.cell 2 _ E2.out) ?_); (case qqg513 => rfl); (case qqo513 => rfl); (case qqh513 => first | (simp; done) | (simp [Act.eval]; done) | (simp only [Act.put]; simp; done) | (simp only [Act.put]; simp [Act.eval]; done)))
      | ((with_reducible refine wpList_load_oneG ?qqg514 3 ?qqx514 ?qqo514 w.heap.size 3 ?qqh514 (.int .i64 z3) Tryz.rObj_int (OA.out.cell 3 _ E3.out) ?_); (case qqg514 => rfl); (case qqo514 => rfl); (case qqh514 => first | (simp; done) | (simp [Act.eval]; done) | (simp only [Act.put]; simp; done) | (simp only [Act.put]; simp [Act.eval]; done)))
      | ((with_reducible refine wpList_load_oneG ?qqg515 3 ?qqx515 ?qqo515 w.heap.size 4 ?qqh515 (.int .i64 z4) Tryz.rObj_int (OA.out.cell 4 _ E4.out) ?_); (case qqg515 => rfl); (case qqo515 => rfl); (case qqh515 => first | (simp; done) | (simp [Act.eval]; done) | (simp only [Act.put]; simp; done) | (simp only [Act.put]; simp [Act.eval]; done)))
      | ((with_reducible refine wpList_load_oneG ?qqg516 4 ?qqx516 ?qqo516 w.heap.size 5 ?qqh516 (.bool z5) Tryz.rObj_bool (OA.out.cell 5 _ E5.out) ?_); (case qqg516 => rfl); (case qqo516 => rfl); (case qqh516 => first | (simp; done) | (simp [Act.eval]; done) | (simp only [Act.put]; simp; done) | (simp only [Act.put]; simp [Act.eval]; done)))
      | ((with_reducible refine wpList_load_oneG ?qqg517 28 ?qqx517 ?qqo517 w.heap.size 6 ?qqh517 ((.slice a6 n6 cp6)) Tryz.rObj_Lstring (OA.out.cell 6 _ E6.out) ?_); (case qqg517 => rfl); (case qqo517 => rfl); (case qqh517 => first | (simp; done) | (simp [Act.eval]; done) | (simp only [Act.put]; simp; done) | (simp only [Act.put]; simp [Act.eval]; done)))
      | ((with_reducible refine wpList_load_rowG ?qqg518 31 ?qqx518 ?qqo518 w.heap.size 7 ?qqh518 y7 Tryz.rObj_impl_Value YZ7.out (OA.out.range 7 _ E7.out) ?_); (case qqg518 => rfl); (case qqo518 => rfl); (case qqh518 => first | (simp; done) | (simp [Act.eval]; done) | (simp only [Act.put]; simp; done) | (simp only [Act.put]; simp [Act.eval]; done)))
      | ((with_reducible refine wpList_load_rowG ?qqg519 31 ?qqx519 ?qqo519 w.heap.size 12 ?qqh519 y8 Tryz.rObj_impl_Value YZ8.out (OA.out.range 12 _ E8.out) ?_); (case qqg519 => rfl); (case qqo519 => rfl); (case qqh519 => first | (simp; done) | (simp [Act.eval]; done) | (simp only [Act.put]; simp; done) | (simp only [Act.put]; simp [Act.eval]; done)))
      )
    refine (HK0.out _ BA.out).mono ?_
    rintro e w0 ⟨rfl, hb0⟩
    have O0 := uhide (OA.out.below hb0)
    have B0 : Hid (Below w.heap.size w w0) := BA.out.trans (hb0.mono BA.out.size)
    clear hb0
    go_wp2_with (first
      | ((with_reducible refine wpList_load_oneG ?qqg527 3 ?qqx527 ?qqo527 w.heap.size 0 ?qqh527 (.int .i64 z0) Tryz.rObj_int (O0.out.cell 0 _ E0.out) ?_); (case qqg527 => rfl); (case qqo527 => rfl); (case qqh527 => first | (simp; done) | (simp [Act.eval]; done) | (simp only [Act.put]; simp; done) | (simp only [Act.put]; simp [Act.eval]; done)))
      | ((with_reducible refine wpList_load_oneG ?qqg528 9 ?qqx528 ?qqo528 w.heap.size 1 ?qqh528 (.string z1) Tryz.rObj_string (O0.out.cell 1 _ E1.out) ?_); (case qqg528 => rfl); (case qqo528 => rfl); (case qqh528 => first | (simp; done) | (simp [Act.eval]; done) | (simp only [Act.put]; simp; done) | (simp only [Act.put]; simp [Act.eval]; done)))
      | ((with_reducible refine wpList_load_oneG ?qqg529 3 ?qqx529 ?qqo529 w.heap.size 2 ?qqh529 (.int .i64 z2) Tryz.rObj_int (O0.out.cell 2 _ E2.out) ?_); (case qqg529 => rfl); (case qqo529 => rfl); (case qqh529 => first | (simp; done) | (simp [Act.eval]; done) | (simp only [Act.put]; simp; done) | (simp only [Act.put]; simp [Act.eval]; done)))
      | ((with_reducible refine wpList_load_oneG ?qqg530 3 ?qqx530 ?qqo530 w.heap.size 3 ?qqh530 (.int .i64 z3) Tryz.rObj_int (O0.out.cell 3 _ E3.out) ?_); (case qqg530 => rfl); (case qqo530 => rfl); (case qqh530 => first | (simp; done) | (simp [Act.eval]; done) | (simp only [Act.put]; simp; done) | (simp only [Act.put]; simp [Act.eval]; done)))
      | ((with_reducible refine wpList_load_oneG ?qqg531 3 ?qqx531 ?qqo531 w.heap.size 4 ?qqh531 (.int .i64 z4) Tryz.rObj_int (O0.out.cell 4 _ E4.out) ?_); (case qqg531 => rfl); (case qqo531 => rfl); (case qqh531 => first | (simp; done) | (simp [Act.eval]; done) | (simp only [Act.put]; simp; done) | (simp only [Act.put]; simp [Act.eval]; done)))
      | ((with_reducible refine wpList_load_oneG ?qqg532 4 ?qqx532 ?qqo532 w.heap.size 5 ?qqh532 (.bool z5) Tryz.rObj_bool (O0.out.cell 5 _ E5.out) ?_); (case qqg532 => rfl); (case qqo532 => rfl); (case qqh532 => first | (simp; done) | (simp [Act.eval]; done) | (simp only [Act.put]; simp; done) | (simp only [Act.put]; simp [Act.eval]; done)))
      | ((with_reducible refine wpList_load_oneG ?qqg533 28 ?qqx533 ?qqo533 w.heap.size 6 ?qqh533 ((.slice a6 n6 cp6)) Tryz.rObj_Lstring (O0.out.cell 6 _ E6.out) ?_); (case qqg533 => rfl); (case qqo533 => rfl); (case qqh533 => first | (simp; done) | (simp [Act.eval]; done) | (simp only [Act.put]; simp; done) | (simp only [Act.put]; simp [Act.eval]; done)))
      | ((with_reducible refine wpList_load_rowG ?qqg534 31 ?qqx534 ?qqo534 w.heap.size 7 ?qqh534 y7 Tryz.rObj_impl_Value YZ7.out (O0.out.range 7 _ E7.out) ?_); (case qqg534 => rfl); (case qqo534 => rfl); (case qqh534 => first | (simp; done) | (simp [Act.eval]; done) | (simp only [Act.put]; simp; done) | (simp only [Act.put]; simp [Act.eval]; done)))
      | ((with_reducible refine wpList_load_rowG ?qqg535 31 ?qqx535 ?qqo535 w.heap.size 12 ?qqh535 y8 Tryz.rObj_impl_Value YZ8.out (O0.out.range 12 _ E8.out) ?_); (case qqg535 => rfl); (case qqo535 => rfl); (case qqh535 => first | (simp; done) | (simp [Act.eval]; done) | (simp only [Act.put]; simp; done) | (simp only [Act.put]; simp [Act.eval]; done)))
      )
    refine (HK1.out _ B0.out).mono ?_
    rintro e w1 ⟨rfl, hb1⟩
    have O1 := uhide (O0.out.below hb1)
    have B1 : Hid (Below w.heap.size w w1) := B0.out.trans (hb1.mono B0.out.size)
    clear hb1
    go_wp2_with (first
      | ((with_reducible refine wpList_load_oneG ?qqg543 3 ?qqx543 ?qqo543 w.heap.size 0 ?qqh543 (.int .i64 z0) Tryz.rObj_int (O1.out.cell 0 _ E0.out) ?_); (case qqg543 => rfl); (case qqo543 => rfl); (case qqh543 => first | (simp; done) | (simp [Act.eval]; done) | (simp only [Act.put]; simp; done) | (simp only [Act.put]; simp [Act.eval]; done)))
      | ((with_reducible refine wpList_load_oneG ?qqg544 9 ?qqx544 ?qqo544 w.heap.size 1 ?qqh544 (.string z1) Tryz.rObj_string (O1.out.cell 1 _ E1.out) ?_); (case qqg544 => rfl); (case qqo544 => rfl); (case qqh544 => first | (simp; done) | (simp [Act.eval]; done) | (simp only [Act.put]; simp; done) | (simp only [Act.put]; simp [Act.eval]; done)))
      | ((with_reducible refine wpList_load_oneG ?qqg545 3 ?qqx545 ?qqo545 w.heap.size 2 ?qqh545 (.int .i64 z2) Tryz.rObj_int (O1.out.cell 2 _ E2.out) ?_); (case qqg545 => rfl); (case qqo545 => rfl); (case qqh545 => first | (simp; done) | (simp [Act.eval]; done) | (simp only [Act.put]; simp; done) | (simp only [Act.put]; simp [Act.eval]; done)))
      | ((with_reducible refine wpList_load_oneG ?qqg546 3 ?qqx546 ?qqo546 w.heap.size 3 ?qqh546 (.int .i64 z3) Tryz.rObj_int (O1.out.cell 3 _ E3.out) ?_); (case qqg546 => rfl); (case qqo546 => rfl); (case qqh546 => first | (simp; done) | (simp [Act.eval]; done) | (simp only [Act.put]; simp; done) | (simp only [Act.put]; simp [Act.eval]; done)))
      | ((with_reducible refine wpList_load_oneG ?qqg547 3 ?qqx547 ?qqo547 w.heap.size 4 ?qqh547 (.int .i64 z4) Tryz.rObj_int (O1.out.cell 4 _ E4.out) ?_); (case qqg547 => rfl); (case qqo547 => rfl); (case qqh547 => first | (simp; done) | (simp [Act.eval]; done) | (simp only [Act.put]; simp; done) | (simp only [Act.put]; simp [Act.eval]; done)))
      | ((with_reducible refine wpList_load_oneG ?qqg548 4 ?qqx548 ?qqo548 w.heap.size 5 ?qqh548 (.bool z5) Tryz.rObj_bool (O1.out.cell 5 _ E5.out) ?_); (case qqg548 => rfl); (case qqo548 => rfl); (case qqh548 => first | (simp; done) | (simp [Act.eval]; done) | (simp only [Act.put]; simp; done) | (simp only [Act.put]; simp [Act.eval]; done)))
      | ((with_reducible refine wpList_load_oneG ?qqg549 28 ?qqx549 ?qqo549 w.heap.size 6 ?qqh549 ((.slice a6 n6 cp6)) Tryz.rObj_Lstring (O1.out.cell 6 _ E6.out) ?_); (case qqg549 => rfl); (case qqo549 => rfl); (case qqh549 => first | (simp; done) | (simp [Act.eval]; done) | (simp only [Act.put]; simp; done) | (simp only [Act.put]; simp [Act.eval]; done)))
      | ((with_reducible refine wpList_load_rowG ?qqg550 31 ?qqx550 ?qqo550 w.heap.size 7 ?qqh550 y7 Tryz.rObj_impl_Value YZ7.out (O1.out.range 7 _ E7.out) ?_); (case qqg550 => rfl); (case qqo550 => rfl); (case qqh550 => first | (simp; done) | (simp [Act.eval]; done) | (simp only [Act.put]; simp; done) | (simp only [Act.put]; simp [Act.eval]; done)))
      | ((with_reducible refine wpList_load_rowG ?qqg551 31 ?qqx551 ?qqo551 w.heap.size 12 ?qqh551 y8 Tryz.rObj_impl_Value YZ8.out (O1.out.range 12 _ E8.out) ?_); (case qqg551 => rfl); (case qqo551 => rfl); (case qqh551 => first | (simp; done) | (simp [Act.eval]; done) | (simp only [Act.put]; simp; done) | (simp only [Act.put]; simp [Act.eval]; done)))
      )
    refine (HK2.out _ B1.out).mono ?_
    rintro e w2 ⟨rfl, hb2⟩
    have O2 := uhide (O1.out.below hb2)
    have B2 : Hid (Below w.heap.size w w2) := B1.out.trans (hb2.mono B1.out.size)
    clear hb2
    go_wp2_with (first
      | ((with_reducible refine wpList_load_oneG ?qqg559 3 ?qqx559 ?qqo559 w.heap.size 0 ?qqh559 (.int .i64 z0) Tryz.rObj_int (O2.out.cell 0 _ E0.out) ?_); (case qqg559 => rfl); (case qqo559 => rfl); (case qqh559 => first | (simp; done) | (simp [Act.eval]; done) | (simp only [Act.put]; simp; done) | (simp only [Act.put]; simp [Act.eval]; done)))
      | ((with_reducible refine wpList_load_oneG ?qqg560 9 ?qqx560 ?qqo560 w.heap.size 1 ?qqh560 (.string z1) Tryz.rObj_string (O2.out.cell 1 _ E1.out) ?_); (case qqg560 => rfl); (case qqo560 => rfl); (case qqh560 => first | (simp; done) | (simp [Act.eval]; done) | (simp only [Act.put]; simp; done) | (simp only [Act.put]; simp [Act.eval]; done)))
      | ((with_reducible refine wpList_load_oneG ?qqg561 3 ?qqx561 ?qqo561 w.heap.size 2 ?qqh561 (.int .i64 z2) Tryz.rObj_int (O2.out.cell 2 _ E2.out) ?_); (case qqg561 => rfl); (case qqo561 => rfl); (case qqh561 => first | (simp; done) | (simp [Act.eval]; done) | (simp only [Act.put]; simp; done) | (simp only [Act.put]; simp [Act.eval]; done)))
      | ((with_reducible refine wpList_load_oneG ?qqg562 3 ?qqx562 ?qqo562 w.heap.size 3 ?qqh562 (.int .i64 z3) Tryz.rObj_int (O2.out.cell 3 _ E3.out) ?_); (case qqg562 => rfl); (case qqo562 => rfl); (case qqh562 => first | (simp; done) | (simp [Act.eval]; done) | (simp only [Act.put]; simp; done) | (simp only [Act.put]; simp [Act.eval]; done)))
      | ((with_reducible refine wpList_load_oneG ?qqg563 3 ?qqx563 ?qqo563 w.heap.size 4 ?qqh563 (.int .i64 z4) Tryz.rObj_int (O2.out.cell 4 _ E4.out) ?_); (case qqg563 => rfl); (case qqo563 => rfl); (case qqh563 => first | (simp; done) | (simp [Act.eval]; done) | (simp only [Act.put]; simp; done) | (simp only [Act.put]; simp [Act.eval]; done)))
      | ((with_reducible refine wpList_load_oneG ?qqg564 4 ?qqx564 ?qqo564 w.heap.size 5 ?qqh564 (.bool z5) Tryz.rObj_bool (O2.out.cell 5 _ E5.out) ?_); (case qqg564 => rfl); (case qqo564 => rfl); (case qqh564 => first | (simp; done) | (simp [Act.eval]; done) | (simp only [Act.put]; simp; done) | (simp only [Act.put]; simp [Act.eval]; done)))
      | ((with_reducible refine wpList_load_oneG ?qqg565 28 ?qqx565 ?qqo565 w.heap.size 6 ?qqh565 ((.slice a6 n6 cp6)) Tryz.rObj_Lstring (O2.out.cell 6 _ E6.out) ?_); (case qqg565 => rfl); (case qqo565 => rfl); (case qqh565 => first | (simp; done) | (simp [Act.eval]; done) | (simp only [Act.put]; simp; done) | (simp only [Act.put]; simp [Act.eval]; done)))
      | ((with_reducible refine wpList_load_rowG ?qqg566 31 ?qqx566 ?qqo566 w.heap.size 7 ?qqh566 y7 Tryz.rObj_impl_Value YZ7.out (O2.out.range 7 _ E7.out) ?_); (case qqg566 => rfl); (case qqo566 => rfl); (case qqh566 => first | (simp; done) | (simp [Act.eval]; done) | (simp only [Act.put]; simp; done) | (simp only [Act.put]; simp [Act.eval]; done)))
      | ((with_reducible refine wpList_load_rowG ?qqg567 31 ?qqx567 ?qqo567 w.heap.size 12 ?qqh567 y8 Tryz.rObj_impl_Value YZ8.out (O2.out.range 12 _ E8.out) ?_); (case qqg567 => rfl); (case qqo567 => rfl); (case qqh567 => first | (simp; done) | (simp [Act.eval]; done) | (simp only [Act.put]; simp; done) | (simp only [Act.put]; simp [Act.eval]; done)))
      )
    refine (HK3.out _ B2.out).mono ?_
    rintro e w3 ⟨rfl, hb3⟩
    have O3 := uhide (O2.out.below hb3)
    have B3 : Hid (Below w.heap.size w w3) := B2.out.trans (hb3.mono B2.out.size)
    clear hb3
    go_wp2_with (first
      | ((with_reducible refine wpList_load_oneG ?qqg575 3 ?qqx575 ?qqo575 w.heap.size 0 ?qqh575 (.int .i64 z0) Tryz.rObj_int (O3.out.cell 0 _ E0.out) ?_); (case qqg575 => rfl); (case qqo575 => rfl); (case qqh575 => first | (simp; done) | (simp [Act.eval]; done) | (simp only [Act.put]; simp; done) | (simp only [Act.put]; simp [Act.eval]; done)))
      | ((with_reducible refine wpList_load_oneG ?qqg576 9 ?qqx576 ?qqo576 w.heap.size 1 ?qqh576 (.string z1) Tryz.rObj_string (O3.out.cell 1 _ E1.out) ?_); (case qqg576 => rfl); (case qqo576 => rfl); (case qqh576 => first | (simp; done) | (simp [Act.eval]; done) | (simp only [Act.put]; simp; done) | (simp only [Act.put]; simp [Act.eval]; done)))
      | ((with_reducible refine wpList_load_oneG ?qqg577 3 ?qqx577 ?qqo577 w.heap.size 2 ?qqh577 (.int .i64 z2) Tryz.rObj_int (O3.out.cell 2 _ E2.out) ?_); (case qqg577 => rfl); (case qqo577 => rfl); (case qqh577 => first | (simp; done) | (simp [Act.eval]; done) | (simp only [Act.put]; simp; done) | (simp only [Act.put]; simp [Act.eval]; done)))
      | ((with_reducible refine wpList_load_oneG ?qqg578 3 ?qqx578 ?qqo578 w.heap.size 3 ?qqh578 (.int .i64 z3) Tryz.rObj_int (O3.out.cell 3 _ E3.out) ?_); (case qqg578 => rfl); (case qqo578 => rfl); (case qqh578 => first | (simp; done) | (simp [Act.eval]; done) | (simp only [Act.put]; simp; done) | (simp only [Act.put]; simp [Act.eval]; done)))
      | ((with_reducible refine wpList_load_oneG ?qqg579 3 ?qqx579 ?qqo579 w.heap.size 4 ?qqh579 (.int .i64 z4) Tryz.rObj_int (O3.out.cell 4 _ E4.out) ?_); (case qqg579 => rfl); (case qqo579 => rfl); (case qqh579 => first | (simp; done) | (simp [Act.eval]; done) | (simp only [Act.put]; simp; done) | (simp only [Act.put]; simp [Act.eval]; done)))
      | ((with_reducible refine wpList_load_oneG ?qqg580 4 ?qqx580 ?qqo580 w.heap.size 5 ?qqh580 (.bool z5) Tryz.rObj_bool (O3.out.cell 5 _ E5.out) ?_); (case qqg580 => rfl); (case qqo580 => rfl); (case qqh580 => first | (simp; done) | (simp [Act.eval]; done) | (simp only [Act.put]; simp; done) | (simp only [Act.put]; simp [Act.eval]; done)))
      | ((with_reducible refine wpList_load_oneG ?qqg581 28 ?qqx581 ?qqo581 w.heap.size 6 ?qqh581 ((.slice a6 n6 cp6)) Tryz.rObj_Lstring (O3.out.cell 6 _ E6.out) ?_); (case qqg581 => rfl); (case qqo581 => rfl); (case qqh581 => first | (simp; done) | (simp [Act.eval]; done) | (simp only [Act.put]; simp; done) | (simp only [Act.put]; simp [Act.eval]; done)))
      | ((with_reducible refine wpList_load_rowG ?qqg582 31 ?qqx582 ?qqo582 w.heap.size 7 ?qqh582 y7 Tryz.rObj_impl_Value YZ7.out (O3.out.range 7 _ E7.out) ?_); (case qqg582 => rfl); (case qqo582 => rfl); (case qqh582 => first | (simp; done) | (simp [Act.eval]; done) | (simp only [Act.put]; simp; done) | (simp only [Act.put]; simp [Act.eval]; done)))
      | ((with_reducible refine wpList_load_rowG ?qqg583 31 ?qqx583 ?qqo583 w.heap.size 12 ?qqh583 y8 Tryz.rObj_impl_Value YZ8.out (O3.out.range 12 _ E8.out) ?_); (case qqg583 => rfl); (case qqo583 => rfl); (case qqh583 => first | (simp; done) | (simp [Act.eval]; done) | (simp only [Act.put]; simp; done) | (simp only [Act.put]; simp [Act.eval]; done)))
      )
    refine (HK4.out _ B3.out).mono ?_
    rintro e w4 ⟨rfl, hb4⟩
    have O4 := uhide (O3.out.below hb4)
    have B4 : Hid (Below w.heap.size w w4) := B3.out.trans (hb4.mono B3.out.size)
    clear hb4
    go_wp2_with (first
      | ((with_reducible refine wpList_load_oneG ?qqg591 3 ?qqx591 ?qqo591 w.heap.size 0 ?qqh591 (.int .i64 z0) Tryz.rObj_int (O4.out.cell 0 _ E0.out) ?_); (case qqg591 => rfl); (case qqo591 => rfl); (case qqh591 => first | (simp; done) | (simp [Act.eval]; done) | (simp only [Act.put]; simp; done) | (simp only [Act.put]; simp [Act.eval]; done)))
      | ((with_reducible refine wpList_load_oneG ?qqg592 9 ?qqx592 ?qqo592 w.heap.size 1 ?qqh592 (.string z1) Tryz.rObj_string (O4.out.cell 1 _ E1.out) ?_); (case qqg592 => rfl); (case qqo592 => rfl); (case qqh592 => first | (simp; done) | (simp [Act.eval]; done) | (simp only [Act.put]; simp; done) | (simp only [Act.put]; simp [Act.eval]; done)))
      | ((with_reducible refine wpList_load_oneG ?qqg593 3 ?qqx593 ?qqo593 w.heap.size 2 ?qqh593 (.int .i64 z2) Tryz.rObj_int (O4.out.cell 2 _ E2.out) ?_); (case qqg593 => rfl); (case qqo593 => rfl); (case qqh593 => first | (simp; done) | (simp [Act.eval]; done) | (simp only [Act.put]; simp; done) | (simp only [Act.put]; simp [Act.eval]; done)))
      | ((with_reducible refine wpList_load_oneG ?qqg594 3 ?qqx594 ?qqo594 w.heap.size 3 ?qqh594 (.int .i64 z3) Tryz.rObj_int (O4.out.cell 3 _ E3.out) ?_); (case qqg594 => rfl); (case qqo594 => rfl); (case qqh594 => first | (simp; done) | (simp [Act.eval]; done) | (simp only [Act.put]; simp; done) | (simp only [Act.put]; simp [Act.eval]; done)))
      | ((with_reducible refine wpList_load_oneG ?qqg595 3 ?qqx595 ?qqo595 w.heap.size 4 ?qqh595 (.int .i64 z4) Tryz.rObj_int (O4.out.cell 4 _ E4.out) ?_); (case qqg595 => rfl); (case qqo595 => rfl); (case qqh595 => first | (simp; done) | (simp [Act.eval]; done) | (simp only [Act.put]; simp; done) | (simp only [Act.put]; simp [Act.eval]; done)))
      | ((with_reducible refine wpList_load_oneG ?qqg596 4 ?qqx596 ?qqo596 w.heap.size 5 ?qqh596 (.bool z5) Tryz.rObj_bool (O4.out.cell 5 _ E5.out) ?_); (case qqg596 => rfl); (case qqo596 => rfl); (case qqh596 => first | (simp; done) | (simp [Act.eval]; done) | (simp only [Act.put]; simp; done) | (simp only [Act.put]; simp [Act.eval]; done)))
      | ((with_reducible refine wpList_load_oneG ?qqg597 28 ?qqx597 ?qqo597 w.heap.size 6 ?qqh597 ((.slice a6 n6 cp6)) Tryz.rObj_Lstring (O4.out.cell 6 _ E6.out) ?_); (case qqg597 => rfl); (case qqo597 => rfl); (case qqh597 => first | (simp; done) | (simp [Act.eval]; done) | (simp only [Act.put]; simp; done) | (simp only [Act.put]; simp [Act.eval]; done)))
      | ((with_reducible refine wpList_load_rowG ?qqg598 31 ?qqx598 ?qqo598 w.heap.size 7 ?qqh598 y7 Tryz.rObj_impl_Value YZ7.out (O4.out.range 7 _ E7.out) ?_); (case qqg598 => rfl); (case qqo598 => rfl); (case qqh598 => first | (simp; done) | (simp [Act.eval]; done) | (simp only [Act.put]; simp; done) | (simp only [Act.put]; simp [Act.eval]; done)))
      | ((with_reducible refine wpList_load_rowG ?qqg599 31 ?qqx599 ?qqo599 w.heap.size 12 ?qqh599 y8 Tryz.rObj_impl_Value YZ8.out (O4.out.range 12 _ E8.out) ?_); (case qqg599 => rfl); (case qqo599 => rfl); (case qqh599 => first | (simp; done) | (simp [Act.eval]; done) | (simp only [Act.put]; simp; done) | (simp only [Act.put]; simp [Act.eval]; done)))
      )
    refine (HK5.out _ B4.out).mono ?_
    rintro e w5 ⟨rfl, hb5⟩
    have O5 := uhide (O4.out.below hb5)
    have B5 : Hid (Below w.heap.size w w5) := B4.out.trans (hb5.mono B4.out.size)
    clear hb5
    go_wp2_with (first
      | ((with_reducible refine wpList_load_oneG ?qqg607 3 ?qqx607 ?qqo607 w.heap.size 0 ?qqh607 (.int .i64 z0) Tryz.rObj_int (O5.out.cell 0 _ E0.out) ?_); (case qqg607 => rfl); (case qqo607 => rfl); (case qqh607 => first | (simp; done) | (simp [Act.eval]; done) | (simp only [Act.put]; simp; done) | (simp only [Act.put]; simp [Act.eval]; done)))
      | ((with_reducible refine wpList_load_oneG ?qqg608 9 ?qqx608 ?qqo608 w.heap.size 1 ?qqh608 (.string z1) Tryz.rObj_string (O5.out.cell 1 _ E1.out) ?_); (case qqg608 => rfl); (case qqo608 => rfl); (case qqh608 => first | (simp; done) | (simp [Act.eval]; done) | (simp only [Act.put]; simp; done) | (simp only [Act.put]; simp [Act.eval]; done)))
      | ((with_reducible refine wpList_load_oneG ?qqg609 3 ?qqx609 ?qqo609 w.heap.size 2 ?qqh609 (.int .i64 z2) Tryz.rObj_int (O5.out.cell 2 _ E2.out) ?_); (case qqg609 => rfl); (case qqo609 => rfl); (case qqh609 => first | (simp; done) | (simp [Act.eval]; done) | (simp only [Act.put]; simp; done) | (simp only [Act.put]; simp [Act.eval]; done)))
      | ((with_reducible refine wpList_load_oneG ?qqg610 3 ?qqx610 ?qqo610 w.heap.size 3 ?qqh610 (.int .i64 z3) Tryz.rObj_int (O5.out.cell 3 _ E3.out) ?_); (case qqg610 => rfl); (case qqo610 => rfl); (case qqh610 => first | (simp; done) | (simp [Act.eval]; done) | (simp only [Act.put]; simp; done) | (simp only [Act.put]; simp [Act.eval]; done)))
      | ((with_reducible refine wpList_load_oneG ?qqg611 3 ?qqx611 ?qqo611 w.heap.size 4 ?qqh611 (.int .i64 z4) Tryz.rObj_int (O5.out.cell 4 _ E4.out) ?_); (case qqg611 => rfl); (case qqo611 => rfl); (case qqh611 => first | (simp; done) | (simp [Act.eval]; done) | (simp only [Act.put]; simp; done) | (simp only [Act.put]; simp [Act.eval]; done)))
      | ((with_reducible refine wpList_load_oneG ?qqg612 4 ?qqx612 ?qqo612 w.heap.size 5 ?qqh612 (.bool z5) Tryz.rObj_bool (O5.out.cell 5 _ E5.out) ?_); (case qqg612 => rfl); (case qqo612 => rfl); (case qqh612 => first | (simp; done) | (simp [Act.eval]; done) | (simp only [Act.put]; simp; done) | (simp only [Act.put]; simp [Act.eval]; done)))
      | ((with_reducible refine wpList_load_oneG ?qqg613 28 ?qqx613 ?qqo613 w.heap.size 6 ?qqh613 ((.slice a6 n6 cp6)) Tryz.rObj_Lstring (O5.out.cell 6 _ E6.out) ?_); (case qqg613 => rfl); (case qqo613 => rfl); (case qqh613 => first | (simp; done) | (simp [Act.eval]; done) | (simp only [Act.put]; simp; done) | (simp only [Act.put]; simp [Act.eval]; done)))
      | ((with_reducible refine wpList_load_rowG ?qqg614 31 ?qqx614 ?qqo614 w.heap.size 7 ?qqh614 y7 Tryz.rObj_impl_Value YZ7.out (O5.out.range 7 _ E7.out) ?_); (case qqg614 => rfl); (case qqo614 => rfl); (case qqh614 => first | (simp; done) | (simp [Act.eval]; done) | (simp only [Act.put]; simp; done) | (simp only [Act.put]; simp [Act.eval]; done)))
      | ((with_reducible refine wpList_load_rowG ?qqg615 31 ?qqx615 ?qqo615 w.heap.size 12 ?qqh615 y8 Tryz.rObj_impl_Value YZ8.out (O5.out.range 12 _ E8.out) ?_); (case qqg615 => rfl); (case qqo615 => rfl); (case qqh615 => first | (simp; done) | (simp [Act.eval]; done) | (simp only [Act.put]; simp; done) | (simp only [Act.put]; simp [Act.eval]; done)))
      )
    refine (HK6.out _ B5.out).mono ?_
    rintro e w6 ⟨rfl, hb6⟩
    have O6 := uhide (O5.out.below hb6)
    have B6 : Hid (Below w.heap.size w w6) := B5.out.trans (hb6.mono B5.out.size)
    clear hb6
    go_wp2
    go_ret
    exact ⟨ret_bool (by simp), B6.out⟩
  | true =>
  cases k7 with
  | false =>
    go_enter Tryz.func160, Tryz.ntmps160
    go_wp2_with (first
      | ((with_reducible refine wpList_load_oneG ?qqg630 3 ?qqx630 ?qqo630 w.heap.size 0 ?qqh630 (.int .i64 z0) Tryz.rObj_int (OA.out.cell 0 _ E0.out) ?_); (case qqg630 => rfl); (case qqo630 => rfl); (case qqh630 => first | (simp; done) | (simp [Act.eval]; done) | (simp only [Act.put]; simp; done) | (simp only [Act.put]; simp [Act.eval]; done)))
      | ((with_reducible refine wpList_load_oneG ?qqg631 9 ?qqx631 ?qqo631 w.heap.size 1 ?qqh631 (.string z1) Tryz.rObj_string (OA.out.cell 1 _ E1.out) ?_); (case qqg631 => rfl); (case qqo631 => rfl); (case qqh631 => first | (simp; done) | (simp [Act.eval]; done) | (simp only [Act.put]; simp; done) | (simp only [Act.put]; simp [Act.eval]; done)))
      | ((with_reducible refine wpList_load_oneG ?qqg632 3 ?qqx632 ?qqo632 w.heap.size 2 ?qqh632 (.int .i64 z2) Tryz.rObj_int (OA.out.cell 2 _ E2.out) ?_); (case qqg632 => rfl); (case qqo632 => rfl); (case qqh632 => first | (simp; done) | (simp [Act.eval]; done) | (simp only [Act.put]; simp; done) | (simp only [Act.put]; simp [Act.eval]; done)))
      | ((with_reducible refine wpList_load_oneG ?qqg633 3 ?qqx633 ?qqo633 w.heap.size 3 ?qqh633 (.int .i64 z3) Tryz.rObj_int (OA.out.cell 3 _ E3.out) ?_); (case qqg633 => rfl); (case qqo633 => rfl); (case qqh633 => first | (simp; done) | (simp [Act.eval]; done) | (simp only [Act.put]; simp; done) | (simp only [Act.put]; simp [Act.eval]; done)))
      | ((with_reducible refine wpList_load_oneG ?qqg634 3 ?qqx634 ?qqo634 w.heap.size 4 ?qqh634 (.int .i64 z4) Tryz.rObj_int (OA.out.cell 4 _ E4.out) ?_); (case qqg634 => rfl); (case qqo634 => rfl); (case qqh634 => first | (simp; done) | (simp [Act.eval]; done) | (simp only [Act.put]; simp; done) | (simp only [Act.put]; simp [Act.eval]; done)))
      | ((with_reducible refine wpList_load_oneG ?qqg635 4 ?qqx635 ?qqo635 w.heap.size 5 ?qqh635 (.bool z5) Tryz.rObj_bool (OA.out.cell 5 _ E5.out) ?_); (case qqg635 => rfl); (case qqo635 => rfl); (case qqh635 => first | (simp; done) | (simp [Act.eval]; done) | (simp only [Act.put]; simp; done) | (simp only [Act.put]; simp [Act.eval]; done)))
      | ((with_reducible refine wpList_load_oneG ?qqg636 28 ?qqx636 ?qqo636 w.heap.size 6 ?qqh636 ((.slice a6 n6 cp6)) Tryz.rObj_Lstring (OA.out.cell 6 _ E6.out) ?_); (case qqg636 => rfl); (case qqo636 => rfl); (case qqh636 => first | (simp; done) | (simp [Act.eval]; done) | (simp only [Act.put]; simp; done) | (simp only [Act.put]; simp [Act.eval]; done)))
      | ((with_reducible refine wpList_load_rowG ?qqg637 31 ?qqx637 ?qqo637 w.heap.size 7 ?qqh637 y7 Tryz.rObj_impl_Value YZ7.out (OA.out.range 7 _ E7.out) ?_); (case qqg637 => rfl); (case qqo637 => rfl); (case qqh637 => first | (simp; done) | (simp [Act.eval]; done) | (simp only [Act.put]; simp; done) | (simp only [Act.put]; simp [Act.eval]; done)))
      | ((with_reducible refine wpList_load_rowG ?qqg638 31 ?qqx638 ?qqo638 w.heap.size 12 ?qqh638 y8 Tryz.rObj_impl_Value YZ8.out (OA.out.range 12 _ E8.out) ?_); (case qqg638 => rfl); (case qqo638 => rfl); (case qqh638 => first | (simp; done) | (simp [Act.eval]; done) | (simp only [Act.put]; simp; done) | (simp only [Act.put]; simp [Act.eval]; done)))
      )
    refine (HK0.out _ BA.out).mono ?_
    rintro e w0 ⟨rfl, hb0⟩
    have O0 := uhide (OA.out.below hb0)
    have B0 : Hid (Below w.heap.size w w0) := BA.out.trans (hb0.mono BA.out.size)
    clear hb0
    go_wp2_with (first
      | ((with_reducible refine wpList_load_oneG ?qqg646 3 ?qqx646 ?qqo646 w.heap.size 0 ?qqh646 (.int .i64 z0) Tryz.rObj_int (O0.out.cell 0 _ E0.out) ?_); (case qqg646 => rfl); (case qqo646 => rfl); (case qqh646 => first | (simp; done) | (simp [Act.eval]; done) | (simp only [Act.put]; simp; done) | (simp only [Act.put]; simp [Act.eval]; done)))
      | ((with_reducible refine wpList_load_oneG ?qqg647 9 ?qqx647 ?qqo647 w.heap.size 1 ?qqh647 (.string z1) Tryz.rObj_string (O0.out.cell 1 _ E1.out) ?_); (case qqg647 => rfl); (case qqo647 => rfl); (case qqh647 => first | (simp; done) | (simp [Act.eval]; done) | (simp only [Act.put]; simp; done) | (simp only [Act.put]; simp [Act.eval]; done)))
      | ((with_reducible refine wpList_load_oneG ?qqg648 3 ?qqx648 ?qqo648 w.heap.size 2 ?qqh648 (.int .i64 z2) Tryz.rObj_int (O0.out.cell 2 _ E2.out) ?_); (case qqg648 => rfl); (case qqo648 => rfl); (case qqh648 => first | (simp; done) | (simp [Act.eval]; done) | (simp only [Act.put]; simp; done) | (simp only [Act.put]; simp [Act.eval]; done)))
      | ((with_reducible refine wpList_load_oneG ?qqg649 3 ?qqx649 ?qqo649 w.heap.size 3 ?qqh649 (.int .i64 z3) Tryz.rObj_int (O0.out.cell 3 _ E3.out) ?_); (case qqg649 => rfl); (case qqo649 => rfl); (case qqh649 => first | (simp; done) | (simp [Act.eval]; done) | (simp only [Act.put]; simp; done) | (simp only [Act.put]; simp [Act.eval]; done)))
      | ((with_reducible refine wpList_load_oneG ?qqg650 3 ?qqx650 ?qqo650 w.heap.size 4 ?qqh650 (.int .i64 z4) Tryz.rObj_int (O0.out.cell 4 _ E4.out) ?_); (case qqg650 => rfl); (case qqo650 => rfl); (case qqh650 => first | (simp; done) | (simp [Act.eval]; done) | (simp only [Act.put]; simp; done) | (simp only [Act.put]; simp [Act.eval]; done)))
      | ((with_reducible refine wpList_load_oneG ?qqg651 4 ?qqx651 ?qqo651 w.heap.size 5 ?qqh651 (.bool z5) Tryz.rObj_bool (O0.out.cell 5 _ E5.out) ?_); (case qqg651 => rfl); (case qqo651 => rfl); (case qqh651 => first | (simp; done) | (simp [Act.eval]; done) | (simp only [Act.put]; simp; done) | (simp only [Act.put]; simp [Act.eval]; done)))
      | ((with_reducible refine wpList_load_oneG ?qqg652 28 ?qqx652 ?qqo652 w.heap.size 6 ?qqh652 ((.slice a6 n6 cp6)) Tryz.rObj_Lstring (O0.out.cell 6 _ E6.out) ?_); (case qqg652 => rfl); (case qqo652 => rfl); (case qqh652 => first | (simp; done) | (simp [Act.eval]; done) | (simp only [Act.put]; simp; done) | (simp only [Act.put]; simp [Act.eval]; done)))
      | ((with_reducible refine wpList_load_rowG ?qqg653 31 ?qqx653 ?qqo653 w.heap.size 7 ?qqh653 y7 Tryz.rObj_impl_Value YZ7.out (O0.out.range 7 _ E7.out) ?_); (case qqg653 => rfl); (case qqo653 => rfl); (case qqh653 => first | (simp; done) | (simp [Act.eval]; done) | (simp only [Act.put]; simp; done) | (simp only [Act.put]; simp [Act.eval]; done)))
      | ((with_reducible refine wpList_load_rowG ?qqg654 31 ?qqx654 ?qqo654 w.heap.size 12 ?qqh654 y8 Tryz.rObj_impl_Value YZ8.out (O0.out.range 12 _ E8.out) ?_); (case qqg654 => rfl); (case qqo654 => rfl); (case qqh654 => first | (simp; done) | (simp [Act.eval]; done) | (simp only [Act.put]; simp; done) | (simp only [Act.put]; simp [Act.eval]; done)))
      )
    refine (HK1.out _ B0.out).mono ?_
    rintro e w1 ⟨rfl, hb1⟩
    have O1 := uhide (O0.out.below hb1)
    have B1 : Hid (Below w.heap.size w w1) := B0.out.trans (hb1.mono B0.out.size)
    clear hb1
    go_wp2_with (first
      | ((with_reducible refine wpList_load_oneG ?qqg662 3 ?qqx662 ?qqo662 w.heap.size 0 ?qqh662 (.int .i64 z0) Tryz.rObj_int (O1.out.cell 0 _ E0.out) ?_); (case qqg662 => rfl); (case qqo662 => rfl); (case qqh662 => first | (simp; done) | (simp [Act.eval]; done) | (simp only [Act.put]; simp; done) | (simp only [Act.put]; simp [Act.eval]; done)))
      | ((with_reducible refine wpList_load_oneG ?qqg663 9 ?qqx663 ?qqo663 w.heap.size 1 ?qqh663 (.string z1) Tryz.rObj_string (O1.out.cell 1 _ E1.out) ?_); (case qqg663 => rfl); (case qqo663 => rfl); (case qqh663 => first | (simp; done) | (simp [Act.eval]; done) | (simp only [Act.put]; simp; done) | (simp only [Act.put]; simp [Act.eval]; done)))
      | ((with_reducible refine wpList_load_oneG ?qqg664 3 ?qqx664 ?qqo664 w.heap.size 2 ?qqh664 (.int .i64 z2) Tryz.rObj_int (O1.out.cell 2 _ E2.out) ?_); (case qqg664 => rfl); (case qqo664 => rfl); (case qqh664 => first | (simp; done) | (simp [Act.eval]; done) | (simp only [Act.put]; simp; done) | (simp only [Act.put]; simp [Act.eval]; done)))
      | ((with_reducible refine wpList_load_oneG ?qqg665 3 ?qqx665 ?qqo665 w.heap.size 3 ?qqh665 (.int .i64 z3) Tryz.rObj_int (O1.out.cell 3 _ E3.out) ?_); (case qqg665 => rfl); (case qqo665 => rfl); (case qqh665 => first | (simp; done) | (simp [Act.eval]; done) | (simp only [Act.put]; simp; done) | (simp only [Act.put]; simp [Act.eval]; done)))
      | ((with_reducible refine wpList_load_oneG ?qqg666 3 ?qqx666 ?qqo666 w.heap.size 4 ?qqh666 (.int .i64 z4) Tryz.rObj_int (O1.out.cell 4 _ E4.out) ?_); (case qqg666 => rfl); (case qqo666 => rfl); (case qqh666 => first | (simp; done) | (simp [Act.eval]; done) | (simp only [Act.put]; simp; done) | (simp only [Act.put]; simp [Act.eval]; done)))
      | ((with_reducible refine wpList_load_oneG ?qqg667 4 ?qqx667 ?qqo667 w.heap.size 5 ?qqh667 (.bool z5) Tryz.rObj_bool (O1.out.cell 5 _ E5.out) ?_); (case qqg667 => rfl); (case qqo667 => rfl); (case qqh667 => first | (simp; done) | (simp [Act.eval]; done) | (simp only [Act.put]; simp; done) | (simp only [Act.put]; simp [Act.eval]; done)))
      | ((with_reducible refine wpList_load_oneG ?qqg668 28 ?qqx668 ?qqo668 w.heap.size 6 ?qqh668 ((.slice a6 n6 cp6)) Tryz.rObj_Lstring (O1.out.cell 6 _ E6.out) ?_); (case qqg668 => rfl); (case qqo668 => rfl); (case qqh668 => first | (simp; done) | (simp [Act.eval]; done) | (simp only [Act.put]; simp; done) | (simp only [Act.put]; simp [Act.eval]; done)))
      | ((with_reducible refine wpList_load_rowG ?qqg669 31 ?qqx669 ?qqo669 w.heap.size 7 ?qqh669 y7 Tryz.rObj_impl_Value YZ7.out (O1.out.range 7 _ E7.out) ?_); (case qqg669 => rfl); (case qqo669 => rfl); (case qqh669 => first | (simp; done) | (simp [Act.eval]; done) | (simp only [Act.put]; simp; done) | (simp only [Act.put]; simp [Act.eval]; done)))
      | ((with_reducible refine wpList_load_rowG ?qqg670 31 ?qqx670 ?qqo670 w.heap.size 12 ?qqh670 y8 Tryz.rObj_impl_Value YZ8.out (O1.out.range 12 _ E8.out) ?_); (case qqg670 => rfl); (case qqo670 => rfl); (case qqh670 => first | (simp; done) | (simp [Act.eval]; done) | (simp only [Act.put]; simp; done) | (simp only [Act.put]; simp [Act.eval]; done)))
      )
    refine (HK2.out _ B1.out).mono ?_
    rintro e w2 ⟨rfl, hb2⟩
    have O2 := uhide (O1.out.below hb2)
    have B2 : Hid (Below w.heap.size w w2) := B1.out.trans (hb2.mono B1.out.size)
    clear hb2
    go_wp2_with (first
      | ((with_reducible refine wpList_load_oneG ?qqg678 3 ?qqx678 ?qqo678 w.heap.size 0 ?qqh678 (.int .i64 z0) Tryz.rObj_int (O2.out.cell 0 _ E0.out) ?_); (case qqg678 => rfl); (case qqo678 => rfl); (case qqh678 => first | (simp; done) | (simp [Act.eval]; done) | (simp only [Act.put]; simp; done) | (simp only [Act.put]; simp [Act.eval]; done)))
      | ((with_reducible refine wpList_load_oneG ?qqg679 9 ?qqx679 ?qqo679 w.heap.size 1 ?qqh679 (.string z1) Tryz.rObj_string (O2.out.cell 1 _ E1.out) ?_); (case qqg679 => rfl); (case qqo679 => rfl); (case qqh679 => first | (simp; done) | (simp [Act.eval]; done) | (simp only [Act.put]; simp; done) | (simp only [Act.put]; simp [Act.eval]; done)))
      | ((with_reducible refine wpList_load_oneG ?qqg680 3 ?qqx680 ?qqo680 w.heap.size 2 ?qqh680 (.int .i64 z2) Tryz.rObj_int (O2.out.cell 2 _ E2.out) ?_); (case qqg680 => rfl); (case qqo680 => rfl); (case qqh680 => first | (simp; done) | (simp [Act.eval]; done) | (simp only [Act.put]; simp; done) | (simp only [Act.put]; simp [Act.eval]; done)))
      | ((with_reducible refine wpList_load_oneG ?qqg681 3 ?qqx681 ?qqo681 w.heap.size 3 ?qqh681 (.int .i64 z3) Tryz.rObj_int (O2.out.cell 3 _ E3.out) ?_); (case qqg681 => rfl); (case qqo681 => rfl); (case qqh681 => first | (simp; done) | (simp [Act.eval]; done) | (simp only [Act.put]; simp; done) | (simp only [Act.put]; simp [Act.eval]; done)))
      | ((with_reducible refine wpList_load_oneG ?qqg682 3 ?qqx682 ?qqo682 w.heap.size 4 ?qqh682 (.int .i64 z4) Tryz.rObj_int (O2.out.cell 4 _ E4.out) ?_); (case qqg682 => rfl); (case qqo682 => rfl); (case qqh682 => first | (simp; done) | (simp [Act.eval]; done) | (simp only [Act.put]; simp; done) | (simp only [Act.put]; simp [Act.eval]; done)))
      | ((with_reducible refine wpList_load_oneG ?qqg683 4 ?qqx683 ?qqo683 w.heap.size 5 ?qqh683 (.bool z5) Tryz.rObj_bool (O2.out.cell 5 _ E5.out) ?_); (case qqg683 => rfl); (case qqo683 => rfl); (case qqh683 => first | (simp; done) | (simp [Act.eval]; done) | (simp only [Act.put]; simp; done) | (simp only [Act.put]; simp [Act.eval]; done)))
      | ((with_reducible refine wpList_load_oneG ?qqg684 28 ?qqx684 ?qqo684 w.heap.size 6 ?qqh684 ((.slice a6 n6 cp6)) Tryz.rObj_Lstring (O2.out.cell 6 _ E6.out) ?_); (case qqg684 => rfl); (case qqo684 => rfl); (case qqh684 => first | (simp; done) | (simp [Act.eval]; done) | (simp only [Act.put]; simp; done) | (simp only [Act.put]; simp [Act.eval]; done)))
      | ((with_reducible refine wpList_load_rowG ?qqg685 31 ?qqx685 ?qqo685 w.heap.size 7 ?qqh685 y7 Tryz.rObj_impl_Value YZ7.out (O2.out.range 7 _ E7.out) ?_); (case qqg685 => rfl); (case qqo685 => rfl); (case qqh685 => first | (simp; done) | (simp [Act.eval]; done) | (simp only [Act.put]; simp; done) | (simp only [Act.put]; simp [Act.eval]; done)))
      | ((with_reducible refine wpList_load_rowG ?qqg686 31 ?qqx686 ?qqo686 w.heap.size 12 ?qqh686 y8 Tryz.rObj_impl_Value YZ8.out (O2.out.range 12 _ E8.out) ?_); (case qqg686 => rfl); (case qqo686 => rfl); (case qqh686 => first | (simp; done) | (simp [Act.eval]; done) | (simp only [Act.put]; simp; done) | (simp only [Act.put]; simp [Act.eval]; done)))
      )
    refine (HK3.out _ B2.out).mono ?_
    rintro e w3 ⟨rfl, hb3⟩
    have O3 := uhide (O2.out.below hb3)
    have B3 : Hid (Below w.heap.size w w3) := B2.out.trans (hb3.mono B2.out.size)
    clear hb3
    go_wp2_with (first
      | ((with_reducible refine wpList_load_oneG ?qqg694 3 ?qqx694 ?qqo694 w.heap.size 0 ?qqh694 (.int .i64 z0) Tryz.rObj_int (O3.out.cell 0 _ E0.out) ?_); (case qqg694 => rfl); (case qqo694 => rfl); (case qqh694 => first | (simp; done) | (simp [Act.eval]; done) | (simp only [Act.put]; simp; done) | (simp only [Act.put]; simp [Act.eval]; done)))
      | ((with_reducible refine wpList_load_oneG ?qqg695 9 ?qqx695 ?qqo695 w.heap.size 1 ?qqh695 (.string z1) Tryz.rObj_string (O3.out.cell 1 _ E1.out) ?_); (case qqg695 => rfl); (case qqo695 => rfl); (case qqh695 => first | (simp; done) | (simp [Act.eval]; done) | (simp only [Act.put]; simp; done) | (simp only [Act.put]; simp [Act.eval]; done)))
      | ((with_reducible refine wpList_load_oneG ?qqg696 3 ?qqx696 ?qqo696 w.heap.size 2 ?qqh696 (.int .i64 z2) Tryz.rObj_int (O3.out.cell 2 _ E2.out) ?_); (case qqg696 => rfl); (case qqo696 => rfl); (case qqh696 => first | (simp; done) | (simp [Act.eval]; done) | (simp only [Act.put]; simp; done) | (simp only [Act.put]; simp [Act.eval]; done)))
      | ((with_reducible refine wpList_load_oneG ?qqg697 3 ?qqx697 ?qqo697 w.heap.size 3 ?qqh697 (.int .i64 z3) Tryz.rObj_int (O3.out.cell 3 _ E3.out) ?_); (case qqg697 => rfl); (case qqo697 => rfl); (case qqh697 => first | (simp; done) | (simp [Act.eval]; done) | (simp only [Act.put]; simp; done) | (simp only [Act.put]; simp [Act.eval]; done)))
      | ((with_reducible refine wpList_load_oneG ?qqg698 3 ?qqx698 ?qqo698 w.heap.size 4 ?qqh698 (.int .i64 z4) Tryz.rObj_int (O3.out.cell 4 _ E4.out) ?_); (case qqg698 => rfl); (case qqo698 => rfl); (case qqh698 => first | (simp; done) | (simp [Act.eval]; done) | (simp only [Act.put]; simp; done) | (simp only [Act.put]; simp [Act.eval]; done)))
      | ((with_reducible refine wpList_load_oneG ?qqg699 4 ?qqx699 ?qqo699 w.heap.size 5 ?qqh699 (.bool z5) Tryz.rObj_bool (O3.out.cell 5 _ E5.out) ?_); (case qqg699 => rfl); (case qqo699 => rfl); (case qqh699 => first | (simp; done) | (simp [Act.eval]; done) | (simp only [Act.put]; simp; done) | (simp only [Act.put]; simp [Act.eval]; done)))
      | ((with_reducible refine wpList_load_oneG ?qqg700 28 ?qqx700 ?qqo700 w.heap.size 6 ?qqh700 ((.slice a6 n6 cp6)) Tryz.rObj_Lstring (O3.out.cell 6 _ E6.out) ?_); (case qqg700 => rfl); (case qqo700 => rfl); (case qqh700 => first | (simp; done) | (simp [Act.eval]; done) | (simp only [Act.put]; simp; done) | (simp only [Act.put]; simp [Act.eval]; done)))
      | ((with_reducible refine wpList_load_rowG ?qqg701 31 ?qqx701 ?qqo701 w.heap.size 7 ?qqh701 y7 Tryz.rObj_impl_Value YZ7.out (O3.out.range 7 _ E7.out) ?_); (case qqg701 => rfl); (case qqo701 => rfl); (case qqh701 => first | (simp; done) | (simp [Act.eval]; done) | (simp only [Act.put]; simp; done) | (simp only [Act.put]; simp [Act.eval]; done)))
      | ((with_reducible refine wpList_load_rowG ?qqg702 31 ?qqx702 ?qqo702 w.heap.size 12 ?qqh702 y8 Tryz.rObj_impl_Value YZ8.out (O3.out.range 12 _ E8.out) ?_); (case qqg702 => rfl); (case qqo702 => rfl); (case qqh702 => first | (simp; done) | (simp [Act.eval]; done) | (simp only [Act.put]; simp; done) | (simp only [Act.put]; simp [Act.eval]; done)))
      )
    refine (HK4.out _ B3.out).mono ?_
    rintro e w4 ⟨rfl, hb4⟩
    have O4 := uhide (O3.out.below hb4)
    have B4 : Hid (Below w.heap.size w w4) := B3.out.trans (hb4.mono B3.out.size)
    clear hb4
    go_wp2_with (first
      | ((with_reducible refine wpList_load_oneG ?qqg710 3 ?qqx710 ?qqo710 w.heap.size 0 ?qqh710 (.int .i64 z0) Tryz.rObj_int (O4.out.cell 0 _ E0.out) ?_); (case qqg710 => rfl); (case qqo710 => rfl); (case qqh710 => first | (simp; done) | (simp [Act.eval]; done) | (simp only [Act.put]; simp; done) | (simp only [Act.put]; simp [Act.eval]; done)))
      | ((with_reducible refine wpList_load_oneG ?qqg711 9 ?qqx711 ?qqo711 w.heap.size 1 ?qqh711 (.string z1) Tryz.rObj_string (O4.out.cell 1 _ E1.out) ?_); (case qqg711 => rfl); (case qqo711 => rfl); (case qqh711 => first | (simp; done) | (simp [Act.eval]; done) | (simp only [Act.put]; simp; done) | (simp only [Act.put]; simp [Act.eval]; done)))
      | ((with_reducible refine wpList_load_oneG ?qqg712 3 ?qqx712 ?qqo712 w.heap.size 2 ?qqh712 (.int .i64 z2) Tryz.rObj_int (O4.out.cell 2 _ E2.out) ?_); (case qqg712 => rfl); (case qqo712 => rfl); (case qqh712 => first | (simp; done) | (simp [Act.eval]; done) | (simp only [Act.put]; simp; done) | (simp only [Act.put]; simp [Act.eval]; done)))
      | ((with_reducible refine wpList_load_oneG ?qqg713 3 ?qqx713 ?qqo713 w.heap.size 3 ?qqh713 (.int .i64 z3) Tryz.rObj_int (O4.out.cell 3 _ E3.out) ?_); (case qqg713 => rfl); (case qqo713 => rfl); (case qqh713 => first | (simp; done) | (simp [Act.eval]; done) | (simp only [Act.put]; simp; done) | (simp only [Act.put]; simp [Act.eval]; done)))
      | ((with_reducible refine wpList_load_oneG ?qqg714 3 ?qqx714 ?qqo714 w.heap.size 4 ?qqh714 (.int .i64 z4) Tryz.rObj_int (O4.out.cell 4 _ E4.out) ?_); (case qqg714 => rfl); (case qqo714 => rfl); (case qqh714 => first | (simp; done) | (simp [Act.eval]; done) | (simp only [Act.put]; simp; done) | (simp only [Act.put]; simp [Act.eval]; done)))
      | ((with_reducible refine wpList_load_oneG ?qqg715 4 ?qqx715 ?qqo715 w.heap.size 5 ?qqh715 (.bool z5) Tryz.rObj_bool (O4.out.cell 5 _ E5.out) ?_); (case qqg715 => rfl); (case qqo715 => rfl); (case qqh715 => first | (simp; done) | (simp [Act.eval]; done) | (simp only [Act.put]; simp; done) | (simp only [Act.put]; simp [Act.eval]; done)))
      | ((with_reducible refine wpList_load_oneG ?qqg716 28 ?qqx716 ?qqo716 w.heap.size 6 ?qqh716 ((.slice a6 n6 cp6)) Tryz.rObj_Lstring (O4.out.cell 6 _ E6.out) ?_); (case qqg716 => rfl); (case qqo716 => rfl); (case qqh716 => first | (simp; done) | (simp [Act.eval]; done) | (simp only [Act.put]; simp; done) | (simp only [Act.put]; simp [Act.eval]; done)))
      | ((with_reducible refine wpList_load_rowG ?qqg717 31 ?qqx717 ?qqo717 w.heap.size 7 ?qqh717 y7 Tryz.rObj_impl_Value YZ7.out (O4.out.range 7 _ E7.out) ?_); (case qqg717 => rfl); (case qqo717 => rfl); (case qqh717 => first | (simp; done) | (simp [Act.eval]; done) | (simp only [Act.put]; simp; done) | (simp only [Act.put]; simp [Act.eval]; done)))
      | ((with_reducible refine wpList_load_rowG ?qqg718 31 ?qqx718 ?qqo718 w.heap.size 12 ?qqh718 y8 Tryz.rObj_impl_Value YZ8.out (O4.out.range 12 _ E8.out) ?_); (case qqg718 => rfl); (case qqo718 => rfl); (case qqh718 => first | (simp; done) | (simp [Act.eval]; done) | (simp only [Act.put]; simp; done) | (simp only [Act.put]; simp [Act.eval]; done)))
      )
    refine (HK5.out _ B4.out).mono ?_
    rintro e w5 ⟨rfl, hb5⟩
    have O5 := uhide (O4.out.below hb5)
    have B5 : Hid (Below w.heap.size w w5) := B4.out.trans (hb5.mono B4.out.size)
    clear hb5
    go_wp2_with (first
      | ((with_reducible refine wpList_load_oneG ?qqg726 3 ?qqx726 ?qqo726 w.heap.size 0 ?qqh726 (.int .i64 z0) Tryz.rObj_int (O5.out.cell 0 _ E0.out) ?_); (case qqg726 => rfl); (case qqo726 => rfl); (case qqh726 => first | (simp; done) | (simp [Act.eval]; done) | (simp only [Act.put]; simp; done) | (simp only [Act.put]; simp [Act.eval]; done)))
      | ((with_reducible refine wpList_load_oneG ?qqg727 9 ?qqx727 ?qqo727 w.heap.size 1 ?qqh727 (.string z1) Tryz.rObj_string (O5.out.cell 1 _ E1.out) ?_); (case qqg727 => rfl); (case qqo727 => rfl); (case qqh727 => first | (simp; done) | (simp [Act.eval]; done) | (simp only [Act.put]; simp; done) | (simp only [Act.put]; simp [Act.eval]; done)))
      | ((with_reducible refine wpList_load_oneG ?qqg728 3 ?qqx728 ?qqo728 w.heap.size 2 ?qqh728 (.int .i64 z2) Tryz.rObj_int (O5.out.cell 2 _ E2.out) ?_); (case qqg728 => rfl); (case qqo728 => rfl); (case qqh728 => first | (simp; done) | (simp [Act.eval]; done) | (simp only [Act.put]; simp; done) | (simp only [Act.put]; simp [Act.eval]; done)))
      | ((with_reducible refine wpList_load_oneG ?qqg729 3 ?qqx729 ?qqo729 w.heap.size 3 ?qqh729 (.int .i64 z3) Tryz.rObj_int (O5.out.cell 3 _ E3.out) ?_); (case qqg729 => rfl); (case qqo729 => rfl); (case qqh729 => first | (simp; done) | (simp [Act.eval]; done) | (simp only [Act.put]; simp; done) | (simp only [Act.put]; simp [Act.eval]; done)))
      | ((with_reducible refine wpList_load_oneG ?qqg730 3 ?qqx730 ?qqo730 w.heap.size 4 ?qqh730 (.int .i64 z4) Tryz.rObj_int (O5.out.cell 4 _ E4.out) ?_); (case qqg730 => rfl); (case qqo730 => rfl); (case qqh730 => first | (simp; done) | (simp [Act.eval]; done) | (simp only [Act.put]; simp; done) | (simp only [Act.put]; simp [Act.eval]; done)))
      | ((with_reducible refine wpList_load_oneG ?qqg731 4 ?qqx731 ?qqo731 w.heap.size 5 ?qqh731 (.bool z5) Tryz.rObj_bool (O5.out.cell 5 _ E5.out) ?_); (case qqg731 => rfl); (case qqo731 => rfl); (case qqh731 => first | (simp; done) | (simp [Act.eval]; done) | (simp only [Act.put]; simp; done) | (simp only [Act.put]; simp [Act.eval]; done)))
      | ((with_reducible refine wpList_load_oneG ?qqg732 28 ?qqx732 ?qqo732 w.heap.size 6 ?qqh732 ((.slice a6 n6 cp6)) Tryz.rObj_Lstring (O5.out.cell 6 _ E6.out) ?_); (case qqg732 => rfl); (case qqo732 => rfl); (case qqh732 => first | (simp; done) | (simp [Act.eval]; done) | (simp only [Act.put]; simp; done) | (simp only [Act.put]; simp [Act.eval]; done)))
      | ((with_reducible refine wpList_load_rowG ?qqg733 31 ?qqx733 ?qqo733 w.heap.size 7 ?qqh733 y7 Tryz.rObj_impl_Value YZ7.out (O5.out.range 7 _ E7.out) ?_); (case qqg733 => rfl); (case qqo733 => rfl); (case qqh733 => first | (simp; done) | (simp [Act.eval]; done) | (simp only [Act.put]; simp; done) | (simp only [Act.put]; simp [Act.eval]; done)))
      | ((with_reducible refine wpList_load_rowG ?qqg734 31 ?qqx734 ?qqo734 w.heap.size 12 ?qqh734 y8 Tryz.rObj_impl_Value YZ8.out (O5.out.range 12 _ E8.out) ?_); (case qqg734 => rfl); (case qqo734 => rfl); (case qqh734 => first | (simp; done) | (simp [Act.eval]; done) | (simp only [Act.put]; simp; done) | (simp only [Act.put]; simp [Act.eval]; done)))
      )
    refine (HK6.out _ B5.out).mono ?_
    rintro e w6 ⟨rfl, hb6⟩
    have O6 := uhide (O5.out.below hb6)
    have B6 : Hid (Below w.heap.size w w6) := B5.out.trans (hb6.mono B5.out.size)
    clear hb6
    go_wp2_with (first
      | ((with_reducible refine wpList_load_oneG ?qqg742 3 ?qqx742 ?qqo742 w.heap.size 0 ?qqh742 (.int .i64 z0) Tryz.rObj_int (O6.out.cell 0 _ E0.out) ?_); (case qqg742 => rfl); (case qqo742 => rfl); (case qqh742 => first | (simp; done) | (simp [Act.eval]; done) | (simp only [Act.put]; simp; done) | (simp only [Act.put]; simp [Act.eval]; done)))
      | ((with_reducible refine wpList_load_oneG ?qqg743 9 ?qqx743 ?qqo743 w.heap.size 1 ?qqh743 (.string z1) Tryz.rObj_string (O6.out.cell 1 _ E1.out) ?_); (case qqg743 => rfl); (case qqo743 => rfl); (case qqh743 => first | (simp; done) | (simp [Act.eval]; done) | (simp only [Act.put]; simp; done) | (simp only [Act.put]; simp [Act.eval]; done)))
      | ((with_reducible refine wpList_load_oneG ?qqg744 3 ?qqx744 ?qqo744 w.heap.size 2 ?qqh744 (.int .i64 z2) Tryz.rObj_int (O6.out.cell 2 _ E2.out) ?_); (case qqg744 => rfl); (case qqo744 => rfl); (case qqh744 => first | (simp; done) | (simp [Act.eval]; done) | (simp only [Act.put]; simp; done) | (simp only [Act.put]; simp [Act.eval]; done)))
      | ((with_reducible refine wpList_load_oneG ?qqg745 3 ?qqx745 ?qqo745 w.heap.size 3 ?qqh745 (.int .i64 z3) Tryz.rObj_int (O6.out.cell 3 _ E3.out) ?_); (case qqg745 => rfl); (case qqo745 => rfl); (case qqh745 => first | (simp; done) | (simp [Act.eval]; done) | (simp only [Act.put]; simp; done) | (simp only [Act.put]; simp [Act.eval]; done)))
      | ((with_reducible refine wpList_load_oneG ?qqg746 3 ?qqx746 ?qqo746 w.heap.size 4 ?qqh746 (.int .i64 z4) Tryz.rObj_int (O6.out.cell 4 _ E4.out) ?_); (case qqg746 => rfl); (case qqo746 => rfl); (case qqh746 => first | (simp; done) | (simp [Act.eval]; done) | (simp only [Act.put]; simp; done) | (simp only [Act.put]; simp [Act.eval]; done)))
      | ((with_reducible refine wpList_load_oneG ?qqg747 4 ?qqx747 ?qqo747 w.heap.size 5 ?qqh747 (.bool z5) Tryz.rObj_bool (O6.out.cell 5 _ E5.out) ?_); (case qqg747 => rfl); (case qqo747 => rfl); (case qqh747 => first | (simp; done) | (simp [Act.eval]; done) | (simp only [Act.put]; simp; done) | (simp only [Act.put]; simp [Act.eval]; done)))
      | ((with_reducible refine wpList_load_oneG ?qqg748 28 ?qqx748 ?qqo748 w.heap.size 6 ?qqh748 ((.slice a6 n6 cp6)) Tryz.rObj_Lstring (O6.out.cell 6 _ E6.out) ?_); (case qqg748 => rfl); (case qqo748 => rfl); (case qqh748 => first | (simp; done) | (simp [Act.eval]; done) | (simp only [Act.put]; simp; done) | (simp only [Act.put]; simp [Act.eval]; done)))
      | ((with_reducible refine wpList_load_rowG ?qqg749 31 ?qqx749 ?qqo749 w.heap.size 7 ?qqh749 y7 Tryz.rObj_impl_Value YZ7.out (O6.out.range 7 _ E7.out) ?_); (case qqg749 => rfl); (case qqo749 => rfl); (case qqh749 => first | (simp; done) | (simp [Act.eval]; done) | (simp only [Act.put]; simp; done) | (simp only [Act.put]; simp [Act.eval]; done)))
      | ((with_reducible refine wpList_load_rowG ?qqg750 31 ?qqx750 ?qqo750 w.heap.size 12 ?qqh750 y8 Tryz.rObj_impl_Value YZ8.out (O6.out.range 12 _ E8.out) ?_); (case qqg750 => rfl); (case qqo750 => rfl); (case qqh750 => first | (simp; done) | (simp [Act.eval]; done) | (simp only [Act.put]; simp; done) | (simp only [Act.put]; simp [Act.eval]; done)))
      )
    refine (HK7.out _ B6.out).mono ?_
    rintro e w7 ⟨rfl, hb7⟩
    have O7 := uhide (O6.out.below hb7)
    have B7 : Hid (Below w.heap.size w w7) := B6.out.trans (hb7.mono B6.out.size)
    clear hb7
    go_wp2
    go_ret
    exact ⟨ret_bool (by simp), B7.out⟩
  | true =>
  go_enter Tryz.func160, Tryz.ntmps160
  go_wp2_with (first
    | ((with_reducible refine wpList_load_oneG ?qqg763 3 ?qqx763 ?qqo763 w.heap.size 0 ?qqh763 (.int .i64 z0) Tryz.rObj_int (OA.out.cell 0 _ E0.out) ?_); (case qqg763 => rfl); (case qqo763 => rfl); (case qqh763 => first | (simp; done) | (simp [Act.eval]; done) | (simp only [Act.put]; simp; done) | (simp only [Act.put]; simp [Act.eval]; done)))
    | ((with_reducible refine wpList_load_oneG ?qqg764 9 ?qqx764 ?qqo764 w.heap.size 1 ?qqh764 (.string z1) Tryz.rObj_string (OA.out.cell 1 _ E1.out) ?_); (case qqg764 => rfl); (case qqo764 => rfl); (case qqh764 => first | (simp; done) | (simp [Act.eval]; done) | (simp only [Act.put]; simp; done) | (simp only [Act.put]; simp [Act.eval]; done)))
    | ((with_reducible refine wpList_load_oneG ?qqg765 3 ?qqx765 ?qqo765 w.heap.size 2 ?qqh765 (.int .i64 z2) Tryz.rObj_int (OA.out.cell 2 _ E2.out) ?_); (case qqg765 => rfl); (case qqo765 => rfl); (case qqh765 => first | (simp; done) | (simp [Act.eval]; done) | (simp only [Act.put]; simp; done) | (simp only [Act.put]; simp [Act.eval]; done)))
    | ((with_reducible refine wpList_load_oneG ?qqg766 3 ?qqx766 ?qqo766 w.heap.size 3 ?qqh766 (.int .i64 z3) Tryz.rObj_int (OA.out.cell 3 _ E3.out) ?_); (case qqg766 => rfl); (case qqo766 => rfl); (case qqh766 => first | (simp; done) | (simp [Act.eval]; done) | (simp only [Act.put]; simp; done) | (simp only [Act.put]; simp [Act.eval]; done)))
    | ((with_reducible refine wpList_load_oneG ?qqg767 3 ?qqx767 ?qqo767 w.heap.size 4 ?qqh767 (.int .i64 z4) Tryz.rObj_int (OA.out.cell 4 _ E4.out) ?_); (case qqg767 => rfl); (case qqo767 => rfl); (case qqh767 => first | (simp; done) | (simp [Act.eval]; done) | (simp only [Act.put]; simp; done) | (simp only [Act.put]; simp [Act.eval]; done)))
    | ((with_reducible refine wpList_load_oneG ?qqg768 4 ?qqx768 ?qqo768 w.heap.size 5 ?qqh768 (.bool z5) Tryz.rObj_bool (OA.out.cell 5 _ E5.out) ?_); (case qqg768 => rfl); (case qqo768 => rfl); (case qqh768 => first | (simp; done) | (simp [Act.eval]; done) | (simp only [Act.put]; simp; done) | (simp only [Act.put]; simp [Act.eval]; done)))
    | ((with_reducible refine wpList_load_oneG ?qqg769 28 ?qqx769 ?qqo769 w.heap.size 6 ?qqh769 ((.slice a6 n6 cp6)) Tryz.rObj_Lstring (OA.out.cell 6 _ E6.out) ?_); (case qqg769 => rfl); (case qqo769 => rfl); (case qqh769 => first | (simp; done) | (simp [Act.eval]; done) | (simp only [Act.put]; simp; done) | (simp only [Act.put]; simp [Act.eval]; done)))
    | ((with_reducible refine wpList_load_rowG ?qqg770 31 ?qqx770 ?qqo770 w.heap.size 7 ?qqh770 y7 Tryz.rObj_impl_Value YZ7.out (OA.out.range 7 _ E7.out) ?_); (case qqg770 => rfl); (case qqo770 => rfl); (case qqh770 => first | (simp; done) | (simp [Act.eval]; done) | (simp only [Act.put]; simp; done) | (simp only [Act.put]; simp [Act.eval]; done)))
    | ((with_reducible refine wpList_load_rowG ?qqg771 31 ?qqx771 ?qqo771 w.heap.size 12 ?qqh771 y8 Tryz.rObj_impl_Value YZ8.out (OA.out.range 12 _ E8.out) ?_); (case qqg771 => rfl); (case qqo771 => rfl); (case qqh771 => first | (simp; done) | (simp [Act.eval]; done) | (simp only [Act.put]; simp; done) | (simp only [Act.put]; simp [Act.eval]; done)))
    )
  refine (HK0.out _ BA.out).mono ?_
  rintro e w0 ⟨rfl, hb0⟩
  have O0 := uhide (OA.out.below hb0)
  have B0 : Hid (Below w.heap.size w w0) := BA.out.trans (hb0.mono BA.out.size)
  clear hb0
  go_wp2_with (first
    | ((with_reducible refine wpList_load_oneG ?qqg779 3 ?qqx779 ?qqo779 w.heap.size 0 ?qqh779 (.int .i64 z0) Tryz.rObj_int (O0.out.cell 0 _ E0.out) ?_); (case qqg779 => rfl); (case qqo779 => rfl); (case qqh779 => first | (simp; done) | (simp [Act.eval]; done) | (simp only [Act.put]; simp; done) | (simp only [Act.put]; simp [Act.eval]; done)))
    | ((with_reducible refine wpList_load_oneG ?qqg780 9 ?qqx780 ?qqo780 w.heap.size 1 ?qqh780 (.string z1) Tryz.rObj_string (O0.out.cell 1 _ E1.out) ?_); (case qqg780 => rfl); (case qqo780 => rfl); (case qqh780 => first | (simp; done) | (simp [Act.eval]; done) | (simp only [Act.put]; simp; done) | (simp only [Act.put]; simp [Act.eval]; done)))
    | ((with_reducible refine wpList_load_oneG ?qqg781 3 ?qqx781 ?qqo781 w.heap.size 2 ?qqh781 (.int .i64 z2) Tryz.rObj_int (O0.out.cell 2 _ E2.out) ?_); (case qqg781 => rfl); (case qqo781 => rfl); (case qqh781 => first | (simp; done) | (simp [Act.eval]; done) | (simp only [Act.put]; simp; done) | (simp only [Act.put]; simp [Act.eval]; done)))
    | ((with_reducible refine wpList_load_oneG ?qqg782 3 ?qqx782 ?qqo782 w.heap.size 3 ?qqh782 (.int .i64 z3) Tryz.rObj_int (O0.out.cell 3 _ E3.out) ?_); (case qqg782 => rfl); (case qqo782 => rfl); (case qqh782 => first | (simp; done) | (simp [Act.eval]; done) | (simp only [Act.put]; simp; done) | (simp only [Act.put]; simp [Act.eval]; done)))
    | ((with_reducible refine wpList_load_oneG ?qqg783 3 ?qqx783 ?qqo783 w.heap.size 4 ?qqh783 (.int .i64 z4) Tryz.rObj_int (O0.out.cell 4 _ E4.out) ?_); (case qqg783 => rfl); (case qqo783 => rfl); (case qqh783 => first | (simp; done) | (simp [Act.eval]; done) | (simp only [Act.put]; simp; done) | (simp only [Act.put]; simp [Act.eval]; done)))
    | ((with_reducible refine wpList_load_oneG ?qqg784 4 ?qqx784 ?qqo784 w.heap.size 5 ?qqh784 (.bool z5) Tryz.rObj_bool (O0.out.cell 5 _ E5.out) ?_); (case qqg784 => rfl); (case qqo784 => rfl); (case qqh784 => first | (simp; done) | (simp [Act.eval]; done) | (simp only [Act.put]; simp; done) | (simp only [Act.put]; simp [Act.eval]; done)))
    | ((with_reducible refine wpList_load_oneG ?qqg785 28 ?qqx785 ?qqo785 w.heap.size 6 ?qqh785 ((.slice a6 n6 cp6)) Tryz.rObj_Lstring (O0.out.cell 6 _ E6.out) ?_); (case qqg785 => rfl); (case qqo785 => rfl); (case qqh785 => first | (simp; done) | (simp [Act.eval]; done) | (simp only [Act.put]; simp; done) | (simp only [Act.put]; simp [Act.eval]; done)))
    | ((with_reducible refine wpList_load_rowG ?qqg786 31 ?qqx786 ?qqo786 w.heap.size 7 ?qqh786 y7 Tryz.rObj_impl_Value YZ7.out (O0.out.range 7 _ E7.out) ?_); (case qqg786 => rfl); (case qqo786 => rfl); (case qqh786 => first | (simp; done) | (simp [Act.eval]; done) | (simp only [Act.put]; simp; done) | (simp only [Act.put]; simp [Act.eval]; done)))
    | ((with_reducible refine wpList_load_rowG ?qqg787 31 ?qqx787 ?qqo787 w.heap.size 12 ?qqh787 y8 Tryz.rObj_impl_Value YZ8.out (O0.out.range 12 _ E8.out) ?_); (case qqg787 => rfl); (case qqo787 => rfl); (case qqh787 => first | (simp; done) | (simp [Act.eval]; done) | (simp only [Act.put]; simp; done) | (simp only [Act.put]; simp [Act.eval]; done)))
    )
  refine (HK1.out _ B0.out).mono ?_
  rintro e w1 ⟨rfl, hb1⟩
  have O1 := uhide (O0.out.below hb1)
  have B1 : Hid (Below w.heap.size w w1) := B0.out.trans (hb1.mono B0.out.size)
  clear hb1
  go_wp2_with (first
    | ((with_reducible refine wpList_load_oneG ?qqg795 3 ?qqx795 ?qqo795 w.heap.size 0 ?qqh795 (.int .i64 z0) Tryz.rObj_int (O1.out.cell 0 _ E0.out) ?_); (case qqg795 => rfl); (case qqo795 => rfl); (case qqh795 => first | (simp; done) | (simp [Act.eval]; done) | (simp only [Act.put]; simp; done) | (simp only [Act.put]; simp [Act.eval]; done)))
    | ((with_reducible refine wpList_load_oneG ?qqg796 9 ?qqx796 ?qqo796 w.heap.size 1 ?qqh796 (.string z1) Tryz.rObj_string (O1.out.cell 1 _ E1.out) ?_); (case qqg796 => rfl); (case qqo796 => rfl); (case qqh796 => first | (simp; done) | (simp [Act.eval]; done) | (simp only [Act.put]; simp; done) | (simp only [Act.put]; simp [Act.eval]; done)))
    | ((with_reducible refine wpList_load_oneG ?qqg797 3 ?qqx797 ?qqo797 w.heap.size 2 ?qqh797 (.int .i64 z2) Tryz.rObj_int (O1.out.cell 2 _ E2.out) ?_); (case qqg797 => rfl); (case qqo797 => rfl); (case qqh797 => first | (simp; done) | (simp [Act.eval]; done) | (simp only [Act.put]; simp; done) | (simp only [Act.put]; simp [Act.eval]; done)))
    | ((with_reducible refine wpList_load_oneG ?qqg798 3 ?qqx798 ?qqo798 w.heap.size 3 ?qqh798 (.int .i64 z3) Tryz.rObj_int (O1.out.cell 3 _ E3.out) ?_); (case qqg798 => rfl); (case qqo798 => rfl); (case qqh798 => first | (simp; done) | (simp [Act.eval]; done) | (simp only [Act.put]; simp; done) | (simp only [Act.put]; simp [Act.eval]; done)))
    | ((with_reducible refine wpList_load_oneG ?qqg799 3 ?qqx799 ?qqo799 w.heap.size 4 ?qqh799 (.int .i64 z4) Tryz.rObj_int (O1.out.cell 4 _ E4.out) ?_); (case qqg799 => rfl); (case qqo799 => rfl); (case qqh799 => first | (simp; done) | (simp [Act.eval]; done) | (simp only [Act.put]; simp; done) | (simp only [Act.put]; simp [Act.eval]; done)))
    | ((with_reducible refine wpList_load_oneG ?qqg800 4 ?qqx800 ?qqo800 w.heap.size 5 ?qqh800 (.bool z5) Tryz.rObj_bool (O1.out.cell 5 _ E5.out) ?_); (case qqg800 => rfl); (case qqo800 => rfl); (case qqh800 => first | (simp; done) | (simp [Act.eval]; done) | (simp only [Act.put]; simp; done) | (simp only [Act.put]; simp [Act.eval]; done)))
    | ((with_reducible refine wpList_load_oneG ?qqg801 28 ?qqx801 ?qqo801 w.heap.size 6 ?qqh801 ((.slice a6 n6 cp6)) Tryz.rObj_Lstring (O1.out.cell 6 _ E6.out) ?_); (case qqg801 => rfl); (case qqo801 => rfl); (case qqh801 => first | (simp; done) | (simp [Act.eval]; done) | (simp only [Act.put]; simp; done) | (simp only [Act.put]; simp [Act.eval]; done)))
    | ((with_reducible refine wpList_load_rowG ?qqg802 31 ?qqx802 ?qqo802 w.heap.size 7 ?qqh802 y7 Tryz.rObj_impl_Value YZ7.out (O1.out.range 7 _ E7.out) ?_); (case qqg802 => rfl); (case qqo802 => rfl); (case qqh802 => first | (simp; done) | (simp [Act.eval]; done) | (simp only [Act.put]; simp; done) | (simp only [Act.put]; simp [Act.eval]; done)))
    | ((with_reducible refine wpList_load_rowG ?qqg803 31 ?qqx803 ?qqo803 w.heap.size 12 ?qqh803 y8 Tryz.rObj_impl_Value YZ8.out (O1.out.range 12 _ E8.out) ?_); (case qqg803 => rfl); (case qqo803 => rfl); (case qqh803 => first | (simp; done) | (simp [Act.eval]; done) | (simp only [Act.put]; simp; done) | (simp only [Act.put]; simp [Act.eval]; done)))
    )
  refine (HK2.out _ B1.out).mono ?_
  rintro e w2 ⟨rfl, hb2⟩
  have O2 := uhide (O1.out.below hb2)
  have B2 : Hid (Below w.heap.size w w2) := B1.out.trans (hb2.mono B1.out.size)
  clear hb2
  go_wp2_with (first
    | ((with_reducible refine wpList_load_oneG ?qqg811 3 ?qqx811 ?qqo811 w.heap.size 0 ?qqh811 (.int .i64 z0) Tryz.rObj_int (O2.out.cell 0 _ E0.out) ?_); (case qqg811 => rfl); (case qqo811 => rfl); (case qqh811 => first | (simp; done) | (simp [Act.eval]; done) | (simp only [Act.put]; simp; done) | (simp only [Act.put]; simp [Act.eval]; done)))
    | ((with_reducible refine wpList_load_oneG ?qqg812 9 ?qqx812 ?qqo812 w.heap.size 1 ?qqh812 (.string z1) Tryz.rObj_string (O2.out.cell 1 _ E1.out) ?_); (case qqg812 => rfl); (case qqo812 => rfl); (case qqh812 => first | (simp; done) | (simp [Act.eval]; done) | (simp only [Act.put]; simp; done) | (simp only [Act.put]; simp [Act.eval]; done)))
    | ((with_reducible refine wpList_load_oneG ?qqg813 3 ?qqx813 ?qqo813 w.heap.size 2 ?qqh813 (.int .i64 z2) Tryz.rObj_int (O2.out.cell 2 _ E2.out) ?_); (case qqg813 => rfl); (case qqo813 => rfl); (case qqh813 => first | (simp; done) | (simp [Act.eval]; done) | (simp only [Act.put]; simp; done) | (simp only [Act.put]; simp [Act.eval]; done)))
    | ((with_reducible refine wpList_load_oneG ?qqg814 3 ?qqx814 ?qqo814 w.heap.size 3 ?qqh814 (.int .i64 z3) Tryz.rObj_int (O2.out.cell 3 _ E3.out) ?_); (case qqg814 => rfl); (case qqo814 => rfl); (case qqh814 => first | (simp; done) | (simp [Act.eval]; done) | (simp only [Act.put]; simp; done) | (simp only [Act.put]; simp [Act.eval]; done)))
    | ((with_reducible refine wpList_load_oneG ?qqg815 3 ?qqx815 ?qqo815 w.heap.size 4 ?qqh815 (.int .i64 z4) Tryz.rObj_int (O2.out.cell 4 _ E4.out) ?_); (case qqg815 => rfl); (case qqo815 => rfl); (case qqh815 => first | (simp; done) | (simp [Act.eval]; done) | (simp only [Act.put]; simp; done) | (simp only [Act.put]; simp [Act.eval]; done)))
    | ((with_reducible refine wpList_load_oneG ?qqg816 4 ?qqx816 ?qqo816 w.heap.size 5 ?qqh816 (.bool z5) Tryz.rObj_bool (O2.out.cell 5 _ E5.out) ?_); (case qqg816 => rfl); (case qqo816 => rfl); (case qqh816 => first | (simp; done) | (simp [Act.eval]; done) | (simp only [Act.put]; simp; done) | (simp only [Act.put]; simp [Act.eval]; done)))
    | ((with_reducible refine wpList_load_oneG ?qqg817 28 ?qqx817 ?qqo817 w.heap.size 6 ?qqh817 ((.slice a6 n6 cp6)) Tryz.rObj_Lstring (O2.out.cell 6 _ E6.out) ?_); (case qqg817 => rfl); (case qqo817 => rfl); (case qqh817 => first | (simp; done) | (simp [Act.eval]; done) | (simp only [Act.put]; simp; done) | (simp only [Act.put]; simp [Act.eval]; done)))
    | ((with_reducible refine wpList_load_rowG ?qqg818 31 ?qqx818 ?qqo818 w.heap.size 7 ?qqh818 y7 Tryz.rObj_impl_Value YZ7.out (O2.out.range 7 _ E7.out) ?_); (case qqg818 => rfl); (case qqo818 => rfl); (case qqh818 => first | (simp; done) | (simp [Act.eval]; done) | (simp only [Act.put]; simp; done) | (simp only [Act.put]; simp [Act.eval]; done)))
    | ((with_reducible refine wpList_load_rowG ?qqg819 31 ?qqx819 ?qqo819 w.heap.size 12 ?qqh819 y8 Tryz.rObj_impl_Value YZ8.out (O2.out.range 12 _ E8.out) ?_); (case qqg819 => rfl); (case qqo819 => rfl); (case qqh819 => first | (simp; done) | (simp [Act.eval]; done) | (simp only [Act.put]; simp; done) | (simp only [Act.put]; simp [Act.eval]; done)))
    )
  refine (HK3.out _ B2.out).mono ?_
  rintro e w3 ⟨rfl, hb3⟩
  have O3 := uhide (O2.out.below hb3)
  have B3 : Hid (Below w.heap.size w w3) := B2.out.trans (hb3.mono B2.out.size)
  clear hb3
  go_wp2_with (first
    | ((with_reducible refine wpList_load_oneG ?qqg827 3 ?qqx827 ?qqo827 w.heap.size 0 ?qqh827 (.int .i64 z0) Tryz.rObj_int (O3.out.cell 0 _ E0.out) ?_); (case qqg827 => rfl); (case qqo827 => rfl); (case qqh827 => first | (simp; done) | (simp [Act.eval]; done) | (simp only [Act.put]; simp; done) | (simp only [Act.put]; simp [Act.eval]; done)))
    | ((with_reducible refine wpList_load_oneG ?qqg828 9 ?qqx828 ?qqo828 w.heap.size 1 ?qqh828 (.string z1) Tryz.rObj_string (O3.out.cell 1 _ E1.out) ?_); (case qqg828 => rfl); (case qqo828 => rfl); (case qqh828 => first | (simp; done) | (simp [Act.eval]; done) | (simp only [Act.put]; simp; done) | (simp only [Act.put]; simp [Act.eval]; done)))
    | ((with_reducible refine wpList_load_oneG ?qqg829 3 ?qqx829 ?qqo829 w.heap.size 2 ?qqh829 (.int .i64 z2) Tryz.rObj_int (O3.out.cell 2 _ E2.out) ?_); (case qqg829 => rfl); (case qqo829 => rfl); (case qqh829 => first | (simp; done) | (simp [Act.eval]; done) | (simp only [Act.put]; simp; done) | (simp only [Act.put]; simp [Act.eval]; done)))
    | ((with_reducible refine wpList_load_oneG ?qqg830 3 ?qqx830 ?qqo830 w.heap.size 3 ?qqh830 (.int .i64 z3) Tryz.rObj_int (O3.out.cell 3 _ E3.out) ?_); (case qqg830 => rfl); (case qqo830 => rfl); (case qqh830 => first | (simp; done) | (simp [Act.eval]; done) | (simp only [Act.put]; simp; done) | (simp only [Act.put]; simp [Act.eval]; done)))
    | ((with_reducible refine wpList_load_oneG ?qqg831 3 ?qqx831 ?qqo831 w.heap.size 4 ?qqh831 (.int .i64 z4) Tryz.rObj_int (O3.out.cell 4 _ E4.out) ?_); (case qqg831 => rfl); (case qqo831 => rfl); (case qqh831 => first | (simp; done) | (simp [Act.eval]; done) | (simp only [Act.put]; simp; done) | (simp only [Act.put]; simp [Act.eval]; done)))
    | ((with_reducible refine wpList_load_oneG ?qqg832 4 ?qqx832 ?qqo832 w.heap.size 5 ?qqh832 (.bool z5) Tryz.rObj_bool (O3.out.cell 5 _ E5.out) ?_); (case qqg832 => rfl); (case qqo832 => rfl); (case qqh832 => first | (simp; done) | (simp [Act.eval]; done) | (simp only [Act.put]; simp; done) | (simp only [Act.put]; simp [Act.eval]; done)))
    | ((with_reducible refine wpList_load_oneG ?qqg833 28 ?qqx833 ?qqo833 w.heap.size 6 ?qqh833 ((.slice a6 n6 cp6)) Tryz.rObj_Lstring (O3.out.cell 6 _ E6.out) ?_); (case qqg833 => rfl); (case qqo833 => rfl); (case qqh833 => first | (simp; done) | (simp [Act.eval]; done) | (simp only [Act.put]; simp; done) | (simp only [Act.put]; simp [Act.eval]; done)))
    | ((with_reducible refine wpList_load_rowG ?qqg834 31 ?qqx834 ?qqo834 w.heap.size 7 ?qqh834 y7 Tryz.rObj_impl_Value YZ7.out (O3.out.range 7 _ E7.out) ?_); (case qqg834 => rfl); (case qqo834 => rfl); (case qqh834 => first | (simp; done) | (simp [Act.eval]; done) | (simp only [Act.put]; simp; done) | (simp only [Act.put]; simp [Act.eval]; done)))
    | ((with_reducible refine wpList_load_rowG ?qqg835 31 ?qqx835 ?qqo835 w.heap.size 12 ?qqh835 y8 Tryz.rObj_impl_Value YZ8.out (O3.out.range 12 _ E8.out) ?_); (case qqg835 => rfl); (case qqo835 => rfl); (case qqh835 => first | (simp; done) | (simp [Act.eval]; done) | (simp only [Act.put]; simp; done) | (simp only [Act.put]; simp [Act.eval]; done)))
    )
  refine (HK4.out _ B3.out).mono ?_
  rintro e w4 ⟨rfl, hb4⟩
  have O4 := uhide (O3.out.below hb4)
  have B4 : Hid (Below w.heap.size w w4) := B3.out.trans (hb4.mono B3.out.size)
  clear hb4
  go_wp2_with (first
    | ((with_reducible refine wpList_load_oneG ?qqg843 3 ?qqx843 ?qqo843 w.heap.size 0 ?qqh843 (.int .i64 z0) Tryz.rObj_int (O4.out.cell 0 _ E0.out) ?_); (case qqg843 => rfl); (case qqo843 => rfl); (case qqh843 => first | (simp; done) | (simp [Act.eval]; done) | (simp only [Act.put]; simp; done) | (simp only [Act.put]; simp [Act.eval]; done)))
    | ((with_reducible refine wpList_load_oneG ?qqg844 9 ?qqx844 ?qqo844 w.heap.size 1 ?qqh844 (.string z1) Tryz.rObj_string (O4.out.cell 1 _ E1.out) ?_); (case qqg844 => rfl); (case qqo844 => rfl); (case qqh844 => first | (simp; done) | (simp [Act.eval]; done) | (simp only [Act.put]; simp; done) | (simp only [Act.put]; simp [Act.eval]; done)))
    | ((with_reducible refine wpList_load_oneG ?qqg845 3 ?qqx845 ?qqo845 w.heap.size 2 ?qqh845 (.int .i64 z2) Tryz.rObj_int (O4.out.cell 2 _ E2.out) ?_); (case qqg845 => rfl); (case qqo845 => rfl); (case qqh845 => first | (simp; done) | (simp [Act.eval]; done) | (simp only [Act.put]; simp; done) | (simp only [Act.put]; simp [Act.eval]; done)))
    | ((with_reducible refine wpList_load_oneG ?qqg846 3 ?qqx846 ?qqo846 w.heap.size 3 ?qqh846 (.int .i64 z3) Tryz.rObj_int (O4.out.cell 3 _ E3.out) ?_); (case qqg846 => rfl); (case qqo846 => rfl); (case qqh846 => first | (simp; done) | (simp [Act.eval]; done) | (simp only [Act.put]; simp; done) | (simp only [Act.put]; simp [Act.eval]; done)))
    | ((with_reducible refine wpList_load_oneG ?qqg847 3 ?qqx847 ?qqo847 w.heap.size 4 ?qqh847 (.int .i64 z4) Tryz.rObj_int (O4.out.cell 4 _ E4.out) ?_); (case qqg847 => rfl); (case qqo847 => rfl); (case qqh847 => first | (simp; done) | (simp [Act.eval]; done) | (simp only [Act.put]; simp; done) | (simp only [Act.put]; simp [Act.eval]; done)))
    | ((with_reducible refine wpList_load_oneG ?qqg848 4 ?qqx848 ?qqo848 w.heap.size 5 ?qqh848 (.bool z5) Tryz.rObj_bool (O4.out.cell 5 _ E5.out) ?_); (case qqg848 => rfl); (case qqo848 => rfl); (case qqh848 => first | (simp; done) | (simp [Act.eval]; done) | (simp only [Act.put]; simp; done) | (simp only [Act.put]; simp [Act.eval]; done)))
    | ((with_reducible refine wpList_load_oneG ?qqg849 28 ?qqx849 ?qqo849 w.heap.size 6 ?qqh849 ((.slice a6 n6 cp6)) Tryz.rObj_Lstring (O4.out.cell 6 _ E6.out) ?_); (case qqg849 => rfl); (case qqo849 => rfl); (case qqh849 => first | (simp; done) | (simp [Act.eval]; done) | (simp only [Act.put]; simp; done) | (simp only [Act.put]; simp [Act.eval]; done)))
    | ((with_reducible refine wpList_load_rowG ?qqg850 31 ?qqx850 ?qqo850 w.heap.size 7 ?qqh850 y7 Tryz.rObj_impl_Value YZ7.out (O4.out.range 7 _ E7.out) ?_); (case qqg850 => rfl); (case qqo850 => rfl); (case qqh850 => first | (simp; done) | (simp [Act.eval]; done) | (simp only [Act.put]; simp; done) | (simp only [Act.put]; simp [Act.eval]; done)))
    | ((with_reducible refine wpList_load_rowG ?qqg851 31 ?qqx851 ?qqo851 w.heap.size 12 ?qqh851 y8 Tryz.rObj_impl_Value YZ8.out (O4.out.range 12 _ E8.out) ?_); (case qqg851 => rfl); (case qqo851 => rfl); (case qqh851 => first | (simp; done) | (simp [Act.eval]; done) | (simp only [Act.put]; simp; done) | (simp only [Act.put]; simp [Act.eval]; done)))
    )
  refine (HK5.out _ B4.out).mono ?_
  rintro e w5 ⟨rfl, hb5⟩
  have O5 := uhide (O4.out.below hb5)
  have B5 : Hid (Below w.heap.size w w5) := B4.out.trans (hb5.mono B4.out.size)
  clear hb5
  go_wp2_with (first
    | ((with_reducible refine wpList_load_oneG ?qqg859 3 ?qqx859 ?qqo859 w.heap.size 0 ?qqh859 (.int .i64 z0) Tryz.rObj_int (O5.out.cell 0 _ E0.out) ?_); (case qqg859 => rfl); (case qqo859 => rfl); (case qqh859 => first | (simp; done) | (simp [Act.eval]; done) | (simp only [Act.put]; simp; done) | (simp only [Act.put]; simp [Act.eval]; done)))
    | ((with_reducible refine wpList_load_oneG ?qqg860 9 ?qqx860 ?qqo860 w.heap.size 1 ?qqh860 (.string z1) Tryz.rObj_string (O5.out.cell 1 _ E1.out) ?_); (case qqg860 => rfl); (case qqo860 => rfl); (case qqh860 => first | (simp; done) | (simp [Act.eval]; done) | (simp only [Act.put]; simp; done) | (simp only [Act.put]; simp [Act.eval]; done)))
    | ((with_reducible refine wpList_load_oneG ?qqg861 3 ?qqx861 ?qqo861 w.heap.size 2 ?qqh861 (.int .i64 z2) Tryz.rObj_int (O5.out.cell 2 _ E2.out) ?_); (case qqg861 => rfl); (case qqo861 => rfl); (case qqh861 => first | (simp; done) | (simp [Act.eval]; done) | (simp only [Act.put]; simp; done) | (simp only [Act.put]; simp [Act.eval]; done)))
    | ((with_reducible refine wpList_load_oneG ?qqg862 3 ?qqx862 ?qqo862 w.heap.size 3 ?qqh862 (.int .i64 z3) Tryz.rObj_int (O5.out.cell 3 _ E3.out) ?_); (case qqg862 => rfl); (case qqo862 => rfl); (case qqh862 => first | (simp; done) | (simp [Act.eval]; done) | (simp only [Act.put]; simp; done) | (simp only [Act.put]; simp [Act.eval]; done)))
    | ((with_reducible refine wpList_load_oneG ?qqg863 3 ?qqx863 ?qqo863 w.heap.size 4 ?qqh863 (.int .i64 z4) Tryz.rObj_int (O5.out.cell 4 _ E4.out) ?_); (case qqg863 => rfl); (case qqo863 => rfl); (case qqh863 => first | (simp; done) | (simp [Act.eval]; done) | (simp only [Act.put]; simp; done) | (simp only [Act.put]; simp [Act.eval]; done)))
    | ((with_reducible refine wpList_load_oneG ?qqg864 4 ?qqx864 ?qqo864 w.heap.size 5 ?qqh864 (.bool z5) Tryz.rObj_bool (O5.out.cell 5 _ E5.out) ?_); (case qqg864 => rfl); (case qqo864 => rfl); (case qqh864 => first | (simp; done) | (simp [Act.eval]; done) | (simp only [Act.put]; simp; done) | (simp only [Act.put]; simp [Act.eval]; done)))
    | ((with_reducible refine wpList_load_oneG ?qqg865 28 ?qqx865 ?qqo865 w.heap.size 6 ?qqh865 ((.slice a6 n6 cp6)) Tryz.rObj_Lstring (O5.out.cell 6 _ E6.out) ?_); (case qqg865 => rfl); (case qqo865 => rfl); (case qqh865 => first | (simp; done) | (simp [Act.eval]; done) | (simp only [Act.put]; simp; done) | (simp only [Act.put]; simp [Act.eval]; done)))
    | ((with_reducible refine wpList_load_rowG ?qqg866 31 ?qqx866 ?qqo866 w.heap.size 7 ?qqh866 y7 Tryz.rObj_impl_Value YZ7.out (O5.out.range 7 _ E7.out) ?_); (case qqg866 => rfl); (case qqo866 => rfl); (case qqh866 => first | (simp; done) | (simp [Act.eval]; done) | (simp only [Act.put]; simp; done) | (simp only [Act.put]; simp [Act.eval]; done)))
    | ((with_reducible refine wpList_load_rowG ?qqg867 31 ?qqx867 ?qqo867 w.heap.size 12 ?qqh867 y8 Tryz.rObj_impl_Value YZ8.out (O5.out.range 12 _ E8.out) ?_); (case qqg867 => rfl); (case qqo867 => rfl); (case qqh867 => first | (simp; done) | (simp [Act.eval]; done) | (simp only [Act.put]; simp; done) | (simp only [Act.put]; simp [Act.eval]; done)))
    )
  refine (HK6.out _ B5.out).mono ?_
  rintro e w6 ⟨rfl, hb6⟩
  have O6 := uhide (O5.out.below hb6)
  have B6 : Hid (Below w.heap.size w w6) := B5.out.trans (hb6.mono B5.out.size)
  clear hb6
  go_wp2_with (first
    | ((with_reducible refine wpList_load_oneG ?qqg875 3 ?qqx875 ?qqo875 w.heap.size 0 ?qqh875 (.int .i64 z0) Tryz.rObj_int (O6.out.cell 0 _ E0.out) ?_); (case qqg875 => rfl); (case qqo875 => rfl); (case qqh875 => first | (simp; done) | (simp [Act.eval]; done) | (simp only [Act.put]; simp; done) | (simp only [Act.put]; simp [Act.eval]; done)))
    | ((with_reducible refine wpList_load_oneG ?qqg876 9 ?qqx876 ?qqo876 w.heap.size 1 ?qqh876 (.string z1) Tryz.rObj_string (O6.out.cell 1 _ E1.out) ?_); (case qqg876 => rfl); (case qqo876 => rfl); (case qqh876 => first | (simp; done) | (simp [Act.eval]; done) | (simp only [Act.put]; simp; done) | (simp only [Act.put]; simp [Act.eval]; done)))
    | ((with_reducible refine wpList_load_oneG ?qqg877 3 ?qqx877 ?qqo877 w.heap.size 2 ?qqh877 (.int .i64 z2) Tryz.rObj_int (O6.out.cell 2 _ E2.out) ?_); (case qqg877 => rfl); (case qqo877 => rfl); (case qqh877 => first | (simp; done) | (simp [Act.eval]; done) | (simp only [Act.put]; simp; done) | (simp only [Act.put]; simp [Act.eval]; done)))
    | ((with_reducible refine wpList_load_oneG ?qqg878 3 ?qqx878 ?qqo878 w.heap.size 3 ?qqh878 (.int .i64 z3) Tryz.rObj_int (O6.out.cell 3 _ E3.out) ?_); (case qqg878 => rfl); (case qqo878 => rfl); (case qqh878 => first | (simp; done) | (simp [Act.eval]; done) | (simp only [Act.put]; simp; done) | (simp only [Act.put]; simp [Act.eval]; done)))
    | ((with_reducible refine wpList_load_oneG ?qqg879 3 ?qqx879 ?qqo879 w.heap.size 4 ?qqh879 (.int .i64 z4) Tryz.rObj_int (O6.out.cell 4 _ E4.out) ?_); (case qqg879 => rfl); (case qqo879 => rfl); (case qqh879 => first | (simp; done) | (simp [Act.eval]; done) | (simp only [Act.put]; simp; done) | (simp only [Act.put]; simp [Act.eval]; done)))
    | ((with_reducible refine wpList_load_oneG ?qqg880 4 ?qqx880 ?qqo880 w.heap.size 5 ?qqh880 (.bool z5) Tryz.rObj_bool (O6.out.cell 5 _ E5.out) ?_); (case qqg880 => rfl); (case qqo880 => rfl); (case qqh880 => first | (simp; done) | (simp [Act.eval]; done) | (simp only [Act.put]; simp; done) | (simp only [Act.put]; simp [Act.eval]; done)))
    | ((with_reducible refine wpList_load_oneG ?qqg881 28 ?qqx881 ?qqo881 w.heap.size 6 ?qqh881 ((.slice a6 n6 cp6)) Tryz.rObj_Lstring (O6.out.cell 6 _ E6.out) ?_); (case qqg881 => rfl); (case qqo881 => rfl); (case qqh881 => first | (simp; done) | (simp [Act.eval]; done) | (simp only [Act.put]; simp; done) | (simp only [Act.put]; simp [Act.eval]; done)))
    | ((with_reducible refine wpList_load_rowG ?qqg882 31 ?qqx882 ?qqo882 w.heap.size 7 ?qqh882 y7 Tryz.rObj_impl_Value YZ7.out (O6.out.range 7 _ E7.out) ?_); (case qqg882 => rfl); (case qqo882 => rfl); (case qqh882 => first | (simp; done) | (simp [Act.eval]; done) | (simp only [Act.put]; simp; done) | (simp only [Act.put]; simp [Act.eval]; done)))
    | ((with_reducible refine wpList_load_rowG ?qqg883 31 ?qqx883 ?qqo883 w.heap.size 12 ?qqh883 y8 Tryz.rObj_impl_Value YZ8.out (O6.out.range 12 _ E8.out) ?_); (case qqg883 => rfl); (case qqo883 => rfl); (case qqh883 => first | (simp; done) | (simp [Act.eval]; done) | (simp only [Act.put]; simp; done) | (simp only [Act.put]; simp [Act.eval]; done)))
    )
  refine (HK7.out _ B6.out).mono ?_
  rintro e w7 ⟨rfl, hb7⟩
  have O7 := uhide (O6.out.below hb7)
  have B7 : Hid (Below w.heap.size w w7) := B6.out.trans (hb7.mono B6.out.size)
  clear hb7
  go_wp2
  go_ret
  exact ⟨ret_bool (by simp), B7.out⟩
end Go.Proofs.YtamlgjmboljcdaaGreat
