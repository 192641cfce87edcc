/- Texts of one claim, joined: each in its own section, in build order. -/
import Derived.Test.YtdnodaoeflbfkaaGreatJ5
import Derived.Test.YtdnodaoeflbfkaaGreatJ3
import Derived.Deep.RegionHeld3
import Derived.Test.YtdnodaoeflbfkaaGreatJ2
/- Objects: both that ask whether one is as told; whether one ends and waits for nothing. -/
namespace Go.Proofs.YtdnodaoeflbfkaaGreat
open Go.RowKit Go.BigFrame
set_option linter.unusedVariables false
set_option linter.unusedSimpArgs false

theorem wpList_load_oneG {P : Program} {ops : Array Oper} {rest : List Oper} {o : Oper} {a : Act} {w : World} {Q : Exit → Act → World → Prop} (hw : Region.wanted o (yielded ops a.tmps) = true) (t : TypeId) (x : Operand) (ho : o.op = .load t x)
    (b j : Nat) (hx : a.eval x = .pointer (some ⟨b, j, none⟩)) (v : Value) (hu : (P.underlying t).map TypeDesc.isRow = some false) (hc : w.cell? ⟨b, j, none⟩ = some v) (h : wpList P ops Q rest (a.put o.dst v) w) : wpList P ops Q (o :: rest) a w := by
  refine wpList_want hw fun K hK => ?_
  have hl : Sem.run P (Instr.loadAt t (.pointer (some ⟨b, j, none⟩))) w = .ok v w := by
    cases hd : P.underlying t with
    | none => rw [hd] at hu; cases hu
    | some d =>
      rw [hd] at hu
      have hagg : (isAgg t).run P w = .ok false w := by
        unfold isAgg
        rw [Sem.run_bind, run_underlying hd w]
        cases d <;> simp_all [TypeDesc.isRow]
      simp only [Instr.loadAt, Instr.sureAddr, Sem.run_bind, Sem.run_pure, Result.andThen_ok, loadVar, hagg, Bool.false_eq_true, if_false, run_load, hc]
  unfold Oper.wp execOp
  simp only [ho, Sem.run_bind, Sem.run_pure, hx, hl, Result.andThen_ok]
  exact hK _ _ h
theorem wpList_load_rowG {P : Program} {ops : Array Oper} {rest : List Oper} {o : Oper} {a : Act} {w : World} {Q : Exit → Act → World → Prop} (hw : Region.wanted o (yielded ops a.tmps) = true) (t : TypeId) (x : Operand) (ho : o.op = .load t x)
    (b j : Nat) (hx : a.eval x = .pointer (some ⟨b, j, none⟩)) (ys : List Value) (hu : (P.underlying t).map TypeDesc.isRow = some true) (hi : (P.info? t).map (·.size) = some ys.length) (hr : w.rangeAt b j ys) (h : wpList P ops Q rest (a.put o.dst (.agg ys.toArray)) w) : wpList P ops Q (o :: rest) a w := by
  refine wpList_want hw fun K hK => ?_
  unfold Oper.wp execOp
  simp only [ho, Sem.run_bind, Sem.run_pure, hx, load_row_eq hu hi hr, Result.andThen_ok]
  exact hK _ _ h
def kindU : UD → Int
  | .p (.int _ z) _ => z
  | _ => 0
def nameU : UD → ByteArray
  | .p _ (.p (.string s) _) => s
  | _ => ByteArray.empty
def uidU : UD → Int
  | .p _ (.p _ (.p (.int _ z) _)) => z
  | _ => 0
theorem okStrs_of {n : Nat} {c : UD} (h : tyS 1 n c 0) : ∀ t ∈ strL c, t.size ≤ maxLen := by
  intro t ht
  obtain ⟨i, hi, rfl⟩ := List.getElem_of_mem ht
  exact ((strL_get c 0 h.2.2.2.2).2 i hi).2
theorem uS.slice_of {w : World} {lo hi k n : Nat} {cs : UD} {c : Value} (h : uS w lo hi k n cs c) : ∃ a cap, c = .slice a n cap ∧ True := by
  obtain ⟨a, cap, e, _⟩ := h; exact ⟨a, cap, e, trivial⟩
set_option maxRecDepth 40000 in
set_option maxHeartbeats 6400000 in
theorem objOk_of {lo hi : Nat} (z0 : Int) (z1 : ByteArray) (z2 z3 z4 : Int) (z5 : Bool) (n6 : Nat) (c6 d7 d8 : UD) (k6 k7 : Bool) (xs : List Value) (rev next : Int) (w : World) (g1 : z1.size ≤ maxLen) (g6 : tyS 1 n6 c6 0) (g7 : tyL d7 (uE 6)) (g8 : tyL d8 (uE 6))
    (hv7 : ∀ (w : World) (lo hi : Nat) (xs : List Value), uH w lo hi d7 xs → Calls Tryz.prog 118 #[.agg xs.toArray] w fun e w' => e = .returned (.bool k6) ∧ Below w.heap.size w w')
    (hv8 : ∀ (w : World) (lo hi : Nat) (xs : List Value), uH w lo hi d8 xs → Calls Tryz.prog 118 #[.agg xs.toArray] w fun e w' => e = .returned (.bool k7) ∧ Below w.heap.size w w')
    (hn0 : -9223372036854775807 ≤ next) (hn1 : next ≤ 9223372036854775807) (hx : uH w lo hi (UD.p (.int .i64 z0) (UD.p (.string z1) (UD.p (.int .i64 z2) (UD.p (.int .i64 z3) (UD.p (.int .i64 z4) (UD.p (.bool z5) (UD.l 1 n6 c6 (UD.app d7 (UD.app d8 UD.nil))))))))) xs) :
    Calls Tryz.prog 216 #[.agg xs.toArray, .int .i64 rev, .int .i64 (next - 1)] w fun e w' => e = .returned (.bool (inB z0 1 3 && nameB z1 && waitsB (strL c6) && inB z2 1 (next - 1) && inB z3 1 rev && inB z4 1 z3 && k6 && k7)) ∧ Below w.heap.size w w' := by
  obtain ⟨_, rfl, h0⟩ := hx
  obtain ⟨_, rfl, h1⟩ := h0
  obtain ⟨_, rfl, h2⟩ := h1
  obtain ⟨_, rfl, h3⟩ := h2
  obtain ⟨_, rfl, h4⟩ := h3
  obtain ⟨_, rfl, h5⟩ := h4
  obtain ⟨v6, _, rfl, s6, h6⟩ := h5
  obtain ⟨y7, _, rfl, l7, s7, h7⟩ := uH.split h6
  replace l7 : y7.length = 5 := l7.trans (tyL.len g7)
  clear h6
  obtain ⟨y8, _, rfl, l8, s8, h8⟩ := uH.split h7
  replace l8 : y8.length = 5 := l8.trans (tyL.len g8)
  clear h7
  obtain rfl := h8
  obtain ⟨a6, cp6, rfl⟩ : ∃ a cap, v6 = .slice a n6 cap := by obtain ⟨a, cap, e, _⟩ := s6; exact ⟨a, cap, e⟩
  have hW6 : ∀ wx : World, Below w.heap.size w wx → Calls Tryz.prog 119 #[(.slice a6 n6 cp6)] wx fun e w' => e = .returned (.bool (waitsB (strL c6))) ∧ Below wx.heap.size wx w' := by
    intro wx hb
    have h6 := s6.below hb
    obtain ⟨q1, q2, q3⟩ := strB_of g6 h6
    have q4 := okStrs_of g6
    have := iwaits_any a6 cp6 (strL c6) wx (by rw [q3]; exact g6.2.2.1) (strB.of q1)
    rw [q3] at this
    exact this
  obtain ⟨k0, hk0⟩ : ∃ k, k = inB z0 1 3 := ⟨_, rfl⟩
  have HK0 : Hid (∀ wx : World, Below w.heap.size w wx → Calls Tryz.prog 172 #[.int .i64 z0, .int .i64 3] wx fun e w' => e = .returned (.bool k0) ∧ Below wx.heap.size wx w') := fun wx hb => hk0 ▸ ((fromOne_any _ _ wx).mono fun e w' h => ⟨h.1, h.2 ▸ Below.refl _ _⟩)
  obtain ⟨k1, hk1⟩ : ∃ k, k = nameB z1 := ⟨_, rfl⟩
  have HK1 : Hid (∀ wx : World, Below w.heap.size w wx → Calls Tryz.prog 129 #[.string z1] wx fun e w' => e = .returned (.bool k1) ∧ Below wx.heap.size wx w') := fun wx hb => hk1 ▸ (iname_any z1 wx)
  obtain ⟨k2, hk2⟩ : ∃ k, k = waitsB (strL c6) := ⟨_, rfl⟩
  have HK2 : Hid (∀ wx : World, Below w.heap.size w wx → Calls Tryz.prog 119 #[(.slice a6 n6 cp6)] wx fun e w' => e = .returned (.bool k2) ∧ Below wx.heap.size wx w') := fun wx hb => hk2 ▸ (hW6 _ hb)
  obtain ⟨k3, hk3⟩ : ∃ k, k = inB z2 1 (next - 1) := ⟨_, rfl⟩
  have HK3 : Hid (∀ wx : World, Below w.heap.size w wx → Calls Tryz.prog 172 #[.int .i64 z2, .int .i64 (next - 1)] wx fun e w' => e = .returned (.bool k3) ∧ Below wx.heap.size wx w') := fun wx hb => hk3 ▸ ((fromOne_any _ _ wx).mono fun e w' h => ⟨h.1, h.2 ▸ Below.refl _ _⟩)
  obtain ⟨k4, hk4⟩ : ∃ k, k = inB z3 1 rev := ⟨_, rfl⟩
  have HK4 : Hid (∀ wx : World, Below w.heap.size w wx → Calls Tryz.prog 172 #[.int .i64 z3, .int .i64 rev] wx fun e w' => e = .returned (.bool k4) ∧ Below wx.heap.size wx w') := fun wx hb => hk4 ▸ ((fromOne_any _ _ wx).mono fun e w' h => ⟨h.1, h.2 ▸ Below.refl _ _⟩)
  obtain ⟨k5, hk5⟩ : ∃ k, k = inB z4 1 z3 := ⟨_, rfl⟩
  have HK5 : Hid (∀ wx : World, Below w.heap.size w wx → Calls Tryz.prog 172 #[.int .i64 z4, .int .i64 z3] wx fun e w' => e = .returned (.bool k5) ∧ Below wx.heap.size wx w') := fun wx hb => hk5 ▸ ((fromOne_any _ _ wx).mono fun e w' h => ⟨h.1, h.2 ▸ Below.refl _ _⟩)
  have HK6 : Hid (∀ wx : World, Below w.heap.size w wx → Calls Tryz.prog 118 #[.agg y7.toArray] wx fun e w' => e = .returned (.bool k6) ∧ Below wx.heap.size wx w') := fun wx hb => (hv7 wx lo hi y7 (s7.below hb))
  have HK7 : Hid (∀ wx : World, Below w.heap.size w wx → Calls Tryz.prog 118 #[.agg y8.toArray] wx fun e w' => e = .returned (.bool k7) ∧ Below wx.heap.size wx w') := fun wx hb => (hv8 wx lo hi y8 (s8.below hb))
  rw [← hk0, ← hk1, ← hk2, ← hk3, ← hk4, ← hk5]
  obtain ⟨AX, hAX⟩ : ∃ AX : List Value, AX = (Value.int .i64 z0 :: (Value.string z1 :: (Value.int .i64 z2 :: (Value.int .i64 z3 :: (Value.int .i64 z4 :: (Value.bool z5 :: ((.slice a6 n6 cp6) :: ((y7 ++ ((y8 ++ []))))))))))) := ⟨_, rfl⟩
  rw [← hAX]
  have hlen : AX.length = 17 := by rw [hAX]; simp [l7, l8]
  have e0 : AX[0]? = some (.int .i64 z0) := at_mid (i := 0) (pre := (([] : List Value))) (ys := [.int .i64 z0]) (post := (Value.string z1 :: (Value.int .i64 z2 :: (Value.int .i64 z3 :: (Value.int .i64 z4 :: (Value.bool z5 :: ((.slice a6 n6 cp6) :: ((y7 ++ ((y8 ++ []))))))))))) (by rw [hAX]; simp) (by simp) rfl
  have e1 : AX[1]? = some (.string z1) := at_mid (i := 0) (pre := ([Value.int .i64 z0])) (ys := [.string z1]) (post := (Value.int .i64 z2 :: (Value.int .i64 z3 :: (Value.int .i64 z4 :: (Value.bool z5 :: ((.slice a6 n6 cp6) :: ((y7 ++ ((y8 ++ [])))))))))) (by rw [hAX]; simp) (by simp) rfl
  have e2 : AX[2]? = some (.int .i64 z2) := at_mid (i := 0) (pre := ([Value.int .i64 z0, Value.string z1])) (ys := [.int .i64 z2]) (post := (Value.int .i64 z3 :: (Value.int .i64 z4 :: (Value.bool z5 :: ((.slice a6 n6 cp6) :: ((y7 ++ ((y8 ++ []))))))))) (by rw [hAX]; simp) (by simp) rfl
  have e3 : AX[3]? = some (.int .i64 z3) := at_mid (i := 0) (pre := ([Value.int .i64 z0, Value.string z1, Value.int .i64 z2])) (ys := [.int .i64 z3]) (post := (Value.int .i64 z4 :: (Value.bool z5 :: ((.slice a6 n6 cp6) :: ((y7 ++ ((y8 ++ [])))))))) (by rw [hAX]; simp) (by simp) rfl
  have e4 : AX[4]? = some (.int .i64 z4) := at_mid (i := 0) (pre := ([Value.int .i64 z0, Value.string z1, Value.int .i64 z2, Value.int .i64 z3])) (ys := [.int .i64 z4]) (post := (Value.bool z5 :: ((.slice a6 n6 cp6) :: ((y7 ++ ((y8 ++ []))))))) (by rw [hAX]; simp) (by simp) rfl
  have e5 : AX[5]? = some (.bool z5) := at_mid (i := 0) (pre := ([Value.int .i64 z0, Value.string z1, Value.int .i64 z2, Value.int .i64 z3, Value.int .i64 z4])) (ys := [.bool z5]) (post := ((.slice a6 n6 cp6) :: ((y7 ++ ((y8 ++ [])))))) (by rw [hAX]; simp) (by simp) rfl
  have e6 : AX[6]? = some ((.slice a6 n6 cp6)) := at_mid (i := 0) (pre := ([Value.int .i64 z0, Value.string z1, Value.int .i64 z2, Value.int .i64 z3, Value.int .i64 z4, Value.bool z5])) (ys := [(.slice a6 n6 cp6)]) (post := ((y7 ++ ((y8 ++ []))))) (by rw [hAX]; simp) (by simp) rfl
  have e7 : ∀ i v, y7[i]? = some v → AX[7 + i]? = some v := fun i v h => at_mid (pre := ([Value.int .i64 z0, Value.string z1, Value.int .i64 z2, Value.int .i64 z3, Value.int .i64 z4, Value.bool z5, (.slice a6 n6 cp6)])) (ys := y7) (post := ((y8 ++ []))) (by rw [hAX]; simp) (by simp) h
  have e8 : ∀ i v, y8[i]? = some v → AX[12 + i]? = some v := fun i v h => at_mid (pre := ([Value.int .i64 z0, Value.string z1, Value.int .i64 z2, Value.int .i64 z3, Value.int .i64 z4, Value.bool z5, (.slice a6 n6 cp6)] ++ y7)) (ys := y8) (post := []) (by rw [hAX]; simp) (by simp [l7]) h
  clear hAX
  have E0 := uhide e0
  clear e0
  have E1 := uhide e1
  clear e1
  have E2 := uhide e2
  clear e2
  have E3 := uhide e3
  clear e3
  have E4 := uhide e4
  clear e4
  have E5 := uhide e5
  clear e5
  have E6 := uhide e6
  clear e6
  have YZ7 : Hid ((Tryz.prog.info? 90).map (·.size) = some y7.length) := by show _ = _; rw [l7]; exact Tryz.zObj_impl_Value
  have E7 := uhide e7
  clear e7
  have YZ8 : Hid ((Tryz.prog.info? 90).map (·.size) = some y8.length) := by show _ = _; rw [l8]; exact Tryz.zObj_impl_Value
  have E8 := uhide e8
  clear e8
  have OA : Hid (objU (w.alloc (.cells AX.toArray 138)) w.heap.size 138 AX) := objU.new2 _ _ rfl
  have BA : Hid (Below w.heap.size w (w.alloc (.cells AX.toArray 138))) := (Below.refl _ _).alloc (Nat.le_refl _) _
  have hmx := g6.2.2.1
  unfold maxLen at hmx
  clear hW6 hk0 hk1 hk2 hk3 hk4 hk5 hv7 hv8 g1 g6 g7 g8 s6 s7 s8 l7 l8 hlen
  cases k0 with
  | false =>
    go_enter Tryz.func216, Tryz.ntmps216
    go_wp2_with (first
      | ((with_reducible refine wpList_load_oneG ?qqg133 3 ?qqx133 ?qqo133 w.heap.size 0 ?qqh133 (.int .i64 z0) Tryz.rObj_int (OA.out.cell 0 _ E0.out) ?_); (case qqg133 => rfl); (case qqo133 => rfl); (case qqh133 => simp [Act.eval, Act.put]))
      )
    refine (HK0.out _ BA.out).mono ?_
    rintro e w0 ⟨rfl, hb0⟩
    have O0 := uhide (OA.out.below hb0)
    have B0 : Hid (Below w.heap.size w w0) := BA.out.trans (hb0.mono BA.out.size)
    clear hb0
    go_wp2
    go_ret
    exact ⟨ret_bool (by simp), B0.out⟩
  | true =>
  cases k1 with
  | false =>
    go_enter Tryz.func216, Tryz.ntmps216
    go_wp2_with (first
      | ((with_reducible refine wpList_load_oneG ?qqg156 3 ?qqx156 ?qqo156 w.heap.size 0 ?qqh156 (.int .i64 z0) Tryz.rObj_int (OA.out.cell 0 _ E0.out) ?_); (case qqg156 => rfl); (case qqo156 => rfl); (case qqh156 => simp [Act.eval, Act.put]))
      )
    refine (HK0.out _ BA.out).mono ?_
    rintro e w0 ⟨rfl, hb0⟩
    have O0 := uhide (OA.out.below hb0)
    have B0 : Hid (Below w.heap.size w w0) := BA.out.trans (hb0.mono BA.out.size)
    clear hb0
    go_wp2_with (first
      | ((with_reducible refine wpList_load_oneG ?qqg173 9 ?qqx173 ?qqo173 w.heap.size 1 ?qqh173 (.string z1) Tryz.rObj_string (O0.out.cell 1 _ E1.out) ?_); (case qqg173 => rfl); (case qqo173 => rfl); (case qqh173 => simp [Act.eval, Act.put]))
      )
    refine (HK1.out _ B0.out).mono ?_
    rintro e w1 ⟨rfl, hb1⟩
    have O1 := uhide (O0.out.below hb1)
    have B1 : Hid (Below w.heap.size w w1) := B0.out.trans (hb1.mono B0.out.size)
    clear hb1
    go_wp2
    go_ret
    exact ⟨ret_bool (by simp), B1.out⟩
  | true =>
  cases k2 with
  | false =>
    go_enter Tryz.func216, Tryz.ntmps216
    go_wp2_with (first
      | ((with_reducible refine wpList_load_oneG ?qqg195 3 ?qqx195 ?qqo195 w.heap.size 0 ?qqh195 (.int .i64 z0) Tryz.rObj_int (OA.out.cell 0 _ E0.out) ?_); (case qqg195 => rfl); (case qqo195 => rfl); (case qqh195 => simp [Act.eval, Act.put]))
      )
    refine (HK0.out _ BA.out).mono ?_
    rintro e w0 ⟨rfl, hb0⟩
    have O0 := uhide (OA.out.below hb0)
    have B0 : Hid (Below w.heap.size w w0) := BA.out.trans (hb0.mono BA.out.size)
    clear hb0
    go_wp2_with (first
      | ((with_reducible refine wpList_load_oneG ?qqg212 9 ?qqx212 ?qqo212 w.heap.size 1 ?qqh212 (.string z1) Tryz.rObj_string (O0.out.cell 1 _ E1.out) ?_); (case qqg212 => rfl); (case qqo212 => rfl); (case qqh212 => simp [Act.eval, Act.put]))
      )
    refine (HK1.out _ B0.out).mono ?_
    rintro e w1 ⟨rfl, hb1⟩
    have O1 := uhide (O0.out.below hb1)
    have B1 : Hid (Below w.heap.size w w1) := B0.out.trans (hb1.mono B0.out.size)
    clear hb1
    go_wp2_with (first
      | ((with_reducible refine wpList_load_oneG ?qqg233 23 ?qqx233 ?qqo233 w.heap.size 6 ?qqh233 ((.slice a6 n6 cp6)) Tryz.rObj_Lstring (O1.out.cell 6 _ E6.out) ?_); (case qqg233 => rfl); (case qqo233 => rfl); (case qqh233 => simp [Act.eval, Act.put]))
      )
    refine (HK2.out _ B1.out).mono ?_
    rintro e w2 ⟨rfl, hb2⟩
    have O2 := uhide (O1.out.below hb2)
    have B2 : Hid (Below w.heap.size w w2) := B1.out.trans (hb2.mono B1.out.size)
    clear hb2
    go_wp2
    go_ret
    exact ⟨ret_bool (by simp), B2.out⟩
  | true =>
  cases k3 with
  | false =>
    go_enter Tryz.func216, Tryz.ntmps216
    go_wp2_with (first
      | ((with_reducible refine wpList_load_oneG ?qqg250 3 ?qqx250 ?qqo250 w.heap.size 0 ?qqh250 (.int .i64 z0) Tryz.rObj_int (OA.out.cell 0 _ E0.out) ?_); (case qqg250 => rfl); (case qqo250 => rfl); (case qqh250 => simp [Act.eval, Act.put]))
      )
    refine (HK0.out _ BA.out).mono ?_
    rintro e w0 ⟨rfl, hb0⟩
    have O0 := uhide (OA.out.below hb0)
    have B0 : Hid (Below w.heap.size w w0) := BA.out.trans (hb0.mono BA.out.size)
    clear hb0
    go_wp2_with (first
      | ((with_reducible refine wpList_load_oneG ?qqg267 9 ?qqx267 ?qqo267 w.heap.size 1 ?qqh267 (.string z1) Tryz.rObj_string (O0.out.cell 1 _ E1.out) ?_); (case qqg267 => rfl); (case qqo267 => rfl); (case qqh267 => simp [Act.eval, Act.put]))
      )
    refine (HK1.out _ B0.out).mono ?_
    rintro e w1 ⟨rfl, hb1⟩
    have O1 := uhide (O0.out.below hb1)
    have B1 : Hid (Below w.heap.size w w1) := B0.out.trans (hb1.mono B0.out.size)
    clear hb1
    go_wp2_with (first
      | ((with_reducible refine wpList_load_oneG ?qqg288 23 ?qqx288 ?qqo288 w.heap.size 6 ?qqh288 ((.slice a6 n6 cp6)) Tryz.rObj_Lstring (O1.out.cell 6 _ E6.out) ?_); (case qqg288 => rfl); (case qqo288 => rfl); (case qqh288 => simp [Act.eval, Act.put]))
      )
    refine (HK2.out _ B1.out).mono ?_
    rintro e w2 ⟨rfl, hb2⟩
    have O2 := uhide (O1.out.below hb2)
    have B2 : Hid (Below w.heap.size w w2) := B1.out.trans (hb2.mono B1.out.size)
    clear hb2
    go_wp2_with (first
      | ((with_reducible refine wpList_load_oneG ?qqg300 3 ?qqx300 ?qqo300 w.heap.size 2 ?qqh300 (.int .i64 z2) Tryz.rObj_int (O2.out.cell 2 _ E2.out) ?_); (case qqg300 => rfl); (case qqo300 => rfl); (case qqh300 => simp [Act.eval, Act.put]))
      )
    refine (HK3.out _ B2.out).mono ?_
    rintro e w3 ⟨rfl, hb3⟩
    have O3 := uhide (O2.out.below hb3)
    have B3 : Hid (Below w.heap.size w w3) := B2.out.trans (hb3.mono B2.out.size)
    clear hb3
    go_wp2
    go_ret
    exact ⟨ret_bool (by simp), B3.out⟩
  | true =>
  cases k4 with
  | false =>
    go_enter Tryz.func216, Tryz.ntmps216
    go_wp2_with (first
      | ((with_reducible refine wpList_load_oneG ?qqg321 3 ?qqx321 ?qqo321 w.heap.size 0 ?qqh321 (.int .i64 z0) Tryz.rObj_int (OA.out.cell 0 _ E0.out) ?_); (case qqg321 => rfl); (case qqo321 => rfl); (case qqh321 => simp [Act.eval, Act.put]))
      )
    refine (HK0.out _ BA.out).mono ?_
    rintro e w0 ⟨rfl, hb0⟩
    have O0 := uhide (OA.out.below hb0)
    have B0 : Hid (Below w.heap.size w w0) := BA.out.trans (hb0.mono BA.out.size)
    clear hb0
    go_wp2_with (first
      | ((with_reducible refine wpList_load_oneG ?qqg338 9 ?qqx338 ?qqo338 w.heap.size 1 ?qqh338 (.string z1) Tryz.rObj_string (O0.out.cell 1 _ E1.out) ?_); (case qqg338 => rfl); (case qqo338 => rfl); (case qqh338 => simp [Act.eval, Act.put]))
      )
    refine (HK1.out _ B0.out).mono ?_
    rintro e w1 ⟨rfl, hb1⟩
    have O1 := uhide (O0.out.below hb1)
    have B1 : Hid (Below w.heap.size w w1) := B0.out.trans (hb1.mono B0.out.size)
    clear hb1
    go_wp2_with (first
      | ((with_reducible refine wpList_load_oneG ?qqg359 23 ?qqx359 ?qqo359 w.heap.size 6 ?qqh359 ((.slice a6 n6 cp6)) Tryz.rObj_Lstring (O1.out.cell 6 _ E6.out) ?_); (case qqg359 => rfl); (case qqo359 => rfl); (case qqh359 => simp [Act.eval, Act.put]))
      )
    refine (HK2.out _ B1.out).mono ?_
    rintro e w2 ⟨rfl, hb2⟩
    have O2 := uhide (O1.out.below hb2)
    have B2 : Hid (Below w.heap.size w w2) := B1.out.trans (hb2.mono B1.out.size)
    clear hb2
    go_wp2_with (first
      | ((with_reducible refine wpList_load_oneG ?qqg371 3 ?qqx371 ?qqo371 w.heap.size 2 ?qqh371 (.int .i64 z2) Tryz.rObj_int (O2.out.cell 2 _ E2.out) ?_); (case qqg371 => rfl); (case qqo371 => rfl); (case qqh371 => simp [Act.eval, Act.put]))
      )
    refine (HK3.out _ B2.out).mono ?_
    rintro e w3 ⟨rfl, hb3⟩
    have O3 := uhide (O2.out.below hb3)
    have B3 : Hid (Below w.heap.size w w3) := B2.out.trans (hb3.mono B2.out.size)
    clear hb3
    go_wp2_with (first
      | ((with_reducible refine wpList_load_oneG ?qqg388 3 ?qqx388 ?qqo388 w.heap.size 3 ?qqh388 (.int .i64 z3) Tryz.rObj_int (O3.out.cell 3 _ E3.out) ?_); (case qqg388 => rfl); (case qqo388 => rfl); (case qqh388 => simp [Act.eval, Act.put]))
      )
    refine (HK4.out _ B3.out).mono ?_
    rintro e w4 ⟨rfl, hb4⟩
    have O4 := uhide (O3.out.below hb4)
    have B4 : Hid (Below w.heap.size w w4) := B3.out.trans (hb4.mono B3.out.size)
    clear hb4
    go_wp2
    go_ret
    exact ⟨ret_bool (by simp), B4.out⟩
  | true =>
  cases k5 with
  | false =>
    go_enter Tryz.func216, Tryz.ntmps216
    go_wp2_with (first
      | ((with_reducible refine wpList_load_oneG ?qqg408 3 ?qqx408 ?qqo408 w.heap.size 0 ?qqh408 (.int .i64 z0) Tryz.rObj_int (OA.out.cell 0 _ E0.out) ?_); (case qqg408 => rfl); (case qqo408 => rfl); (case qqh408 => simp [Act.eval, Act.put]))
      )
    refine (HK0.out _ BA.out).mono ?_
    rintro e w0 ⟨rfl, hb0⟩
    have O0 := uhide (OA.out.below hb0)
    have B0 : Hid (Below w.heap.size w w0) := BA.out.trans (hb0.mono BA.out.size)
    clear hb0
    go_wp2_with (first
      | ((with_reducible refine wpList_load_oneG ?qqg425 9 ?qqx425 ?qqo425 w.heap.size 1 ?qqh425 (.string z1) Tryz.rObj_string (O0.out.cell 1 _ E1.out) ?_); (case qqg425 => rfl); (case qqo425 => rfl); (case qqh425 => simp [Act.eval, Act.put]))
      )
    refine (HK1.out _ B0.out).mono ?_
    rintro e w1 ⟨rfl, hb1⟩
    have O1 := uhide (O0.out.below hb1)
    have B1 : Hid (Below w.heap.size w w1) := B0.out.trans (hb1.mono B0.out.size)
    clear hb1
    go_wp2_with (first
      | ((with_reducible refine wpList_load_oneG ?qqg446 23 ?qqx446 ?qqo446 w.heap.size 6 ?qqh446 ((.slice a6 n6 cp6)) Tryz.rObj_Lstring (O1.out.cell 6 _ E6.out) ?_); (case qqg446 => rfl); (case qqo446 => rfl); (case qqh446 => simp [Act.eval, Act.put]))
      )
    refine (HK2.out _ B1.out).mono ?_
    rintro e w2 ⟨rfl, hb2⟩
    have O2 := uhide (O1.out.below hb2)
    have B2 : Hid (Below w.heap.size w w2) := B1.out.trans (hb2.mono B1.out.size)
    clear hb2
    go_wp2_with (first
      | ((with_reducible refine wpList_load_oneG ?qqg458 3 ?qqx458 ?qqo458 w.heap.size 2 ?qqh458 (.int .i64 z2) Tryz.rObj_int (O2.out.cell 2 _ E2.out) ?_); (case qqg458 => rfl); (case qqo458 => rfl); (case qqh458 => simp [Act.eval, Act.put]))
      )
    refine (HK3.out _ B2.out).mono ?_
    rintro e w3 ⟨rfl, hb3⟩
    have O3 := uhide (O2.out.below hb3)
    have B3 : Hid (Below w.heap.size w w3) := B2.out.trans (hb3.mono B2.out.size)
    clear hb3
    go_wp2_with (first
      | ((with_reducible refine wpList_load_oneG ?qqg475 3 ?qqx475 ?qqo475 w.heap.size 3 ?qqh475 (.int .i64 z3) Tryz.rObj_int (O3.out.cell 3 _ E3.out) ?_); (case qqg475 => rfl); (case qqo475 => rfl); (case qqh475 => simp [Act.eval, Act.put]))
      )
    refine (HK4.out _ B3.out).mono ?_
    rintro e w4 ⟨rfl, hb4⟩
    have O4 := uhide (O3.out.below hb4)
    have B4 : Hid (Below w.heap.size w w4) := B3.out.trans (hb4.mono B3.out.size)
    clear hb4
    go_wp2_with (first
      | ((with_reducible refine wpList_load_oneG ?qqg491 3 ?qqx491 ?qqo491 w.heap.size 3 ?qqh491 (.int .i64 z3) Tryz.rObj_int (O4.out.cell 3 _ E3.out) ?_); (case qqg491 => rfl); (case qqo491 => rfl); (case qqh491 => simp [Act.eval, Act.put]))
      | ((with_reducible refine wpList_load_oneG ?qqg492 3 ?qqx492 ?qqo492 w.heap.size 4 ?qqh492 (.int .i64 z4) Tryz.rObj_int (O4.out.cell 4 _ E4.out) ?_); (case qqg492 => rfl); (case qqo492 => rfl); (case qqh492 => simp [Act.eval, Act.put]))
      )
    refine (HK5.out _ B4.out).mono ?_
    rintro e w5 ⟨rfl, hb5⟩
    have O5 := uhide (O4.out.below hb5)
    have B5 : Hid (Below w.heap.size w w5) := B4.out.trans (hb5.mono B4.out.size)
    clear hb5
    go_wp2
    go_ret
    exact ⟨ret_bool (by simp), B5.out⟩
  | true =>
  cases k6 with
  | false =>
    go_enter Tryz.func216, Tryz.ntmps216
    go_wp2_with (first
      | ((with_reducible refine wpList_load_oneG ?qqg511 3 ?qqx511 ?qqo511 w.heap.size 0 ?qqh511 (.int .i64 z0) Tryz.rObj_int (OA.out.cell 0 _ E0.out) ?_); (case qqg511 => rfl); (case qqo511 => rfl); (case qqh511 => simp [Act.eval, Act.put]))
      )
    refine (HK0.out _ BA.out).mono ?_
    rintro e w0 ⟨rfl, hb0⟩
    have O0 := uhide (OA.out.below hb0)
    have B0 : Hid (Below w.heap.size w w0) := BA.out.trans (hb0.mono BA.out.size)
    clear hb0
    go_wp2_with (first
      | ((with_reducible refine wpList_load_oneG ?qqg528 9 ?qqx528 ?qqo528 w.heap.size 1 ?qqh528 (.string z1) Tryz.rObj_string (O0.out.cell 1 _ E1.out) ?_); (case qqg528 => rfl); (case qqo528 => rfl); (case qqh528 => simp [Act.eval, Act.put]))
      )
    refine (HK1.out _ B0.out).mono ?_
    rintro e w1 ⟨rfl, hb1⟩
    have O1 := uhide (O0.out.below hb1)
    have B1 : Hid (Below w.heap.size w w1) := B0.out.trans (hb1.mono B0.out.size)
    clear hb1
    go_wp2_with (first
      | ((with_reducible refine wpList_load_oneG ?qqg549 23 ?qqx549 ?qqo549 w.heap.size 6 ?qqh549 ((.slice a6 n6 cp6)) Tryz.rObj_Lstring (O1.out.cell 6 _ E6.out) ?_); (case qqg549 => rfl); (case qqo549 => rfl); (case qqh549 => simp [Act.eval, Act.put]))
      )
    refine (HK2.out _ B1.out).mono ?_
    rintro e w2 ⟨rfl, hb2⟩
    have O2 := uhide (O1.out.below hb2)
    have B2 : Hid (Below w.heap.size w w2) := B1.out.trans (hb2.mono B1.out.size)
    clear hb2
    go_wp2_with (first
      | ((with_reducible refine wpList_load_oneG ?qqg561 3 ?qqx561 ?qqo561 w.heap.size 2 ?qqh561 (.int .i64 z2) Tryz.rObj_int (O2.out.cell 2 _ E2.out) ?_); (case qqg561 => rfl); (case qqo561 => rfl); (case qqh561 => simp [Act.eval, Act.put]))
      )
    refine (HK3.out _ B2.out).mono ?_
    rintro e w3 ⟨rfl, hb3⟩
    have O3 := uhide (O2.out.below hb3)
    have B3 : Hid (Below w.heap.size w w3) := B2.out.trans (hb3.mono B2.out.size)
    clear hb3
    go_wp2_with (first
      | ((with_reducible refine wpList_load_oneG ?qqg578 3 ?qqx578 ?qqo578 w.heap.size 3 ?qqh578 (.int .i64 z3) Tryz.rObj_int (O3.out.cell 3 _ E3.out) ?_); (case qqg578 => rfl); (case qqo578 => rfl); (case qqh578 => simp [Act.eval, Act.put]))
      )
    refine (HK4.out _ B3.out).mono ?_
    rintro e w4 ⟨rfl, hb4⟩
    have O4 := uhide (O3.out.below hb4)
    have B4 : Hid (Below w.heap.size w w4) := B3.out.trans (hb4.mono B3.out.size)
    clear hb4
    go_wp2_with (first
      | ((with_reducible refine wpList_load_oneG ?qqg594 3 ?qqx594 ?qqo594 w.heap.size 3 ?qqh594 (.int .i64 z3) Tryz.rObj_int (O4.out.cell 3 _ E3.out) ?_); (case qqg594 => rfl); (case qqo594 => rfl); (case qqh594 => simp [Act.eval, Act.put]))
      | ((with_reducible refine wpList_load_oneG ?qqg595 3 ?qqx595 ?qqo595 w.heap.size 4 ?qqh595 (.int .i64 z4) Tryz.rObj_int (O4.out.cell 4 _ E4.out) ?_); (case qqg595 => rfl); (case qqo595 => rfl); (case qqh595 => simp [Act.eval, Act.put]))
      )
    refine (HK5.out _ B4.out).mono ?_
    rintro e w5 ⟨rfl, hb5⟩
    have O5 := uhide (O4.out.below hb5)
    have B5 : Hid (Below w.heap.size w w5) := B4.out.trans (hb5.mono B4.out.size)
    clear hb5
    go_wp2_with (first
      | ((with_reducible refine wpList_load_rowG ?qqg614 90 ?qqx614 ?qqo614 w.heap.size 7 ?qqh614 y7 Tryz.rObj_impl_Value YZ7.out (O5.out.range 7 _ E7.out) ?_); (case qqg614 => rfl); (case qqo614 => rfl); (case qqh614 => simp [Act.eval, Act.put]))
      )
    refine (HK6.out _ B5.out).mono ?_
    rintro e w6 ⟨rfl, hb6⟩
    have O6 := uhide (O5.out.below hb6)
    have B6 : Hid (Below w.heap.size w w6) := B5.out.trans (hb6.mono B5.out.size)
    clear hb6
    go_wp2
    go_ret
    exact ⟨ret_bool (by simp), B6.out⟩
  | true =>
  cases k7 with
  | false =>
    go_enter Tryz.func216, Tryz.ntmps216
    go_wp2_with (first
      | ((with_reducible refine wpList_load_oneG ?qqg630 3 ?qqx630 ?qqo630 w.heap.size 0 ?qqh630 (.int .i64 z0) Tryz.rObj_int (OA.out.cell 0 _ E0.out) ?_); (case qqg630 => rfl); (case qqo630 => rfl); (case qqh630 => simp [Act.eval, Act.put]))
      )
    refine (HK0.out _ BA.out).mono ?_
    rintro e w0 ⟨rfl, hb0⟩
    have O0 := uhide (OA.out.below hb0)
    have B0 : Hid (Below w.heap.size w w0) := BA.out.trans (hb0.mono BA.out.size)
    clear hb0
    go_wp2_with (first
      | ((with_reducible refine wpList_load_oneG ?qqg647 9 ?qqx647 ?qqo647 w.heap.size 1 ?qqh647 (.string z1) Tryz.rObj_string (O0.out.cell 1 _ E1.out) ?_); (case qqg647 => rfl); (case qqo647 => rfl); (case qqh647 => simp [Act.eval, Act.put]))
      )
    refine (HK1.out _ B0.out).mono ?_
    rintro e w1 ⟨rfl, hb1⟩
    have O1 := uhide (O0.out.below hb1)
    have B1 : Hid (Below w.heap.size w w1) := B0.out.trans (hb1.mono B0.out.size)
    clear hb1
    go_wp2_with (first
      | ((with_reducible refine wpList_load_oneG ?qqg668 23 ?qqx668 ?qqo668 w.heap.size 6 ?qqh668 ((.slice a6 n6 cp6)) Tryz.rObj_Lstring (O1.out.cell 6 _ E6.out) ?_); (case qqg668 => rfl); (case qqo668 => rfl); (case qqh668 => simp [Act.eval, Act.put]))
      )
    refine (HK2.out _ B1.out).mono ?_
    rintro e w2 ⟨rfl, hb2⟩
    have O2 := uhide (O1.out.below hb2)
    have B2 : Hid (Below w.heap.size w w2) := B1.out.trans (hb2.mono B1.out.size)
    clear hb2
    go_wp2_with (first
      | ((with_reducible refine wpList_load_oneG ?qqg680 3 ?qqx680 ?qqo680 w.heap.size 2 ?qqh680 (.int .i64 z2) Tryz.rObj_int (O2.out.cell 2 _ E2.out) ?_); (case qqg680 => rfl); (case qqo680 => rfl); (case qqh680 => simp [Act.eval, Act.put]))
      )
    refine (HK3.out _ B2.out).mono ?_
    rintro e w3 ⟨rfl, hb3⟩
    have O3 := uhide (O2.out.below hb3)
    have B3 : Hid (Below w.heap.size w w3) := B2.out.trans (hb3.mono B2.out.size)
    clear hb3
    go_wp2_with (first
      | ((with_reducible refine wpList_load_oneG ?qqg697 3 ?qqx697 ?qqo697 w.heap.size 3 ?qqh697 (.int .i64 z3) Tryz.rObj_int (O3.out.cell 3 _ E3.out) ?_); (case qqg697 => rfl); (case qqo697 => rfl); (case qqh697 => simp [Act.eval, Act.put]))
      )
    refine (HK4.out _ B3.out).mono ?_
    rintro e w4 ⟨rfl, hb4⟩
    have O4 := uhide (O3.out.below hb4)
    have B4 : Hid (Below w.heap.size w w4) := B3.out.trans (hb4.mono B3.out.size)
    clear hb4
    go_wp2_with (first
      | ((with_reducible refine wpList_load_oneG ?qqg713 3 ?qqx713 ?qqo713 w.heap.size 3 ?qqh713 (.int .i64 z3) Tryz.rObj_int (O4.out.cell 3 _ E3.out) ?_); (case qqg713 => rfl); (case qqo713 => rfl); (case qqh713 => simp [Act.eval, Act.put]))
      | ((with_reducible refine wpList_load_oneG ?qqg714 3 ?qqx714 ?qqo714 w.heap.size 4 ?qqh714 (.int .i64 z4) Tryz.rObj_int (O4.out.cell 4 _ E4.out) ?_); (case qqg714 => rfl); (case qqo714 => rfl); (case qqh714 => simp [Act.eval, Act.put]))
      )
    refine (HK5.out _ B4.out).mono ?_
    rintro e w5 ⟨rfl, hb5⟩
    have O5 := uhide (O4.out.below hb5)
    have B5 : Hid (Below w.heap.size w w5) := B4.out.trans (hb5.mono B4.out.size)
    clear hb5
    go_wp2_with (first
      | ((with_reducible refine wpList_load_rowG ?qqg733 90 ?qqx733 ?qqo733 w.heap.size 7 ?qqh733 y7 Tryz.rObj_impl_Value YZ7.out (O5.out.range 7 _ E7.out) ?_); (case qqg733 => rfl); (case qqo733 => rfl); (case qqh733 => simp [Act.eval, Act.put]))
      )
    refine (HK6.out _ B5.out).mono ?_
    rintro e w6 ⟨rfl, hb6⟩
    have O6 := uhide (O5.out.below hb6)
    have B6 : Hid (Below w.heap.size w w6) := B5.out.trans (hb6.mono B5.out.size)
    clear hb6
    go_wp2_with (first
      | ((with_reducible refine wpList_load_rowG ?qqg750 90 ?qqx750 ?qqo750 w.heap.size 12 ?qqh750 y8 Tryz.rObj_impl_Value YZ8.out (O6.out.range 12 _ E8.out) ?_); (case qqg750 => rfl); (case qqo750 => rfl); (case qqh750 => simp [Act.eval, Act.put]))
      )
    refine (HK7.out _ B6.out).mono ?_
    rintro e w7 ⟨rfl, hb7⟩
    have O7 := uhide (O6.out.below hb7)
    have B7 : Hid (Below w.heap.size w w7) := B6.out.trans (hb7.mono B6.out.size)
    clear hb7
    go_wp2
    go_ret
    exact ⟨ret_bool (by simp), B7.out⟩
  | true =>
  go_enter Tryz.func216, Tryz.ntmps216
  go_wp2_with (first
    | ((with_reducible refine wpList_load_oneG ?qqg763 3 ?qqx763 ?qqo763 w.heap.size 0 ?qqh763 (.int .i64 z0) Tryz.rObj_int (OA.out.cell 0 _ E0.out) ?_); (case qqg763 => rfl); (case qqo763 => rfl); (case qqh763 => simp [Act.eval, Act.put]))
    )
  refine (HK0.out _ BA.out).mono ?_
  rintro e w0 ⟨rfl, hb0⟩
  have O0 := uhide (OA.out.below hb0)
  have B0 : Hid (Below w.heap.size w w0) := BA.out.trans (hb0.mono BA.out.size)
  clear hb0
  go_wp2_with (first
    | ((with_reducible refine wpList_load_oneG ?qqg780 9 ?qqx780 ?qqo780 w.heap.size 1 ?qqh780 (.string z1) Tryz.rObj_string (O0.out.cell 1 _ E1.out) ?_); (case qqg780 => rfl); (case qqo780 => rfl); (case qqh780 => simp [Act.eval, Act.put]))
    )
  refine (HK1.out _ B0.out).mono ?_
  rintro e w1 ⟨rfl, hb1⟩
  have O1 := uhide (O0.out.below hb1)
  have B1 : Hid (Below w.heap.size w w1) := B0.out.trans (hb1.mono B0.out.size)
  clear hb1
  go_wp2_with (first
    | ((with_reducible refine wpList_load_oneG ?qqg801 23 ?qqx801 ?qqo801 w.heap.size 6 ?qqh801 ((.slice a6 n6 cp6)) Tryz.rObj_Lstring (O1.out.cell 6 _ E6.out) ?_); (case qqg801 => rfl); (case qqo801 => rfl); (case qqh801 => simp [Act.eval, Act.put]))
    )
  refine (HK2.out _ B1.out).mono ?_
  rintro e w2 ⟨rfl, hb2⟩
  have O2 := uhide (O1.out.below hb2)
  have B2 : Hid (Below w.heap.size w w2) := B1.out.trans (hb2.mono B1.out.size)
  clear hb2
  go_wp2_with (first
    | ((with_reducible refine wpList_load_oneG ?qqg813 3 ?qqx813 ?qqo813 w.heap.size 2 ?qqh813 (.int .i64 z2) Tryz.rObj_int (O2.out.cell 2 _ E2.out) ?_); (case qqg813 => rfl); (case qqo813 => rfl); (case qqh813 => simp [Act.eval, Act.put]))
    )
  refine (HK3.out _ B2.out).mono ?_
  rintro e w3 ⟨rfl, hb3⟩
  have O3 := uhide (O2.out.below hb3)
  have B3 : Hid (Below w.heap.size w w3) := B2.out.trans (hb3.mono B2.out.size)
  clear hb3
  go_wp2_with (first
    | ((with_reducible refine wpList_load_oneG ?qqg830 3 ?qqx830 ?qqo830 w.heap.size 3 ?qqh830 (.int .i64 z3) Tryz.rObj_int (O3.out.cell 3 _ E3.out) ?_); (case qqg830 => rfl); (case qqo830 => rfl); (case qqh830 => simp [Act.eval, Act.put]))
    )
  refine (HK4.out _ B3.out).mono ?_
  rintro e w4 ⟨rfl, hb4⟩
  have O4 := uhide (O3.out.below hb4)
  have B4 : Hid (Below w.heap.size w w4) := B3.out.trans (hb4.mono B3.out.size)
  clear hb4
  go_wp2_with (first
    | ((with_reducible refine wpList_load_oneG ?qqg846 3 ?qqx846 ?qqo846 w.heap.size 3 ?qqh846 (.int .i64 z3) Tryz.rObj_int (O4.out.cell 3 _ E3.out) ?_); (case qqg846 => rfl); (case qqo846 => rfl); (case qqh846 => simp [Act.eval, Act.put]))
    | ((with_reducible refine wpList_load_oneG ?qqg847 3 ?qqx847 ?qqo847 w.heap.size 4 ?qqh847 (.int .i64 z4) Tryz.rObj_int (O4.out.cell 4 _ E4.out) ?_); (case qqg847 => rfl); (case qqo847 => rfl); (case qqh847 => simp [Act.eval, Act.put]))
    )
  refine (HK5.out _ B4.out).mono ?_
  rintro e w5 ⟨rfl, hb5⟩
  have O5 := uhide (O4.out.below hb5)
  have B5 : Hid (Below w.heap.size w w5) := B4.out.trans (hb5.mono B4.out.size)
  clear hb5
  go_wp2_with (first
    | ((with_reducible refine wpList_load_rowG ?qqg866 90 ?qqx866 ?qqo866 w.heap.size 7 ?qqh866 y7 Tryz.rObj_impl_Value YZ7.out (O5.out.range 7 _ E7.out) ?_); (case qqg866 => rfl); (case qqo866 => rfl); (case qqh866 => simp [Act.eval, Act.put]))
    )
  refine (HK6.out _ B5.out).mono ?_
  rintro e w6 ⟨rfl, hb6⟩
  have O6 := uhide (O5.out.below hb6)
  have B6 : Hid (Below w.heap.size w w6) := B5.out.trans (hb6.mono B5.out.size)
  clear hb6
  go_wp2_with (first
    | ((with_reducible refine wpList_load_rowG ?qqg883 90 ?qqx883 ?qqo883 w.heap.size 12 ?qqh883 y8 Tryz.rObj_impl_Value YZ8.out (O6.out.range 12 _ E8.out) ?_); (case qqg883 => rfl); (case qqo883 => rfl); (case qqh883 => simp [Act.eval, Act.put]))
    )
  refine (HK7.out _ B6.out).mono ?_
  rintro e w7 ⟨rfl, hb7⟩
  have O7 := uhide (O6.out.below hb7)
  have B7 : Hid (Below w.heap.size w w7) := B6.out.trans (hb7.mono B6.out.size)
  clear hb7
  go_wp2
  go_ret
  exact ⟨ret_bool (by simp), B7.out⟩
end Go.Proofs.YtdnodaoeflbfkaaGreat
/- Objects: both that ask whether one is as told; whether one ends and waits for nothing. -/
namespace Go.Proofs.YtdnodaoeflbfkaaGreat
open Go.RowKit Go.BigFrame
set_option linter.unusedVariables false
set_option linter.unusedSimpArgs false

set_option maxRecDepth 40000 in
set_option maxHeartbeats 6400000 in
theorem l7Obj_of {lo hi : Nat} (z0 : Int) (z1 : ByteArray) (z2 z3 z4 : Int) (z5 : Bool) (n6 : Nat) (c6 d7 d8 : UD) (k6 k7 : Bool) (xs : List Value) (rev next : Int) (gone : Bool) (w : World) (g1 : z1.size ≤ maxLen) (g6 : tyS 1 n6 c6 0) (g7 : tyL d7 (uE 6)) (g8 : tyL d8 (uE 6))
    (hv7 : ∀ (w : World) (lo hi : Nat) (xs : List Value), uH w lo hi d7 xs → Calls Tryz.prog 109 #[.agg xs.toArray] w fun e w' => e = .returned (.bool k6) ∧ Below w.heap.size w w')
    (hv8 : ∀ (w : World) (lo hi : Nat) (xs : List Value), uH w lo hi d8 xs → Calls Tryz.prog 109 #[.agg xs.toArray] w fun e w' => e = .returned (.bool k7) ∧ Below w.heap.size w w')
    (hn0 : -9223372036854775807 ≤ next) (hn1 : next ≤ 9223372036854775807) (hx : uH w lo hi (UD.p (.int .i64 z0) (UD.p (.string z1) (UD.p (.int .i64 z2) (UD.p (.int .i64 z3) (UD.p (.int .i64 z4) (UD.p (.bool z5) (UD.l 1 n6 c6 (UD.app d7 (UD.app d8 UD.nil))))))))) xs) :
    Calls Tryz.prog 168 #[.agg xs.toArray, .int .i64 rev, .int .i64 next, .bool gone] w fun e w' => e = .returned (.bool ((inB z0 1 3 && nameB z1 && waitsB (strL c6) && inB z2 1 (next - 1) && inB z3 1 rev && inB z4 1 z3 && k6 && k7) && (gone || !(z5 && decide (n6 = 0))))) ∧ Below w.heap.size w w' := by
  obtain ⟨_, rfl, h0⟩ := hx
  obtain ⟨_, rfl, h1⟩ := h0
  obtain ⟨_, rfl, h2⟩ := h1
  obtain ⟨_, rfl, h3⟩ := h2
  obtain ⟨_, rfl, h4⟩ := h3
  obtain ⟨_, rfl, h5⟩ := h4
  obtain ⟨v6, _, rfl, s6, h6⟩ := h5
  obtain ⟨y7, _, rfl, l7, s7, h7⟩ := uH.split h6
  replace l7 : y7.length = 5 := l7.trans (tyL.len g7)
  clear h6
  obtain ⟨y8, _, rfl, l8, s8, h8⟩ := uH.split h7
  replace l8 : y8.length = 5 := l8.trans (tyL.len g8)
  clear h7
  obtain rfl := h8
  obtain ⟨a6, cp6, rfl⟩ : ∃ a cap, v6 = .slice a n6 cap := by obtain ⟨a, cap, e, _⟩ := s6; exact ⟨a, cap, e⟩
  have hW6 : ∀ wx : World, Below w.heap.size w wx → Calls Tryz.prog 110 #[(.slice a6 n6 cp6)] wx fun e w' => e = .returned (.bool (waitsB (strL c6))) ∧ Below wx.heap.size wx w' := by
    intro wx hb
    have h6 := s6.below hb
    obtain ⟨q1, q2, q3⟩ := strB_of g6 h6
    have q4 := okStrs_of g6
    have := l7Waits_any (strL c6) a6 cp6 wx (by rw [q3]; exact g6.2.2.1) (fun t ht => q4 t ht) (strB.of q1)
    rw [q3] at this
    exact this
  obtain ⟨k0, hk0⟩ : ∃ k, k = inB z0 1 3 := ⟨_, rfl⟩
  have HK0 : Hid (∀ wx : World, Below w.heap.size w wx → Calls Tryz.prog 98 #[.int .i64 z0, .int .i64 1, .int .i64 3] wx fun e w' => e = .returned (.bool k0) ∧ Below wx.heap.size wx w') := fun wx hb => hk0 ▸ ((l1In_any _ _ _ wx).mono fun e w' h => ⟨h.1, h.2 ▸ Below.refl _ _⟩)
  obtain ⟨k1, hk1⟩ : ∃ k, k = nameB z1 := ⟨_, rfl⟩
  have HK1 : Hid (∀ wx : World, Below w.heap.size w wx → Calls Tryz.prog 127 #[.string z1] wx fun e w' => e = .returned (.bool k1) ∧ Below wx.heap.size wx w') := fun wx hb => hk1 ▸ ((sname_any z1 wx g1).mono fun e w' h => ⟨h.1, h.2 ▸ Below.refl _ _⟩)
  obtain ⟨k2, hk2⟩ : ∃ k, k = waitsB (strL c6) := ⟨_, rfl⟩
  have HK2 : Hid (∀ wx : World, Below w.heap.size w wx → Calls Tryz.prog 110 #[(.slice a6 n6 cp6)] wx fun e w' => e = .returned (.bool k2) ∧ Below wx.heap.size wx w') := fun wx hb => hk2 ▸ (hW6 _ hb)
  obtain ⟨k3, hk3⟩ : ∃ k, k = inB z2 1 (next - 1) := ⟨_, rfl⟩
  have HK3 : Hid (∀ wx : World, Below w.heap.size w wx → Calls Tryz.prog 98 #[.int .i64 z2, .int .i64 1, .int .i64 (next - 1)] wx fun e w' => e = .returned (.bool k3) ∧ Below wx.heap.size wx w') := fun wx hb => hk3 ▸ ((l1In_any _ _ _ wx).mono fun e w' h => ⟨h.1, h.2 ▸ Below.refl _ _⟩)
  obtain ⟨k4, hk4⟩ : ∃ k, k = inB z3 1 rev := ⟨_, rfl⟩
  have HK4 : Hid (∀ wx : World, Below w.heap.size w wx → Calls Tryz.prog 98 #[.int .i64 z3, .int .i64 1, .int .i64 rev] wx fun e w' => e = .returned (.bool k4) ∧ Below wx.heap.size wx w') := fun wx hb => hk4 ▸ ((l1In_any _ _ _ wx).mono fun e w' h => ⟨h.1, h.2 ▸ Below.refl _ _⟩)
  obtain ⟨k5, hk5⟩ : ∃ k, k = inB z4 1 z3 := ⟨_, rfl⟩
  have HK5 : Hid (∀ wx : World, Below w.heap.size w wx → Calls Tryz.prog 98 #[.int .i64 z4, .int .i64 1, .int .i64 z3] wx fun e w' => e = .returned (.bool k5) ∧ Below wx.heap.size wx w') := fun wx hb => hk5 ▸ ((l1In_any _ _ _ wx).mono fun e w' h => ⟨h.1, h.2 ▸ Below.refl _ _⟩)
  have HK6 : Hid (∀ wx : World, Below w.heap.size w wx → Calls Tryz.prog 109 #[.agg y7.toArray] wx fun e w' => e = .returned (.bool k6) ∧ Below wx.heap.size wx w') := fun wx hb => (hv7 wx lo hi y7 (s7.below hb))
  have HK7 : Hid (∀ wx : World, Below w.heap.size w wx → Calls Tryz.prog 109 #[.agg y8.toArray] wx fun e w' => e = .returned (.bool k7) ∧ Below wx.heap.size wx w') := fun wx hb => (hv8 wx lo hi y8 (s8.below hb))
  have hwr : IntKind.i64.wrap (next - 1) = next - 1 := uwrap64 _ (by omega) (by omega)
  rw [← hk0, ← hk1, ← hk2, ← hk3, ← hk4, ← hk5]
  obtain ⟨AX, hAX⟩ : ∃ AX : List Value, AX = (Value.int .i64 z0 :: (Value.string z1 :: (Value.int .i64 z2 :: (Value.int .i64 z3 :: (Value.int .i64 z4 :: (Value.bool z5 :: ((.slice a6 n6 cp6) :: ((y7 ++ ((y8 ++ []))))))))))) := ⟨_, rfl⟩
  rw [← hAX]
  have hlen : AX.length = 17 := by rw [hAX]; simp [l7, l8]
  have e0 : AX[0]? = some (.int .i64 z0) := at_mid (i := 0) (pre := (([] : List Value))) (ys := [.int .i64 z0]) (post := (Value.string z1 :: (Value.int .i64 z2 :: (Value.int .i64 z3 :: (Value.int .i64 z4 :: (Value.bool z5 :: ((.slice a6 n6 cp6) :: ((y7 ++ ((y8 ++ []))))))))))) (by rw [hAX]; simp) (by simp) rfl
  have e1 : AX[1]? = some (.string z1) := at_mid (i := 0) (pre := ([Value.int .i64 z0])) (ys := [.string z1]) (post := (Value.int .i64 z2 :: (Value.int .i64 z3 :: (Value.int .i64 z4 :: (Value.bool z5 :: ((.slice a6 n6 cp6) :: ((y7 ++ ((y8 ++ [])))))))))) (by rw [hAX]; simp) (by simp) rfl
  have e2 : AX[2]? = some (.int .i64 z2) := at_mid (i := 0) (pre := ([Value.int .i64 z0, Value.string z1])) (ys := [.int .i64 z2]) (post := (Value.int .i64 z3 :: (Value.int .i64 z4 :: (Value.bool z5 :: ((.slice a6 n6 cp6) :: ((y7 ++ ((y8 ++ []))))))))) (by rw [hAX]; simp) (by simp) rfl
  have e3 : AX[3]? = some (.int .i64 z3) := at_mid (i := 0) (pre := ([Value.int .i64 z0, Value.string z1, Value.int .i64 z2])) (ys := [.int .i64 z3]) (post := (Value.int .i64 z4 :: (Value.bool z5 :: ((.slice a6 n6 cp6) :: ((y7 ++ ((y8 ++ [])))))))) (by rw [hAX]; simp) (by simp) rfl
  have e4 : AX[4]? = some (.int .i64 z4) := at_mid (i := 0) (pre := ([Value.int .i64 z0, Value.string z1, Value.int .i64 z2, Value.int .i64 z3])) (ys := [.int .i64 z4]) (post := (Value.bool z5 :: ((.slice a6 n6 cp6) :: ((y7 ++ ((y8 ++ []))))))) (by rw [hAX]; simp) (by simp) rfl
  have e5 : AX[5]? = some (.bool z5) := at_mid (i := 0) (pre := ([Value.int .i64 z0, Value.string z1, Value.int .i64 z2, Value.int .i64 z3, Value.int .i64 z4])) (ys := [.bool z5]) (post := ((.slice a6 n6 cp6) :: ((y7 ++ ((y8 ++ [])))))) (by rw [hAX]; simp) (by simp) rfl
  have e6 : AX[6]? = some ((.slice a6 n6 cp6)) := at_mid (i := 0) (pre := ([Value.int .i64 z0, Value.string z1, Value.int .i64 z2, Value.int .i64 z3, Value.int .i64 z4, Value.bool z5])) (ys := [(.slice a6 n6 cp6)]) (post := ((y7 ++ ((y8 ++ []))))) (by rw [hAX]; simp) (by simp) rfl
  have e7 : ∀ i v, y7[i]? = some v → AX[7 + i]? = some v := fun i v h => at_mid (pre := ([Value.int .i64 z0, Value.string z1, Value.int .i64 z2, Value.int .i64 z3, Value.int .i64 z4, Value.bool z5, (.slice a6 n6 cp6)])) (ys := y7) (post := ((y8 ++ []))) (by rw [hAX]; simp) (by simp) h
  have e8 : ∀ i v, y8[i]? = some v → AX[12 + i]? = some v := fun i v h => at_mid (pre := ([Value.int .i64 z0, Value.string z1, Value.int .i64 z2, Value.int .i64 z3, Value.int .i64 z4, Value.bool z5, (.slice a6 n6 cp6)] ++ y7)) (ys := y8) (post := []) (by rw [hAX]; simp) (by simp [l7]) h
  clear hAX
  have E0 := uhide e0
  clear e0
  have E1 := uhide e1
  clear e1
  have E2 := uhide e2
  clear e2
  have E3 := uhide e3
  clear e3
  have E4 := uhide e4
  clear e4
  have E5 := uhide e5
  clear e5
  have E6 := uhide e6
  clear e6
  have YZ7 : Hid ((Tryz.prog.info? 90).map (·.size) = some y7.length) := by show _ = _; rw [l7]; exact Tryz.zObj_impl_Value
  have E7 := uhide e7
  clear e7
  have YZ8 : Hid ((Tryz.prog.info? 90).map (·.size) = some y8.length) := by show _ = _; rw [l8]; exact Tryz.zObj_impl_Value
  have E8 := uhide e8
  clear e8
  have OA : Hid (objU (w.alloc (.cells AX.toArray 138)) w.heap.size 138 AX) := objU.new2 _ _ rfl
  have BA : Hid (Below w.heap.size w (w.alloc (.cells AX.toArray 138))) := (Below.refl _ _).alloc (Nat.le_refl _) _
  have hmx := g6.2.2.1
  unfold maxLen at hmx
  clear hW6 hk0 hk1 hk2 hk3 hk4 hk5 hv7 hv8 g1 g6 g7 g8 s6 s7 s8 l7 l8 hlen
  cases k0 with
  | false =>
    go_enter Tryz.func168, Tryz.ntmps168
    go_wp2_with (first
      | ((with_reducible refine wpList_load_oneG ?qqg983 3 ?qqx983 ?qqo983 w.heap.size 0 ?qqh983 (.int .i64 z0) Tryz.rObj_int (OA.out.cell 0 _ E0.out) ?_); (case qqg983 => rfl); (case qqo983 => rfl); (case qqh983 => simp [Act.eval, Act.put]))
      )
    refine (HK0.out _ BA.out).mono ?_
    rintro e w0 ⟨rfl, hb0⟩
    have O0 := uhide (OA.out.below hb0)
    have B0 : Hid (Below w.heap.size w w0) := BA.out.trans (hb0.mono BA.out.size)
    clear hb0
    go_wp2
    go_ret
    exact ⟨ret_bool (by simp), B0.out⟩
  | true =>
  cases k1 with
  | false =>
    go_enter Tryz.func168, Tryz.ntmps168
    go_wp2_with (first
      | ((with_reducible refine wpList_load_oneG ?qqg1006 3 ?qqx1006 ?qqo1006 w.heap.size 0 ?qqh1006 (.int .i64 z0) Tryz.rObj_int (OA.out.cell 0 _ E0.out) ?_); (case qqg1006 => rfl); (case qqo1006 => rfl); (case qqh1006 => simp [Act.eval, Act.put]))
      )
    refine (HK0.out _ BA.out).mono ?_
    rintro e w0 ⟨rfl, hb0⟩
    have O0 := uhide (OA.out.below hb0)
    have B0 : Hid (Below w.heap.size w w0) := BA.out.trans (hb0.mono BA.out.size)
    clear hb0
    go_wp2_with (first
      | ((with_reducible refine wpList_load_oneG ?qqg1023 9 ?qqx1023 ?qqo1023 w.heap.size 1 ?qqh1023 (.string z1) Tryz.rObj_string (O0.out.cell 1 _ E1.out) ?_); (case qqg1023 => rfl); (case qqo1023 => rfl); (case qqh1023 => simp [Act.eval, Act.put]))
      )
    refine (HK1.out _ B0.out).mono ?_
    rintro e w1 ⟨rfl, hb1⟩
    have O1 := uhide (O0.out.below hb1)
    have B1 : Hid (Below w.heap.size w w1) := B0.out.trans (hb1.mono B0.out.size)
    clear hb1
    go_wp2
    go_ret
    exact ⟨ret_bool (by simp), B1.out⟩
  | true =>
  cases k3 with
  | false =>
    go_enter Tryz.func168, Tryz.ntmps168
    go_wp2_with (first
      | ((with_reducible refine wpList_load_oneG ?qqg1045 3 ?qqx1045 ?qqo1045 w.heap.size 0 ?qqh1045 (.int .i64 z0) Tryz.rObj_int (OA.out.cell 0 _ E0.out) ?_); (case qqg1045 => rfl); (case qqo1045 => rfl); (case qqh1045 => simp [Act.eval, Act.put]))
      )
    refine (HK0.out _ BA.out).mono ?_
    rintro e w0 ⟨rfl, hb0⟩
    have O0 := uhide (OA.out.below hb0)
    have B0 : Hid (Below w.heap.size w w0) := BA.out.trans (hb0.mono BA.out.size)
    clear hb0
    go_wp2_with (first
      | ((with_reducible refine wpList_load_oneG ?qqg1062 9 ?qqx1062 ?qqo1062 w.heap.size 1 ?qqh1062 (.string z1) Tryz.rObj_string (O0.out.cell 1 _ E1.out) ?_); (case qqg1062 => rfl); (case qqo1062 => rfl); (case qqh1062 => simp [Act.eval, Act.put]))
      )
    refine (HK1.out _ B0.out).mono ?_
    rintro e w1 ⟨rfl, hb1⟩
    have O1 := uhide (O0.out.below hb1)
    have B1 : Hid (Below w.heap.size w w1) := B0.out.trans (hb1.mono B0.out.size)
    clear hb1
    go_wp2_with (first
      | ((with_reducible refine wpList_load_oneG ?qqg1079 3 ?qqx1079 ?qqo1079 w.heap.size 2 ?qqh1079 (.int .i64 z2) Tryz.rObj_int (O1.out.cell 2 _ E2.out) ?_); (case qqg1079 => rfl); (case qqo1079 => rfl); (case qqh1079 => simp [Act.eval, Act.put]))
      )
    refine (HK3.out _ B1.out).mono ?_
    rintro e w3 ⟨rfl, hb3⟩
    have O3 := uhide (O1.out.below hb3)
    have B3 : Hid (Below w.heap.size w w3) := B1.out.trans (hb3.mono B1.out.size)
    clear hb3
    go_wp2
    go_ret
    exact ⟨ret_bool (by simp), B3.out⟩
  | true =>
  cases k4 with
  | false =>
    go_enter Tryz.func168, Tryz.ntmps168
    go_wp2_with (first
      | ((with_reducible refine wpList_load_oneG ?qqg1100 3 ?qqx1100 ?qqo1100 w.heap.size 0 ?qqh1100 (.int .i64 z0) Tryz.rObj_int (OA.out.cell 0 _ E0.out) ?_); (case qqg1100 => rfl); (case qqo1100 => rfl); (case qqh1100 => simp [Act.eval, Act.put]))
      )
    refine (HK0.out _ BA.out).mono ?_
    rintro e w0 ⟨rfl, hb0⟩
    have O0 := uhide (OA.out.below hb0)
    have B0 : Hid (Below w.heap.size w w0) := BA.out.trans (hb0.mono BA.out.size)
    clear hb0
    go_wp2_with (first
      | ((with_reducible refine wpList_load_oneG ?qqg1117 9 ?qqx1117 ?qqo1117 w.heap.size 1 ?qqh1117 (.string z1) Tryz.rObj_string (O0.out.cell 1 _ E1.out) ?_); (case qqg1117 => rfl); (case qqo1117 => rfl); (case qqh1117 => simp [Act.eval, Act.put]))
      )
    refine (HK1.out _ B0.out).mono ?_
    rintro e w1 ⟨rfl, hb1⟩
    have O1 := uhide (O0.out.below hb1)
    have B1 : Hid (Below w.heap.size w w1) := B0.out.trans (hb1.mono B0.out.size)
    clear hb1
    go_wp2_with (first
      | ((with_reducible refine wpList_load_oneG ?qqg1134 3 ?qqx1134 ?qqo1134 w.heap.size 2 ?qqh1134 (.int .i64 z2) Tryz.rObj_int (O1.out.cell 2 _ E2.out) ?_); (case qqg1134 => rfl); (case qqo1134 => rfl); (case qqh1134 => simp [Act.eval, Act.put]))
      )
    refine (HK3.out _ B1.out).mono ?_
    rintro e w3 ⟨rfl, hb3⟩
    have O3 := uhide (O1.out.below hb3)
    have B3 : Hid (Below w.heap.size w w3) := B1.out.trans (hb3.mono B1.out.size)
    clear hb3
    go_wp2_with (first
      | ((with_reducible refine wpList_load_oneG ?qqg1151 3 ?qqx1151 ?qqo1151 w.heap.size 3 ?qqh1151 (.int .i64 z3) Tryz.rObj_int (O3.out.cell 3 _ E3.out) ?_); (case qqg1151 => rfl); (case qqo1151 => rfl); (case qqh1151 => simp [Act.eval, Act.put]))
      )
    refine (HK4.out _ B3.out).mono ?_
    rintro e w4 ⟨rfl, hb4⟩
    have O4 := uhide (O3.out.below hb4)
    have B4 : Hid (Below w.heap.size w w4) := B3.out.trans (hb4.mono B3.out.size)
    clear hb4
    go_wp2
    go_ret
    exact ⟨ret_bool (by simp), B4.out⟩
  | true =>
  cases k5 with
  | false =>
    go_enter Tryz.func168, Tryz.ntmps168
    go_wp2_with (first
      | ((with_reducible refine wpList_load_oneG ?qqg1171 3 ?qqx1171 ?qqo1171 w.heap.size 0 ?qqh1171 (.int .i64 z0) Tryz.rObj_int (OA.out.cell 0 _ E0.out) ?_); (case qqg1171 => rfl); (case qqo1171 => rfl); (case qqh1171 => simp [Act.eval, Act.put]))
      )
    refine (HK0.out _ BA.out).mono ?_
    rintro e w0 ⟨rfl, hb0⟩
    have O0 := uhide (OA.out.below hb0)
    have B0 : Hid (Below w.heap.size w w0) := BA.out.trans (hb0.mono BA.out.size)
    clear hb0
    go_wp2_with (first
      | ((with_reducible refine wpList_load_oneG ?qqg1188 9 ?qqx1188 ?qqo1188 w.heap.size 1 ?qqh1188 (.string z1) Tryz.rObj_string (O0.out.cell 1 _ E1.out) ?_); (case qqg1188 => rfl); (case qqo1188 => rfl); (case qqh1188 => simp [Act.eval, Act.put]))
      )
    refine (HK1.out _ B0.out).mono ?_
    rintro e w1 ⟨rfl, hb1⟩
    have O1 := uhide (O0.out.below hb1)
    have B1 : Hid (Below w.heap.size w w1) := B0.out.trans (hb1.mono B0.out.size)
    clear hb1
    go_wp2_with (first
      | ((with_reducible refine wpList_load_oneG ?qqg1205 3 ?qqx1205 ?qqo1205 w.heap.size 2 ?qqh1205 (.int .i64 z2) Tryz.rObj_int (O1.out.cell 2 _ E2.out) ?_); (case qqg1205 => rfl); (case qqo1205 => rfl); (case qqh1205 => simp [Act.eval, Act.put]))
      )
    refine (HK3.out _ B1.out).mono ?_
    rintro e w3 ⟨rfl, hb3⟩
    have O3 := uhide (O1.out.below hb3)
    have B3 : Hid (Below w.heap.size w w3) := B1.out.trans (hb3.mono B1.out.size)
    clear hb3
    go_wp2_with (first
      | ((with_reducible refine wpList_load_oneG ?qqg1222 3 ?qqx1222 ?qqo1222 w.heap.size 3 ?qqh1222 (.int .i64 z3) Tryz.rObj_int (O3.out.cell 3 _ E3.out) ?_); (case qqg1222 => rfl); (case qqo1222 => rfl); (case qqh1222 => simp [Act.eval, Act.put]))
      )
    refine (HK4.out _ B3.out).mono ?_
    rintro e w4 ⟨rfl, hb4⟩
    have O4 := uhide (O3.out.below hb4)
    have B4 : Hid (Below w.heap.size w w4) := B3.out.trans (hb4.mono B3.out.size)
    clear hb4
    go_wp2_with (first
      | ((with_reducible refine wpList_load_oneG ?qqg1238 3 ?qqx1238 ?qqo1238 w.heap.size 3 ?qqh1238 (.int .i64 z3) Tryz.rObj_int (O4.out.cell 3 _ E3.out) ?_); (case qqg1238 => rfl); (case qqo1238 => rfl); (case qqh1238 => simp [Act.eval, Act.put]))
      | ((with_reducible refine wpList_load_oneG ?qqg1239 3 ?qqx1239 ?qqo1239 w.heap.size 4 ?qqh1239 (.int .i64 z4) Tryz.rObj_int (O4.out.cell 4 _ E4.out) ?_); (case qqg1239 => rfl); (case qqo1239 => rfl); (case qqh1239 => simp [Act.eval, Act.put]))
      )
    refine (HK5.out _ B4.out).mono ?_
    rintro e w5 ⟨rfl, hb5⟩
    have O5 := uhide (O4.out.below hb5)
    have B5 : Hid (Below w.heap.size w w5) := B4.out.trans (hb5.mono B4.out.size)
    clear hb5
    go_wp2
    go_ret
    exact ⟨ret_bool (by simp), B5.out⟩
  | true =>
  cases k2 with
  | false =>
    go_enter Tryz.func168, Tryz.ntmps168
    go_wp2_with (first
      | ((with_reducible refine wpList_load_oneG ?qqg1258 3 ?qqx1258 ?qqo1258 w.heap.size 0 ?qqh1258 (.int .i64 z0) Tryz.rObj_int (OA.out.cell 0 _ E0.out) ?_); (case qqg1258 => rfl); (case qqo1258 => rfl); (case qqh1258 => simp [Act.eval, Act.put]))
      )
    refine (HK0.out _ BA.out).mono ?_
    rintro e w0 ⟨rfl, hb0⟩
    have O0 := uhide (OA.out.below hb0)
    have B0 : Hid (Below w.heap.size w w0) := BA.out.trans (hb0.mono BA.out.size)
    clear hb0
    go_wp2_with (first
      | ((with_reducible refine wpList_load_oneG ?qqg1275 9 ?qqx1275 ?qqo1275 w.heap.size 1 ?qqh1275 (.string z1) Tryz.rObj_string (O0.out.cell 1 _ E1.out) ?_); (case qqg1275 => rfl); (case qqo1275 => rfl); (case qqh1275 => simp [Act.eval, Act.put]))
      )
    refine (HK1.out _ B0.out).mono ?_
    rintro e w1 ⟨rfl, hb1⟩
    have O1 := uhide (O0.out.below hb1)
    have B1 : Hid (Below w.heap.size w w1) := B0.out.trans (hb1.mono B0.out.size)
    clear hb1
    go_wp2_with (first
      | ((with_reducible refine wpList_load_oneG ?qqg1292 3 ?qqx1292 ?qqo1292 w.heap.size 2 ?qqh1292 (.int .i64 z2) Tryz.rObj_int (O1.out.cell 2 _ E2.out) ?_); (case qqg1292 => rfl); (case qqo1292 => rfl); (case qqh1292 => simp [Act.eval, Act.put]))
      )
    refine (HK3.out _ B1.out).mono ?_
    rintro e w3 ⟨rfl, hb3⟩
    have O3 := uhide (O1.out.below hb3)
    have B3 : Hid (Below w.heap.size w w3) := B1.out.trans (hb3.mono B1.out.size)
    clear hb3
    go_wp2_with (first
      | ((with_reducible refine wpList_load_oneG ?qqg1309 3 ?qqx1309 ?qqo1309 w.heap.size 3 ?qqh1309 (.int .i64 z3) Tryz.rObj_int (O3.out.cell 3 _ E3.out) ?_); (case qqg1309 => rfl); (case qqo1309 => rfl); (case qqh1309 => simp [Act.eval, Act.put]))
      )
    refine (HK4.out _ B3.out).mono ?_
    rintro e w4 ⟨rfl, hb4⟩
    have O4 := uhide (O3.out.below hb4)
    have B4 : Hid (Below w.heap.size w w4) := B3.out.trans (hb4.mono B3.out.size)
    clear hb4
    go_wp2_with (first
      | ((with_reducible refine wpList_load_oneG ?qqg1325 3 ?qqx1325 ?qqo1325 w.heap.size 3 ?qqh1325 (.int .i64 z3) Tryz.rObj_int (O4.out.cell 3 _ E3.out) ?_); (case qqg1325 => rfl); (case qqo1325 => rfl); (case qqh1325 => simp [Act.eval, Act.put]))
      | ((with_reducible refine wpList_load_oneG ?qqg1326 3 ?qqx1326 ?qqo1326 w.heap.size 4 ?qqh1326 (.int .i64 z4) Tryz.rObj_int (O4.out.cell 4 _ E4.out) ?_); (case qqg1326 => rfl); (case qqo1326 => rfl); (case qqh1326 => simp [Act.eval, Act.put]))
      )
    refine (HK5.out _ B4.out).mono ?_
    rintro e w5 ⟨rfl, hb5⟩
    have O5 := uhide (O4.out.below hb5)
    have B5 : Hid (Below w.heap.size w w5) := B4.out.trans (hb5.mono B4.out.size)
    clear hb5
    go_wp2_with (first
      | ((with_reducible refine wpList_load_oneG ?qqg1344 23 ?qqx1344 ?qqo1344 w.heap.size 6 ?qqh1344 ((.slice a6 n6 cp6)) Tryz.rObj_Lstring (O5.out.cell 6 _ E6.out) ?_); (case qqg1344 => rfl); (case qqo1344 => rfl); (case qqh1344 => simp [Act.eval, Act.put]))
      )
    refine (HK2.out _ B5.out).mono ?_
    rintro e w2 ⟨rfl, hb2⟩
    have O2 := uhide (O5.out.below hb2)
    have B2 : Hid (Below w.heap.size w w2) := B5.out.trans (hb2.mono B5.out.size)
    clear hb2
    go_wp2
    go_ret
    exact ⟨ret_bool (by simp), B2.out⟩
  | true =>
  cases k6 with
  | false =>
    go_enter Tryz.func168, Tryz.ntmps168
    go_wp2_with (first
      | ((with_reducible refine wpList_load_oneG ?qqg1361 3 ?qqx1361 ?qqo1361 w.heap.size 0 ?qqh1361 (.int .i64 z0) Tryz.rObj_int (OA.out.cell 0 _ E0.out) ?_); (case qqg1361 => rfl); (case qqo1361 => rfl); (case qqh1361 => simp [Act.eval, Act.put]))
      )
    refine (HK0.out _ BA.out).mono ?_
    rintro e w0 ⟨rfl, hb0⟩
    have O0 := uhide (OA.out.below hb0)
    have B0 : Hid (Below w.heap.size w w0) := BA.out.trans (hb0.mono BA.out.size)
    clear hb0
    go_wp2_with (first
      | ((with_reducible refine wpList_load_oneG ?qqg1378 9 ?qqx1378 ?qqo1378 w.heap.size 1 ?qqh1378 (.string z1) Tryz.rObj_string (O0.out.cell 1 _ E1.out) ?_); (case qqg1378 => rfl); (case qqo1378 => rfl); (case qqh1378 => simp [Act.eval, Act.put]))
      )
    refine (HK1.out _ B0.out).mono ?_
    rintro e w1 ⟨rfl, hb1⟩
    have O1 := uhide (O0.out.below hb1)
    have B1 : Hid (Below w.heap.size w w1) := B0.out.trans (hb1.mono B0.out.size)
    clear hb1
    go_wp2_with (first
      | ((with_reducible refine wpList_load_oneG ?qqg1395 3 ?qqx1395 ?qqo1395 w.heap.size 2 ?qqh1395 (.int .i64 z2) Tryz.rObj_int (O1.out.cell 2 _ E2.out) ?_); (case qqg1395 => rfl); (case qqo1395 => rfl); (case qqh1395 => simp [Act.eval, Act.put]))
      )
    refine (HK3.out _ B1.out).mono ?_
    rintro e w3 ⟨rfl, hb3⟩
    have O3 := uhide (O1.out.below hb3)
    have B3 : Hid (Below w.heap.size w w3) := B1.out.trans (hb3.mono B1.out.size)
    clear hb3
    go_wp2_with (first
      | ((with_reducible refine wpList_load_oneG ?qqg1412 3 ?qqx1412 ?qqo1412 w.heap.size 3 ?qqh1412 (.int .i64 z3) Tryz.rObj_int (O3.out.cell 3 _ E3.out) ?_); (case qqg1412 => rfl); (case qqo1412 => rfl); (case qqh1412 => simp [Act.eval, Act.put]))
      )
    refine (HK4.out _ B3.out).mono ?_
    rintro e w4 ⟨rfl, hb4⟩
    have O4 := uhide (O3.out.below hb4)
    have B4 : Hid (Below w.heap.size w w4) := B3.out.trans (hb4.mono B3.out.size)
    clear hb4
    go_wp2_with (first
      | ((with_reducible refine wpList_load_oneG ?qqg1428 3 ?qqx1428 ?qqo1428 w.heap.size 3 ?qqh1428 (.int .i64 z3) Tryz.rObj_int (O4.out.cell 3 _ E3.out) ?_); (case qqg1428 => rfl); (case qqo1428 => rfl); (case qqh1428 => simp [Act.eval, Act.put]))
      | ((with_reducible refine wpList_load_oneG ?qqg1429 3 ?qqx1429 ?qqo1429 w.heap.size 4 ?qqh1429 (.int .i64 z4) Tryz.rObj_int (O4.out.cell 4 _ E4.out) ?_); (case qqg1429 => rfl); (case qqo1429 => rfl); (case qqh1429 => simp [Act.eval, Act.put]))
      )
    refine (HK5.out _ B4.out).mono ?_
    rintro e w5 ⟨rfl, hb5⟩
    have O5 := uhide (O4.out.below hb5)
    have B5 : Hid (Below w.heap.size w w5) := B4.out.trans (hb5.mono B4.out.size)
    clear hb5
    go_wp2_with (first
      | ((with_reducible refine wpList_load_oneG ?qqg1447 23 ?qqx1447 ?qqo1447 w.heap.size 6 ?qqh1447 ((.slice a6 n6 cp6)) Tryz.rObj_Lstring (O5.out.cell 6 _ E6.out) ?_); (case qqg1447 => rfl); (case qqo1447 => rfl); (case qqh1447 => simp [Act.eval, Act.put]))
      )
    refine (HK2.out _ B5.out).mono ?_
    rintro e w2 ⟨rfl, hb2⟩
    have O2 := uhide (O5.out.below hb2)
    have B2 : Hid (Below w.heap.size w w2) := B5.out.trans (hb2.mono B5.out.size)
    clear hb2
    go_wp2_with (first
      | ((with_reducible refine wpList_load_rowG ?qqg1464 90 ?qqx1464 ?qqo1464 w.heap.size 7 ?qqh1464 y7 Tryz.rObj_impl_Value YZ7.out (O2.out.range 7 _ E7.out) ?_); (case qqg1464 => rfl); (case qqo1464 => rfl); (case qqh1464 => simp [Act.eval, Act.put]))
      )
    refine (HK6.out _ B2.out).mono ?_
    rintro e w6 ⟨rfl, hb6⟩
    have O6 := uhide (O2.out.below hb6)
    have B6 : Hid (Below w.heap.size w w6) := B2.out.trans (hb6.mono B2.out.size)
    clear hb6
    go_wp2
    go_ret
    exact ⟨ret_bool (by simp), B6.out⟩
  | true =>
  cases k7 with
  | false =>
    go_enter Tryz.func168, Tryz.ntmps168
    go_wp2_with (first
      | ((with_reducible refine wpList_load_oneG ?qqg1480 3 ?qqx1480 ?qqo1480 w.heap.size 0 ?qqh1480 (.int .i64 z0) Tryz.rObj_int (OA.out.cell 0 _ E0.out) ?_); (case qqg1480 => rfl); (case qqo1480 => rfl); (case qqh1480 => simp [Act.eval, Act.put]))
      )
    refine (HK0.out _ BA.out).mono ?_
    rintro e w0 ⟨rfl, hb0⟩
    have O0 := uhide (OA.out.below hb0)
    have B0 : Hid (Below w.heap.size w w0) := BA.out.trans (hb0.mono BA.out.size)
    clear hb0
    go_wp2_with (first
      | ((with_reducible refine wpList_load_oneG ?qqg1497 9 ?qqx1497 ?qqo1497 w.heap.size 1 ?qqh1497 (.string z1) Tryz.rObj_string (O0.out.cell 1 _ E1.out) ?_); (case qqg1497 => rfl); (case qqo1497 => rfl); (case qqh1497 => simp [Act.eval, Act.put]))
      )
    refine (HK1.out _ B0.out).mono ?_
    rintro e w1 ⟨rfl, hb1⟩
    have O1 := uhide (O0.out.below hb1)
    have B1 : Hid (Below w.heap.size w w1) := B0.out.trans (hb1.mono B0.out.size)
    clear hb1
    go_wp2_with (first
      | ((with_reducible refine wpList_load_oneG ?qqg1514 3 ?qqx1514 ?qqo1514 w.heap.size 2 ?qqh1514 (.int .i64 z2) Tryz.rObj_int (O1.out.cell 2 _ E2.out) ?_); (case qqg1514 => rfl); (case qqo1514 => rfl); (case qqh1514 => simp [Act.eval, Act.put]))
      )
    refine (HK3.out _ B1.out).mono ?_
    rintro e w3 ⟨rfl, hb3⟩
    have O3 := uhide (O1.out.below hb3)
    have B3 : Hid (Below w.heap.size w w3) := B1.out.trans (hb3.mono B1.out.size)
    clear hb3
    go_wp2_with (first
      | ((with_reducible refine wpList_load_oneG ?qqg1531 3 ?qqx1531 ?qqo1531 w.heap.size 3 ?qqh1531 (.int .i64 z3) Tryz.rObj_int (O3.out.cell 3 _ E3.out) ?_); (case qqg1531 => rfl); (case qqo1531 => rfl); (case qqh1531 => simp [Act.eval, Act.put]))
      )
    refine (HK4.out _ B3.out).mono ?_
    rintro e w4 ⟨rfl, hb4⟩
    have O4 := uhide (O3.out.below hb4)
    have B4 : Hid (Below w.heap.size w w4) := B3.out.trans (hb4.mono B3.out.size)
    clear hb4
    go_wp2_with (first
      | ((with_reducible refine wpList_load_oneG ?qqg1547 3 ?qqx1547 ?qqo1547 w.heap.size 3 ?qqh1547 (.int .i64 z3) Tryz.rObj_int (O4.out.cell 3 _ E3.out) ?_); (case qqg1547 => rfl); (case qqo1547 => rfl); (case qqh1547 => simp [Act.eval, Act.put]))
      | ((with_reducible refine wpList_load_oneG ?qqg1548 3 ?qqx1548 ?qqo1548 w.heap.size 4 ?qqh1548 (.int .i64 z4) Tryz.rObj_int (O4.out.cell 4 _ E4.out) ?_); (case qqg1548 => rfl); (case qqo1548 => rfl); (case qqh1548 => simp [Act.eval, Act.put]))
      )
    refine (HK5.out _ B4.out).mono ?_
    rintro e w5 ⟨rfl, hb5⟩
    have O5 := uhide (O4.out.below hb5)
    have B5 : Hid (Below w.heap.size w w5) := B4.out.trans (hb5.mono B4.out.size)
    clear hb5
    go_wp2_with (first
      | ((with_reducible refine wpList_load_oneG ?qqg1566 23 ?qqx1566 ?qqo1566 w.heap.size 6 ?qqh1566 ((.slice a6 n6 cp6)) Tryz.rObj_Lstring (O5.out.cell 6 _ E6.out) ?_); (case qqg1566 => rfl); (case qqo1566 => rfl); (case qqh1566 => simp [Act.eval, Act.put]))
      )
    refine (HK2.out _ B5.out).mono ?_
    rintro e w2 ⟨rfl, hb2⟩
    have O2 := uhide (O5.out.below hb2)
    have B2 : Hid (Below w.heap.size w w2) := B5.out.trans (hb2.mono B5.out.size)
    clear hb2
    go_wp2_with (first
      | ((with_reducible refine wpList_load_rowG ?qqg1583 90 ?qqx1583 ?qqo1583 w.heap.size 7 ?qqh1583 y7 Tryz.rObj_impl_Value YZ7.out (O2.out.range 7 _ E7.out) ?_); (case qqg1583 => rfl); (case qqo1583 => rfl); (case qqh1583 => simp [Act.eval, Act.put]))
      )
    refine (HK6.out _ B2.out).mono ?_
    rintro e w6 ⟨rfl, hb6⟩
    have O6 := uhide (O2.out.below hb6)
    have B6 : Hid (Below w.heap.size w w6) := B2.out.trans (hb6.mono B2.out.size)
    clear hb6
    go_wp2_with (first
      | ((with_reducible refine wpList_load_rowG ?qqg1600 90 ?qqx1600 ?qqo1600 w.heap.size 12 ?qqh1600 y8 Tryz.rObj_impl_Value YZ8.out (O6.out.range 12 _ E8.out) ?_); (case qqg1600 => rfl); (case qqo1600 => rfl); (case qqh1600 => simp [Act.eval, Act.put]))
      )
    refine (HK7.out _ B6.out).mono ?_
    rintro e w7 ⟨rfl, hb7⟩
    have O7 := uhide (O6.out.below hb7)
    have B7 : Hid (Below w.heap.size w w7) := B6.out.trans (hb7.mono B6.out.size)
    clear hb7
    go_wp2
    go_ret
    exact ⟨ret_bool (by simp), B7.out⟩
  | true =>
  cases gone with
  | true =>
    go_enter Tryz.func168, Tryz.ntmps168
    go_wp2_with (first
      | ((with_reducible refine wpList_load_oneG ?qqg1615 3 ?qqx1615 ?qqo1615 w.heap.size 0 ?qqh1615 (.int .i64 z0) Tryz.rObj_int (OA.out.cell 0 _ E0.out) ?_); (case qqg1615 => rfl); (case qqo1615 => rfl); (case qqh1615 => simp [Act.eval, Act.put]))
      )
    refine (HK0.out _ BA.out).mono ?_
    rintro e w0 ⟨rfl, hb0⟩
    have O0 := uhide (OA.out.below hb0)
    have B0 : Hid (Below w.heap.size w w0) := BA.out.trans (hb0.mono BA.out.size)
    clear hb0
    go_wp2_with (first
      | ((with_reducible refine wpList_load_oneG ?qqg1632 9 ?qqx1632 ?qqo1632 w.heap.size 1 ?qqh1632 (.string z1) Tryz.rObj_string (O0.out.cell 1 _ E1.out) ?_); (case qqg1632 => rfl); (case qqo1632 => rfl); (case qqh1632 => simp [Act.eval, Act.put]))
      )
    refine (HK1.out _ B0.out).mono ?_
    rintro e w1 ⟨rfl, hb1⟩
    have O1 := uhide (O0.out.below hb1)
    have B1 : Hid (Below w.heap.size w w1) := B0.out.trans (hb1.mono B0.out.size)
    clear hb1
    go_wp2_with (first
      | ((with_reducible refine wpList_load_oneG ?qqg1649 3 ?qqx1649 ?qqo1649 w.heap.size 2 ?qqh1649 (.int .i64 z2) Tryz.rObj_int (O1.out.cell 2 _ E2.out) ?_); (case qqg1649 => rfl); (case qqo1649 => rfl); (case qqh1649 => simp [Act.eval, Act.put]))
      )
    refine (HK3.out _ B1.out).mono ?_
    rintro e w3 ⟨rfl, hb3⟩
    have O3 := uhide (O1.out.below hb3)
    have B3 : Hid (Below w.heap.size w w3) := B1.out.trans (hb3.mono B1.out.size)
    clear hb3
    go_wp2_with (first
      | ((with_reducible refine wpList_load_oneG ?qqg1666 3 ?qqx1666 ?qqo1666 w.heap.size 3 ?qqh1666 (.int .i64 z3) Tryz.rObj_int (O3.out.cell 3 _ E3.out) ?_); (case qqg1666 => rfl); (case qqo1666 => rfl); (case qqh1666 => simp [Act.eval, Act.put]))
      )
    refine (HK4.out _ B3.out).mono ?_
    rintro e w4 ⟨rfl, hb4⟩
    have O4 := uhide (O3.out.below hb4)
    have B4 : Hid (Below w.heap.size w w4) := B3.out.trans (hb4.mono B3.out.size)
    clear hb4
    go_wp2_with (first
      | ((with_reducible refine wpList_load_oneG ?qqg1682 3 ?qqx1682 ?qqo1682 w.heap.size 3 ?qqh1682 (.int .i64 z3) Tryz.rObj_int (O4.out.cell 3 _ E3.out) ?_); (case qqg1682 => rfl); (case qqo1682 => rfl); (case qqh1682 => simp [Act.eval, Act.put]))
      | ((with_reducible refine wpList_load_oneG ?qqg1683 3 ?qqx1683 ?qqo1683 w.heap.size 4 ?qqh1683 (.int .i64 z4) Tryz.rObj_int (O4.out.cell 4 _ E4.out) ?_); (case qqg1683 => rfl); (case qqo1683 => rfl); (case qqh1683 => simp [Act.eval, Act.put]))
      )
    refine (HK5.out _ B4.out).mono ?_
    rintro e w5 ⟨rfl, hb5⟩
    have O5 := uhide (O4.out.below hb5)
    have B5 : Hid (Below w.heap.size w w5) := B4.out.trans (hb5.mono B4.out.size)
    clear hb5
    go_wp2_with (first
      | ((with_reducible refine wpList_load_oneG ?qqg1701 23 ?qqx1701 ?qqo1701 w.heap.size 6 ?qqh1701 ((.slice a6 n6 cp6)) Tryz.rObj_Lstring (O5.out.cell 6 _ E6.out) ?_); (case qqg1701 => rfl); (case qqo1701 => rfl); (case qqh1701 => simp [Act.eval, Act.put]))
      )
    refine (HK2.out _ B5.out).mono ?_
    rintro e w2 ⟨rfl, hb2⟩
    have O2 := uhide (O5.out.below hb2)
    have B2 : Hid (Below w.heap.size w w2) := B5.out.trans (hb2.mono B5.out.size)
    clear hb2
    go_wp2_with (first
      | ((with_reducible refine wpList_load_rowG ?qqg1718 90 ?qqx1718 ?qqo1718 w.heap.size 7 ?qqh1718 y7 Tryz.rObj_impl_Value YZ7.out (O2.out.range 7 _ E7.out) ?_); (case qqg1718 => rfl); (case qqo1718 => rfl); (case qqh1718 => simp [Act.eval, Act.put]))
      )
    refine (HK6.out _ B2.out).mono ?_
    rintro e w6 ⟨rfl, hb6⟩
    have O6 := uhide (O2.out.below hb6)
    have B6 : Hid (Below w.heap.size w w6) := B2.out.trans (hb6.mono B2.out.size)
    clear hb6
    go_wp2_with (first
      | ((with_reducible refine wpList_load_rowG ?qqg1735 90 ?qqx1735 ?qqo1735 w.heap.size 12 ?qqh1735 y8 Tryz.rObj_impl_Value YZ8.out (O6.out.range 12 _ E8.out) ?_); (case qqg1735 => rfl); (case qqo1735 => rfl); (case qqh1735 => simp [Act.eval, Act.put]))
      )
    refine (HK7.out _ B6.out).mono ?_
    rintro e w7 ⟨rfl, hb7⟩
    have O7 := uhide (O6.out.below hb7)
    have B7 : Hid (Below w.heap.size w w7) := B6.out.trans (hb7.mono B6.out.size)
    clear hb7
    go_wp2
    go_ret
    exact ⟨ret_bool (by simp), B7.out⟩
  | false =>
    cases z5 with
    | false =>
      go_enter Tryz.func168, Tryz.ntmps168
      go_wp2_with (first
        | ((with_reducible refine wpList_load_oneG ?qqg1750 3 ?qqx1750 ?qqo1750 w.heap.size 0 ?qqh1750 (.int .i64 z0) Tryz.rObj_int (OA.out.cell 0 _ E0.out) ?_); (case qqg1750 => rfl); (case qqo1750 => rfl); (case qqh1750 => simp [Act.eval, Act.put]))
        )
      refine (HK0.out _ BA.out).mono ?_
      rintro e w0 ⟨rfl, hb0⟩
      have O0 := uhide (OA.out.below hb0)
      have B0 : Hid (Below w.heap.size w w0) := BA.out.trans (hb0.mono BA.out.size)
      clear hb0
      go_wp2_with (first
        | ((with_reducible refine wpList_load_oneG ?qqg1767 9 ?qqx1767 ?qqo1767 w.heap.size 1 ?qqh1767 (.string z1) Tryz.rObj_string (O0.out.cell 1 _ E1.out) ?_); (case qqg1767 => rfl); (case qqo1767 => rfl); (case qqh1767 => simp [Act.eval, Act.put]))
        )
      refine (HK1.out _ B0.out).mono ?_
      rintro e w1 ⟨rfl, hb1⟩
      have O1 := uhide (O0.out.below hb1)
      have B1 : Hid (Below w.heap.size w w1) := B0.out.trans (hb1.mono B0.out.size)
      clear hb1
      go_wp2_with (first
        | ((with_reducible refine wpList_load_oneG ?qqg1784 3 ?qqx1784 ?qqo1784 w.heap.size 2 ?qqh1784 (.int .i64 z2) Tryz.rObj_int (O1.out.cell 2 _ E2.out) ?_); (case qqg1784 => rfl); (case qqo1784 => rfl); (case qqh1784 => simp [Act.eval, Act.put]))
        )
      refine (HK3.out _ B1.out).mono ?_
      rintro e w3 ⟨rfl, hb3⟩
      have O3 := uhide (O1.out.below hb3)
      have B3 : Hid (Below w.heap.size w w3) := B1.out.trans (hb3.mono B1.out.size)
      clear hb3
      go_wp2_with (first
        | ((with_reducible refine wpList_load_oneG ?qqg1801 3 ?qqx1801 ?qqo1801 w.heap.size 3 ?qqh1801 (.int .i64 z3) Tryz.rObj_int (O3.out.cell 3 _ E3.out) ?_); (case qqg1801 => rfl); (case qqo1801 => rfl); (case qqh1801 => simp [Act.eval, Act.put]))
        )
      refine (HK4.out _ B3.out).mono ?_
      rintro e w4 ⟨rfl, hb4⟩
      have O4 := uhide (O3.out.below hb4)
      have B4 : Hid (Below w.heap.size w w4) := B3.out.trans (hb4.mono B3.out.size)
      clear hb4
      go_wp2_with (first
        | ((with_reducible refine wpList_load_oneG ?qqg1817 3 ?qqx1817 ?qqo1817 w.heap.size 3 ?qqh1817 (.int .i64 z3) Tryz.rObj_int (O4.out.cell 3 _ E3.out) ?_); (case qqg1817 => rfl); (case qqo1817 => rfl); (case qqh1817 => simp [Act.eval, Act.put]))
        | ((with_reducible refine wpList_load_oneG ?qqg1818 3 ?qqx1818 ?qqo1818 w.heap.size 4 ?qqh1818 (.int .i64 z4) Tryz.rObj_int (O4.out.cell 4 _ E4.out) ?_); (case qqg1818 => rfl); (case qqo1818 => rfl); (case qqh1818 => simp [Act.eval, Act.put]))
        )
      refine (HK5.out _ B4.out).mono ?_
      rintro e w5 ⟨rfl, hb5⟩
      have O5 := uhide (O4.out.below hb5)
      have B5 : Hid (Below w.heap.size w w5) := B4.out.trans (hb5.mono B4.out.size)
      clear hb5
      go_wp2_with (first
        | ((with_reducible refine wpList_load_oneG ?qqg1836 23 ?qqx1836 ?qqo1836 w.heap.size 6 ?qqh1836 ((.slice a6 n6 cp6)) Tryz.rObj_Lstring (O5.out.cell 6 _ E6.out) ?_); (case qqg1836 => rfl); (case qqo1836 => rfl); (case qqh1836 => simp [Act.eval, Act.put]))
        )
      refine (HK2.out _ B5.out).mono ?_
      rintro e w2 ⟨rfl, hb2⟩
      have O2 := uhide (O5.out.below hb2)
      have B2 : Hid (Below w.heap.size w w2) := B5.out.trans (hb2.mono B5.out.size)
      clear hb2
      go_wp2_with (first
        | ((with_reducible refine wpList_load_rowG ?qqg1853 90 ?qqx1853 ?qqo1853 w.heap.size 7 ?qqh1853 y7 Tryz.rObj_impl_Value YZ7.out (O2.out.range 7 _ E7.out) ?_); (case qqg1853 => rfl); (case qqo1853 => rfl); (case qqh1853 => simp [Act.eval, Act.put]))
        )
      refine (HK6.out _ B2.out).mono ?_
      rintro e w6 ⟨rfl, hb6⟩
      have O6 := uhide (O2.out.below hb6)
      have B6 : Hid (Below w.heap.size w w6) := B2.out.trans (hb6.mono B2.out.size)
      clear hb6
      go_wp2_with (first
        | ((with_reducible refine wpList_load_rowG ?qqg1870 90 ?qqx1870 ?qqo1870 w.heap.size 12 ?qqh1870 y8 Tryz.rObj_impl_Value YZ8.out (O6.out.range 12 _ E8.out) ?_); (case qqg1870 => rfl); (case qqo1870 => rfl); (case qqh1870 => simp [Act.eval, Act.put]))
        )
      refine (HK7.out _ B6.out).mono ?_
      rintro e w7 ⟨rfl, hb7⟩
      have O7 := uhide (O6.out.below hb7)
      have B7 : Hid (Below w.heap.size w w7) := B6.out.trans (hb7.mono B6.out.size)
      clear hb7
      go_wp2_with (first
        | ((with_reducible refine wpList_load_oneG ?qqg1878 4 ?qqx1878 ?qqo1878 w.heap.size 5 ?qqh1878 (.bool false) Tryz.rObj_bool (O7.out.cell 5 _ E5.out) ?_); (case qqg1878 => rfl); (case qqo1878 => rfl); (case qqh1878 => simp [Act.eval, Act.put]))
        | ((with_reducible refine wpList_load_oneG ?qqg1879 23 ?qqx1879 ?qqo1879 w.heap.size 6 ?qqh1879 ((.slice a6 n6 cp6)) Tryz.rObj_Lstring (O7.out.cell 6 _ E6.out) ?_); (case qqg1879 => rfl); (case qqo1879 => rfl); (case qqh1879 => simp [Act.eval, Act.put]))
        )
      go_ret
      exact ⟨ret_bool (by simp), B7.out⟩
    | true =>
      by_cases h6 : n6 = 0
      · have h6p : ¬ ((0 : Int) < (n6 : Int)) := by omega
        have H6 := uhide h6
        clear h6
        go_enter Tryz.func168, Tryz.ntmps168
        go_wp2_with (first
          | ((with_reducible refine wpList_load_oneG ?qqg1890 3 ?qqx1890 ?qqo1890 w.heap.size 0 ?qqh1890 (.int .i64 z0) Tryz.rObj_int (OA.out.cell 0 _ E0.out) ?_); (case qqg1890 => rfl); (case qqo1890 => rfl); (case qqh1890 => simp [Act.eval, Act.put]))
          )
        refine (HK0.out _ BA.out).mono ?_
        rintro e w0 ⟨rfl, hb0⟩
        have O0 := uhide (OA.out.below hb0)
        have B0 : Hid (Below w.heap.size w w0) := BA.out.trans (hb0.mono BA.out.size)
        clear hb0
        go_wp2_with (first
          | ((with_reducible refine wpList_load_oneG ?qqg1907 9 ?qqx1907 ?qqo1907 w.heap.size 1 ?qqh1907 (.string z1) Tryz.rObj_string (O0.out.cell 1 _ E1.out) ?_); (case qqg1907 => rfl); (case qqo1907 => rfl); (case qqh1907 => simp [Act.eval, Act.put]))
          )
        refine (HK1.out _ B0.out).mono ?_
        rintro e w1 ⟨rfl, hb1⟩
        have O1 := uhide (O0.out.below hb1)
        have B1 : Hid (Below w.heap.size w w1) := B0.out.trans (hb1.mono B0.out.size)
        clear hb1
        go_wp2_with (first
          | ((with_reducible refine wpList_load_oneG ?qqg1924 3 ?qqx1924 ?qqo1924 w.heap.size 2 ?qqh1924 (.int .i64 z2) Tryz.rObj_int (O1.out.cell 2 _ E2.out) ?_); (case qqg1924 => rfl); (case qqo1924 => rfl); (case qqh1924 => simp [Act.eval, Act.put]))
          )
        refine (HK3.out _ B1.out).mono ?_
        rintro e w3 ⟨rfl, hb3⟩
        have O3 := uhide (O1.out.below hb3)
        have B3 : Hid (Below w.heap.size w w3) := B1.out.trans (hb3.mono B1.out.size)
        clear hb3
        go_wp2_with (first
          | ((with_reducible refine wpList_load_oneG ?qqg1941 3 ?qqx1941 ?qqo1941 w.heap.size 3 ?qqh1941 (.int .i64 z3) Tryz.rObj_int (O3.out.cell 3 _ E3.out) ?_); (case qqg1941 => rfl); (case qqo1941 => rfl); (case qqh1941 => simp [Act.eval, Act.put]))
          )
        refine (HK4.out _ B3.out).mono ?_
        rintro e w4 ⟨rfl, hb4⟩
        have O4 := uhide (O3.out.below hb4)
        have B4 : Hid (Below w.heap.size w w4) := B3.out.trans (hb4.mono B3.out.size)
        clear hb4
        go_wp2_with (first
          | ((with_reducible refine wpList_load_oneG ?qqg1957 3 ?qqx1957 ?qqo1957 w.heap.size 3 ?qqh1957 (.int .i64 z3) Tryz.rObj_int (O4.out.cell 3 _ E3.out) ?_); (case qqg1957 => rfl); (case qqo1957 => rfl); (case qqh1957 => simp [Act.eval, Act.put]))
          | ((with_reducible refine wpList_load_oneG ?qqg1958 3 ?qqx1958 ?qqo1958 w.heap.size 4 ?qqh1958 (.int .i64 z4) Tryz.rObj_int (O4.out.cell 4 _ E4.out) ?_); (case qqg1958 => rfl); (case qqo1958 => rfl); (case qqh1958 => simp [Act.eval, Act.put]))
          )
        refine (HK5.out _ B4.out).mono ?_
        rintro e w5 ⟨rfl, hb5⟩
        have O5 := uhide (O4.out.below hb5)
        have B5 : Hid (Below w.heap.size w w5) := B4.out.trans (hb5.mono B4.out.size)
        clear hb5
        go_wp2_with (first
          | ((with_reducible refine wpList_load_oneG ?qqg1976 23 ?qqx1976 ?qqo1976 w.heap.size 6 ?qqh1976 ((.slice a6 n6 cp6)) Tryz.rObj_Lstring (O5.out.cell 6 _ E6.out) ?_); (case qqg1976 => rfl); (case qqo1976 => rfl); (case qqh1976 => simp [Act.eval, Act.put]))
          )
        refine (HK2.out _ B5.out).mono ?_
        rintro e w2 ⟨rfl, hb2⟩
        have O2 := uhide (O5.out.below hb2)
        have B2 : Hid (Below w.heap.size w w2) := B5.out.trans (hb2.mono B5.out.size)
        clear hb2
        go_wp2_with (first
          | ((with_reducible refine wpList_load_rowG ?qqg1993 90 ?qqx1993 ?qqo1993 w.heap.size 7 ?qqh1993 y7 Tryz.rObj_impl_Value YZ7.out (O2.out.range 7 _ E7.out) ?_); (case qqg1993 => rfl); (case qqo1993 => rfl); (case qqh1993 => simp [Act.eval, Act.put]))
          )
        refine (HK6.out _ B2.out).mono ?_
        rintro e w6 ⟨rfl, hb6⟩
        have O6 := uhide (O2.out.below hb6)
        have B6 : Hid (Below w.heap.size w w6) := B2.out.trans (hb6.mono B2.out.size)
        clear hb6
        go_wp2_with (first
          | ((with_reducible refine wpList_load_rowG ?qqg2010 90 ?qqx2010 ?qqo2010 w.heap.size 12 ?qqh2010 y8 Tryz.rObj_impl_Value YZ8.out (O6.out.range 12 _ E8.out) ?_); (case qqg2010 => rfl); (case qqo2010 => rfl); (case qqh2010 => simp [Act.eval, Act.put]))
          )
        refine (HK7.out _ B6.out).mono ?_
        rintro e w7 ⟨rfl, hb7⟩
        have O7 := uhide (O6.out.below hb7)
        have B7 : Hid (Below w.heap.size w w7) := B6.out.trans (hb7.mono B6.out.size)
        clear hb7
        go_wp2_with (first
          | ((with_reducible refine wpList_load_oneG ?qqg2018 4 ?qqx2018 ?qqo2018 w.heap.size 5 ?qqh2018 (.bool true) Tryz.rObj_bool (O7.out.cell 5 _ E5.out) ?_); (case qqg2018 => rfl); (case qqo2018 => rfl); (case qqh2018 => simp [Act.eval, Act.put]))
          | ((with_reducible refine wpList_load_oneG ?qqg2019 23 ?qqx2019 ?qqo2019 w.heap.size 6 ?qqh2019 ((.slice a6 n6 cp6)) Tryz.rObj_Lstring (O7.out.cell 6 _ E6.out) ?_); (case qqg2019 => rfl); (case qqo2019 => rfl); (case qqh2019 => simp [Act.eval, Act.put]))
          )
        go_ret
        exact ⟨ret_bool (by simp [H6.out]), B7.out⟩
      · have h6p : (0 : Int) < (n6 : Int) := by omega
        have H6 := uhide h6
        clear h6
        go_enter Tryz.func168, Tryz.ntmps168
        go_wp2_with (first
          | ((with_reducible refine wpList_load_oneG ?qqg2028 3 ?qqx2028 ?qqo2028 w.heap.size 0 ?qqh2028 (.int .i64 z0) Tryz.rObj_int (OA.out.cell 0 _ E0.out) ?_); (case qqg2028 => rfl); (case qqo2028 => rfl); (case qqh2028 => simp [Act.eval, Act.put]))
          )
        refine (HK0.out _ BA.out).mono ?_
        rintro e w0 ⟨rfl, hb0⟩
        have O0 := uhide (OA.out.below hb0)
        have B0 : Hid (Below w.heap.size w w0) := BA.out.trans (hb0.mono BA.out.size)
        clear hb0
        go_wp2_with (first
          | ((with_reducible refine wpList_load_oneG ?qqg2045 9 ?qqx2045 ?qqo2045 w.heap.size 1 ?qqh2045 (.string z1) Tryz.rObj_string (O0.out.cell 1 _ E1.out) ?_); (case qqg2045 => rfl); (case qqo2045 => rfl); (case qqh2045 => simp [Act.eval, Act.put]))
          )
        refine (HK1.out _ B0.out).mono ?_
        rintro e w1 ⟨rfl, hb1⟩
        have O1 := uhide (O0.out.below hb1)
        have B1 : Hid (Below w.heap.size w w1) := B0.out.trans (hb1.mono B0.out.size)
        clear hb1
        go_wp2_with (first
          | ((with_reducible refine wpList_load_oneG ?qqg2062 3 ?qqx2062 ?qqo2062 w.heap.size 2 ?qqh2062 (.int .i64 z2) Tryz.rObj_int (O1.out.cell 2 _ E2.out) ?_); (case qqg2062 => rfl); (case qqo2062 => rfl); (case qqh2062 => simp [Act.eval, Act.put]))
          )
        refine (HK3.out _ B1.out).mono ?_
        rintro e w3 ⟨rfl, hb3⟩
        have O3 := uhide (O1.out.below hb3)
        have B3 : Hid (Below w.heap.size w w3) := B1.out.trans (hb3.mono B1.out.size)
        clear hb3
        go_wp2_with (first
          | ((with_reducible refine wpList_load_oneG ?qqg2079 3 ?qqx2079 ?qqo2079 w.heap.size 3 ?qqh2079 (.int .i64 z3) Tryz.rObj_int (O3.out.cell 3 _ E3.out) ?_); (case qqg2079 => rfl); (case qqo2079 => rfl); (case qqh2079 => simp [Act.eval, Act.put]))
          )
        refine (HK4.out _ B3.out).mono ?_
        rintro e w4 ⟨rfl, hb4⟩
        have O4 := uhide (O3.out.below hb4)
        have B4 : Hid (Below w.heap.size w w4) := B3.out.trans (hb4.mono B3.out.size)
        clear hb4
        go_wp2_with (first
          | ((with_reducible refine wpList_load_oneG ?qqg2095 3 ?qqx2095 ?qqo2095 w.heap.size 3 ?qqh2095 (.int .i64 z3) Tryz.rObj_int (O4.out.cell 3 _ E3.out) ?_); (case qqg2095 => rfl); (case qqo2095 => rfl); (case qqh2095 => simp [Act.eval, Act.put]))
          | ((with_reducible refine wpList_load_oneG ?qqg2096 3 ?qqx2096 ?qqo2096 w.heap.size 4 ?qqh2096 (.int .i64 z4) Tryz.rObj_int (O4.out.cell 4 _ E4.out) ?_); (case qqg2096 => rfl); (case qqo2096 => rfl); (case qqh2096 => simp [Act.eval, Act.put]))
          )
        refine (HK5.out _ B4.out).mono ?_
        rintro e w5 ⟨rfl, hb5⟩
        have O5 := uhide (O4.out.below hb5)
        have B5 : Hid (Below w.heap.size w w5) := B4.out.trans (hb5.mono B4.out.size)
        clear hb5
        go_wp2_with (first
          | ((with_reducible refine wpList_load_oneG ?qqg2114 23 ?qqx2114 ?qqo2114 w.heap.size 6 ?qqh2114 ((.slice a6 n6 cp6)) Tryz.rObj_Lstring (O5.out.cell 6 _ E6.out) ?_); (case qqg2114 => rfl); (case qqo2114 => rfl); (case qqh2114 => simp [Act.eval, Act.put]))
          )
        refine (HK2.out _ B5.out).mono ?_
        rintro e w2 ⟨rfl, hb2⟩
        have O2 := uhide (O5.out.below hb2)
        have B2 : Hid (Below w.heap.size w w2) := B5.out.trans (hb2.mono B5.out.size)
        clear hb2
        go_wp2_with (first
          | ((with_reducible refine wpList_load_rowG ?qqg2131 90 ?qqx2131 ?qqo2131 w.heap.size 7 ?qqh2131 y7 Tryz.rObj_impl_Value YZ7.out (O2.out.range 7 _ E7.out) ?_); (case qqg2131 => rfl); (case qqo2131 => rfl); (case qqh2131 => simp [Act.eval, Act.put]))
          )
        refine (HK6.out _ B2.out).mono ?_
        rintro e w6 ⟨rfl, hb6⟩
        have O6 := uhide (O2.out.below hb6)
        have B6 : Hid (Below w.heap.size w w6) := B2.out.trans (hb6.mono B2.out.size)
        clear hb6
        go_wp2_with (first
          | ((with_reducible refine wpList_load_rowG ?qqg2148 90 ?qqx2148 ?qqo2148 w.heap.size 12 ?qqh2148 y8 Tryz.rObj_impl_Value YZ8.out (O6.out.range 12 _ E8.out) ?_); (case qqg2148 => rfl); (case qqo2148 => rfl); (case qqh2148 => simp [Act.eval, Act.put]))
          )
        refine (HK7.out _ B6.out).mono ?_
        rintro e w7 ⟨rfl, hb7⟩
        have O7 := uhide (O6.out.below hb7)
        have B7 : Hid (Below w.heap.size w w7) := B6.out.trans (hb7.mono B6.out.size)
        clear hb7
        go_wp2_with (first
          | ((with_reducible refine wpList_load_oneG ?qqg2156 4 ?qqx2156 ?qqo2156 w.heap.size 5 ?qqh2156 (.bool true) Tryz.rObj_bool (O7.out.cell 5 _ E5.out) ?_); (case qqg2156 => rfl); (case qqo2156 => rfl); (case qqh2156 => simp [Act.eval, Act.put]))
          | ((with_reducible refine wpList_load_oneG ?qqg2157 23 ?qqx2157 ?qqo2157 w.heap.size 6 ?qqh2157 ((.slice a6 n6 cp6)) Tryz.rObj_Lstring (O7.out.cell 6 _ E6.out) ?_); (case qqg2157 => rfl); (case qqo2157 => rfl); (case qqh2157 => simp [Act.eval, Act.put]))
          )
        go_ret
        exact ⟨ret_bool (by simp [H6.out]; omega), B7.out⟩
end Go.Proofs.YtdnodaoeflbfkaaGreat
/- Objects: their order, as both ask it; whether one ends and waits for nothing. -/
namespace Go.Proofs.YtdnodaoeflbfkaaGreat
open Go.RowKit Go.BigFrame
set_option linter.unusedVariables false
set_option linter.unusedSimpArgs false

def cmpI (a b : Int) : Int := if a < b then -1 else if b < a then 1 else 0
def cmpS (a b : ByteArray) : Int := if Op.bytesLess a.toList b.toList = true then -1 else if a.toList = b.toList then 0 else 1
theorem cmpI_any (a b : Int) (w : World) : Calls Tryz.prog 222 #[.int .i64 a, .int .i64 b] w fun e w' => e = .returned (.int .i64 (cmpI a b)) ∧ w' = w := by
  have hn : ∀ x : Int, (x != x) = false := fun x => by simp
  rcases Int.lt_trichotomy a b with h | h | h
  · have e : cmpI a b = -1 := by unfold cmpI; rw [if_pos h]
    rw [e]
    go_enter Tryz.func222, Tryz.ntmps222
    go_wp2
    go_ret
    exact ⟨rfl, rfl⟩
  · subst h
    have e : cmpI a a = 0 := by unfold cmpI; rw [if_neg (by omega), if_neg (by omega)]
    rw [e]
    have h1 : ¬ a < a := by omega
    go_enter Tryz.func222, Tryz.ntmps222
    go_wp2
    go_ret
    exact ⟨rfl, rfl⟩
  · have e : cmpI a b = 1 := by unfold cmpI; rw [if_neg (by omega), if_pos h]
    rw [e]
    have h1 : ¬ a < b := by omega
    go_enter Tryz.func222, Tryz.ntmps222
    go_wp2
    go_ret
    exact ⟨rfl, rfl⟩
theorem cmpS_any (a b : ByteArray) (w : World) : Calls Tryz.prog 223 #[.string a, .string b] w fun e w' => e = .returned (.int .i64 (cmpS a b)) ∧ w' = w := by
  have hn : ∀ x : ByteArray, (x.toList == x.toList) = true := fun x => by simp
  cases h : Op.bytesLess a.toList b.toList with
  | true =>
    have e : cmpS a b = -1 := by unfold cmpS; rw [if_pos h]
    rw [e]
    go_enter Tryz.func223, Tryz.ntmps223
    go_wp2
    go_ret
    exact ⟨rfl, rfl⟩
  | false =>
    have e : Hid (cmpS a b = if a.toList = b.toList then 0 else 1) := by show _ = _; unfold cmpS; rw [if_neg (by rw [h]; simp)]
    by_cases h2 : a.toList = b.toList
    · rw [e.out, if_pos h2]
      clear e
      go_enter Tryz.func223, Tryz.ntmps223
      go_wp2
      all_goals go_ret
      all_goals (first | exact ⟨rfl, rfl⟩ | (exfalso; simp_all))
    · rw [e.out, if_neg h2]
      clear e
      go_enter Tryz.func223, Tryz.ntmps223
      go_wp2
      all_goals go_ret
      all_goals (first | exact ⟨rfl, rfl⟩ | (exfalso; simp_all))
def or2 (c1 c2 : Int) : Int := if c1 = 0 then c2 else c1
theorem or2_any (g cap : Nat) (c1 c2 : Int) (w : World) (h0 : w.cell? ⟨g, 0, none⟩ = some (.int .i64 c1)) (h1 : w.cell? ⟨g, 1, none⟩ = some (.int .i64 c2)) : Calls Tryz.prog 221 #[.slice (some ⟨g, 0, none⟩) 2 cap] w fun e w' => e = .returned (.int .i64 (or2 c1 c2)) ∧ w' = w := by
  unfold or2
  have H : Hid (∀ x, (x = c1 ∧ c1 ≠ 0) ∨ (c1 = 0 ∧ x = c2) → x = (if c1 = 0 then c2 else c1)) := fun x h => by
    rcases h with ⟨h, g⟩ | ⟨h, g⟩
    · rw [if_neg g]; exact h
    · rw [if_pos h]; exact g
  generalize (if c1 = 0 then c2 else c1) = R at *
  go_enter Tryz.func221, Tryz.ntmps221
  go_wp2
  go_loopw [8] (fun i wr => ∃ k : Nat, k ≤ 2 ∧ i = .int .i64 k ∧ Hid (0 < k → c1 = 0) ∧ Hid (1 < k → c2 = 0) ∧ wr = w) (fun i _ => 2 - (intOf i).toNat)
  case atStart => exact ⟨0, by omega, rfl, fun h => by omega, fun h => by omega, by first | rfl | trivial⟩
  case round =>
    obtain ⟨k, hk, rfl, K0, K1, rfl⟩ := hrel
    have hk3 : k = 0 ∨ k = 1 ∨ k = 2 := by omega
    rcases hk3 with rfl | rfl | rfl
    · by_cases h : c1 = 0
      · have h2 : (c1 != 0) = false := by simp [h]
        have HH := uhide h
        clear h
        go_wp2
        go_roundw
        case rel => exact ⟨1, by omega, by go_num, fun _ => HH.out, fun h => by omega, by first | rfl | trivial⟩
        case measure => simp [intOf]
      · have h2 : (c1 != 0) = true := by simpa using h
        have HH := uhide h
        clear h
        go_wp2
        go_ret
        exact ⟨ret_intU (H.out _ (.inl ⟨rfl, HH.out⟩)), rfl⟩
    · by_cases h : c2 = 0
      · have h2 : (c2 != 0) = false := by simp [h]
        have HH := uhide h
        clear h
        go_wp2
        go_roundw
        case rel => exact ⟨2, by omega, by go_num, fun _ => K0.out (by omega), fun _ => HH.out, by first | rfl | trivial⟩
        case measure => simp [intOf]
      · have h2 : (c2 != 0) = true := by simpa using h
        have HH := uhide h
        clear h
        go_wp2
        go_ret
        exact ⟨ret_intU (H.out _ (.inr ⟨K0.out (by omega), rfl⟩)), rfl⟩
    · go_wp2
      go_ret
      exact ⟨ret_intU (H.out _ (.inr ⟨K0.out (by omega), (K1.out (by omega)).symm⟩)), rfl⟩
theorem ends_any (xs : List Value) (z5 : Bool) (n6 : Nat) (a6 : Option Addr) (cp6 : Nat) (w : World) (h5 : xs[5]? = some (.bool z5)) (h6 : xs[6]? = some (.slice a6 n6 cp6)) :
    Calls Tryz.prog 133 #[.agg xs.toArray] w fun e w' => e = .returned (.bool (z5 && decide (n6 = 0))) ∧ Below w.heap.size w w' := by
  have E5 := uhide h5
  have E6 := uhide h6
  have OA : Hid (objU (w.alloc (.cells xs.toArray 138)) w.heap.size 138 xs) := objU.new2 _ _ rfl
  have BA : Hid (Below w.heap.size w (w.alloc (.cells xs.toArray 138))) := (Below.refl _ _).alloc (Nat.le_refl _) _
  clear h5 h6
  cases z5 with
  | false =>
    go_enter Tryz.func133, Tryz.ntmps133
    go_wp2_with (first
      | ((with_reducible refine wpList_load_oneG ?qqg123 4 ?qqx123 ?qqo123 w.heap.size 5 ?qqh123 (.bool false) Tryz.rObj_bool (OA.out.cell 5 _ E5.out) ?_); (case qqg123 => rfl); (case qqo123 => rfl); (case qqh123 => simp [Act.eval, Act.put]))
      )
    go_ret
    exact ⟨ret_bool (by simp), BA.out⟩
  | true =>
    by_cases h : n6 = 0
    · have h0 : ((n6 : Int) == 0) = true := by simp [h]
      have HH := uhide h
      clear h
      go_enter Tryz.func133, Tryz.ntmps133
      go_wp2_with (first
        | ((with_reducible refine wpList_load_oneG ?qqg134 4 ?qqx134 ?qqo134 w.heap.size 5 ?qqh134 (.bool true) Tryz.rObj_bool (OA.out.cell 5 _ E5.out) ?_); (case qqg134 => rfl); (case qqo134 => rfl); (case qqh134 => simp [Act.eval, Act.put]))
        | ((with_reducible refine wpList_load_oneG ?qqg135 23 ?qqx135 ?qqo135 w.heap.size 6 ?qqh135 (.slice a6 n6 cp6) Tryz.rObj_Lstring (OA.out.cell 6 _ E6.out) ?_); (case qqg135 => rfl); (case qqo135 => rfl); (case qqh135 => simp [Act.eval, Act.put]))
        )
      go_ret
      exact ⟨ret_bool (by simp [HH.out]), BA.out⟩
    · have h0 : ((n6 : Int) == 0) = false := by simp [h]
      have HH := uhide h
      clear h
      go_enter Tryz.func133, Tryz.ntmps133
      go_wp2_with (first
        | ((with_reducible refine wpList_load_oneG ?qqg144 4 ?qqx144 ?qqo144 w.heap.size 5 ?qqh144 (.bool true) Tryz.rObj_bool (OA.out.cell 5 _ E5.out) ?_); (case qqg144 => rfl); (case qqo144 => rfl); (case qqh144 => simp [Act.eval, Act.put]))
        | ((with_reducible refine wpList_load_oneG ?qqg145 23 ?qqx145 ?qqo145 w.heap.size 6 ?qqh145 (.slice a6 n6 cp6) Tryz.rObj_Lstring (OA.out.cell 6 _ E6.out) ?_); (case qqg145 => rfl); (case qqo145 => rfl); (case qqh145 => simp [Act.eval, Act.put]))
        )
      go_ret
      exact ⟨ret_bool (by simp [HH.out]), BA.out⟩
end Go.Proofs.YtdnodaoeflbfkaaGreat
/- Objects: their order, as both ask it. -/
namespace Go.Proofs.YtdnodaoeflbfkaaGreat
open Go.RowKit Go.BigFrame
set_option linter.unusedVariables false
set_option linter.unusedSimpArgs false

def lessO (z0 u0 : Int) (z1 u1 : ByteArray) : Bool := decide (z0 < u0) || (decide (z0 = u0) && Op.bytesLess z1.toList u1.toList)
def ordO (z0 u0 : Int) (z1 u1 : ByteArray) : Int := if cmpI z0 u0 = 0 then cmpS z1 u1 else cmpI z0 u0
theorem ordO_less (z0 u0 : Int) (z1 u1 : ByteArray) : decide (ordO z0 u0 z1 u1 ≥ 0) = !(lessO z0 u0 z1 u1) := by
  unfold ordO lessO cmpI cmpS
  rcases Int.lt_trichotomy z0 u0 with h | h | h
  · rw [if_pos h]; simp [h]
  · subst h
    simp
    cases h : Op.bytesLess z1.toList u1.toList with
    | true => simp
    | false => simp; split <;> decide
  · have h1 : ¬ z0 < u0 := by omega
    have h2 : ¬ z0 = u0 := by omega
    rw [if_neg h1, if_pos h]; simp [h1, h2]
theorem l7Less_any (xs ys : List Value) (z0 u0 : Int) (z1 u1 : ByteArray) (w : World) (h0 : xs[0]? = some (.int .i64 z0)) (h1 : xs[1]? = some (.string z1)) (g0 : ys[0]? = some (.int .i64 u0)) (g1 : ys[1]? = some (.string u1)) :
    Calls Tryz.prog 213 #[.agg xs.toArray, .agg ys.toArray] w fun e w' => e = .returned (.bool (lessO z0 u0 z1 u1)) ∧ Below w.heap.size w w' := by
  have E0 := uhide h0
  have E1 := uhide h1
  have D0 := uhide g0
  have D1 := uhide g1
  have OA : Hid (objU ((w.alloc (.cells xs.toArray 138)).alloc (.cells ys.toArray 138)) w.heap.size 138 xs) := (objU.new2 _ _ rfl).old _
  have OB : Hid (objU ((w.alloc (.cells xs.toArray 138)).alloc (.cells ys.toArray 138)) (w.heap.size + 1) 138 ys) := objU.new2 _ _ (by simp)
  have BA : Hid (Below w.heap.size w ((w.alloc (.cells xs.toArray 138)).alloc (.cells ys.toArray 138))) := ((Below.refl _ _).alloc (Nat.le_refl _) _).alloc (by simp) _
  clear h0 h1 g0 g1
  unfold lessO
  rcases Int.lt_trichotomy z0 u0 with h | h | h
  · have HH := uhide h
    go_enter Tryz.func213, Tryz.ntmps213
    go_wp2_with (first
      | ((with_reducible refine wpList_load_oneG ?qqg36 3 ?qqx36 ?qqo36 w.heap.size 0 ?qqh36 (.int .i64 z0) Tryz.rObj_int (OA.out.cell 0 _ E0.out) ?_); (case qqg36 => rfl); (case qqo36 => rfl); (case qqh36 => simp [Act.eval, Act.put]))
      | ((with_reducible refine wpList_load_oneG ?qqg37 3 ?qqx37 ?qqo37 (w.heap.size + 1) 0 ?qqh37 (.int .i64 u0) Tryz.rObj_int (OB.out.cell 0 _ D0.out) ?_); (case qqg37 => rfl); (case qqo37 => rfl); (case qqh37 => simp [Act.eval, Act.put]))
      | ((with_reducible refine wpList_load_oneG ?qqg38 9 ?qqx38 ?qqo38 w.heap.size 1 ?qqh38 (.string z1) Tryz.rObj_string (OA.out.cell 1 _ E1.out) ?_); (case qqg38 => rfl); (case qqo38 => rfl); (case qqh38 => simp [Act.eval, Act.put]))
      | ((with_reducible refine wpList_load_oneG ?qqg39 9 ?qqx39 ?qqo39 (w.heap.size + 1) 1 ?qqh39 (.string u1) Tryz.rObj_string (OB.out.cell 1 _ D1.out) ?_); (case qqg39 => rfl); (case qqo39 => rfl); (case qqh39 => simp [Act.eval, Act.put]))
      | ((with_reducible refine wpList_load_oneG ?qqg40 3 ?qqx40 ?qqo40 w.heap.size 0 ?qqh40 (.int .i64 z0) Tryz.rObj_int (OA.out.cell 0 _ E0.out) ?_); (case qqg40 => rfl); (case qqo40 => rfl); (case qqh40 => simp [Act.eval, Act.put]))
      | ((with_reducible refine wpList_load_oneG ?qqg41 3 ?qqx41 ?qqo41 (w.heap.size + 1) 0 ?qqh41 (.int .i64 u0) Tryz.rObj_int (OB.out.cell 0 _ D0.out) ?_); (case qqg41 => rfl); (case qqo41 => rfl); (case qqh41 => simp [Act.eval, Act.put]))
      | ((with_reducible refine wpList_load_oneG ?qqg42 9 ?qqx42 ?qqo42 w.heap.size 1 ?qqh42 (.string z1) Tryz.rObj_string (OA.out.cell 1 _ E1.out) ?_); (case qqg42 => rfl); (case qqo42 => rfl); (case qqh42 => simp [Act.eval, Act.put]))
      | ((with_reducible refine wpList_load_oneG ?qqg43 9 ?qqx43 ?qqo43 (w.heap.size + 1) 1 ?qqh43 (.string u1) Tryz.rObj_string (OB.out.cell 1 _ D1.out) ?_); (case qqg43 => rfl); (case qqo43 => rfl); (case qqh43 => simp [Act.eval, Act.put]))
      )
    go_ret
    exact ⟨ret_bool (by simp [HH.out]), BA.out⟩
  · subst h
    have h1 : ¬ z0 < z0 := by omega
    cases hb : Op.bytesLess z1.toList u1.toList with
    | true =>
      go_enter Tryz.func213, Tryz.ntmps213
      go_wp2_with (first
        | ((with_reducible refine wpList_load_oneG ?qqg53 3 ?qqx53 ?qqo53 w.heap.size 0 ?qqh53 (.int .i64 z0) Tryz.rObj_int (OA.out.cell 0 _ E0.out) ?_); (case qqg53 => rfl); (case qqo53 => rfl); (case qqh53 => simp [Act.eval, Act.put]))
        | ((with_reducible refine wpList_load_oneG ?qqg54 3 ?qqx54 ?qqo54 (w.heap.size + 1) 0 ?qqh54 (.int .i64 z0) Tryz.rObj_int (OB.out.cell 0 _ D0.out) ?_); (case qqg54 => rfl); (case qqo54 => rfl); (case qqh54 => simp [Act.eval, Act.put]))
        | ((with_reducible refine wpList_load_oneG ?qqg55 9 ?qqx55 ?qqo55 w.heap.size 1 ?qqh55 (.string z1) Tryz.rObj_string (OA.out.cell 1 _ E1.out) ?_); (case qqg55 => rfl); (case qqo55 => rfl); (case qqh55 => simp [Act.eval, Act.put]))
        | ((with_reducible refine wpList_load_oneG ?qqg56 9 ?qqx56 ?qqo56 (w.heap.size + 1) 1 ?qqh56 (.string u1) Tryz.rObj_string (OB.out.cell 1 _ D1.out) ?_); (case qqg56 => rfl); (case qqo56 => rfl); (case qqh56 => simp [Act.eval, Act.put]))
        | ((with_reducible refine wpList_load_oneG ?qqg57 3 ?qqx57 ?qqo57 w.heap.size 0 ?qqh57 (.int .i64 z0) Tryz.rObj_int (OA.out.cell 0 _ E0.out) ?_); (case qqg57 => rfl); (case qqo57 => rfl); (case qqh57 => simp [Act.eval, Act.put]))
        | ((with_reducible refine wpList_load_oneG ?qqg58 3 ?qqx58 ?qqo58 (w.heap.size + 1) 0 ?qqh58 (.int .i64 z0) Tryz.rObj_int (OB.out.cell 0 _ D0.out) ?_); (case qqg58 => rfl); (case qqo58 => rfl); (case qqh58 => simp [Act.eval, Act.put]))
        | ((with_reducible refine wpList_load_oneG ?qqg59 9 ?qqx59 ?qqo59 w.heap.size 1 ?qqh59 (.string z1) Tryz.rObj_string (OA.out.cell 1 _ E1.out) ?_); (case qqg59 => rfl); (case qqo59 => rfl); (case qqh59 => simp [Act.eval, Act.put]))
        | ((with_reducible refine wpList_load_oneG ?qqg60 9 ?qqx60 ?qqo60 (w.heap.size + 1) 1 ?qqh60 (.string u1) Tryz.rObj_string (OB.out.cell 1 _ D1.out) ?_); (case qqg60 => rfl); (case qqo60 => rfl); (case qqh60 => simp [Act.eval, Act.put]))
        )
      go_ret
      exact ⟨ret_bool (by simp), BA.out⟩
    | false =>
      go_enter Tryz.func213, Tryz.ntmps213
      go_wp2_with (first
        | ((with_reducible refine wpList_load_oneG ?qqg67 3 ?qqx67 ?qqo67 w.heap.size 0 ?qqh67 (.int .i64 z0) Tryz.rObj_int (OA.out.cell 0 _ E0.out) ?_); (case qqg67 => rfl); (case qqo67 => rfl); (case qqh67 => simp [Act.eval, Act.put]))
        | ((with_reducible refine wpList_load_oneG ?qqg68 3 ?qqx68 ?qqo68 (w.heap.size + 1) 0 ?qqh68 (.int .i64 z0) Tryz.rObj_int (OB.out.cell 0 _ D0.out) ?_); (case qqg68 => rfl); (case qqo68 => rfl); (case qqh68 => simp [Act.eval, Act.put]))
        | ((with_reducible refine wpList_load_oneG ?qqg69 9 ?qqx69 ?qqo69 w.heap.size 1 ?qqh69 (.string z1) Tryz.rObj_string (OA.out.cell 1 _ E1.out) ?_); (case qqg69 => rfl); (case qqo69 => rfl); (case qqh69 => simp [Act.eval, Act.put]))
        | ((with_reducible refine wpList_load_oneG ?qqg70 9 ?qqx70 ?qqo70 (w.heap.size + 1) 1 ?qqh70 (.string u1) Tryz.rObj_string (OB.out.cell 1 _ D1.out) ?_); (case qqg70 => rfl); (case qqo70 => rfl); (case qqh70 => simp [Act.eval, Act.put]))
        | ((with_reducible refine wpList_load_oneG ?qqg71 3 ?qqx71 ?qqo71 w.heap.size 0 ?qqh71 (.int .i64 z0) Tryz.rObj_int (OA.out.cell 0 _ E0.out) ?_); (case qqg71 => rfl); (case qqo71 => rfl); (case qqh71 => simp [Act.eval, Act.put]))
        | ((with_reducible refine wpList_load_oneG ?qqg72 3 ?qqx72 ?qqo72 (w.heap.size + 1) 0 ?qqh72 (.int .i64 z0) Tryz.rObj_int (OB.out.cell 0 _ D0.out) ?_); (case qqg72 => rfl); (case qqo72 => rfl); (case qqh72 => simp [Act.eval, Act.put]))
        | ((with_reducible refine wpList_load_oneG ?qqg73 9 ?qqx73 ?qqo73 w.heap.size 1 ?qqh73 (.string z1) Tryz.rObj_string (OA.out.cell 1 _ E1.out) ?_); (case qqg73 => rfl); (case qqo73 => rfl); (case qqh73 => simp [Act.eval, Act.put]))
        | ((with_reducible refine wpList_load_oneG ?qqg74 9 ?qqx74 ?qqo74 (w.heap.size + 1) 1 ?qqh74 (.string u1) Tryz.rObj_string (OB.out.cell 1 _ D1.out) ?_); (case qqg74 => rfl); (case qqo74 => rfl); (case qqh74 => simp [Act.eval, Act.put]))
        )
      go_ret
      exact ⟨ret_bool (by simp), BA.out⟩
  · have h1 : ¬ z0 < u0 := by omega
    have h2 : (z0 == u0) = false := by simp; omega
    have h2' : ¬ z0 = u0 := by omega
    have HH := uhide h2'
    clear h2'
    go_enter Tryz.func213, Tryz.ntmps213
    go_wp2_with (first
      | ((with_reducible refine wpList_load_oneG ?qqg85 3 ?qqx85 ?qqo85 w.heap.size 0 ?qqh85 (.int .i64 z0) Tryz.rObj_int (OA.out.cell 0 _ E0.out) ?_); (case qqg85 => rfl); (case qqo85 => rfl); (case qqh85 => simp [Act.eval, Act.put]))
      | ((with_reducible refine wpList_load_oneG ?qqg86 3 ?qqx86 ?qqo86 (w.heap.size + 1) 0 ?qqh86 (.int .i64 u0) Tryz.rObj_int (OB.out.cell 0 _ D0.out) ?_); (case qqg86 => rfl); (case qqo86 => rfl); (case qqh86 => simp [Act.eval, Act.put]))
      | ((with_reducible refine wpList_load_oneG ?qqg87 9 ?qqx87 ?qqo87 w.heap.size 1 ?qqh87 (.string z1) Tryz.rObj_string (OA.out.cell 1 _ E1.out) ?_); (case qqg87 => rfl); (case qqo87 => rfl); (case qqh87 => simp [Act.eval, Act.put]))
      | ((with_reducible refine wpList_load_oneG ?qqg88 9 ?qqx88 ?qqo88 (w.heap.size + 1) 1 ?qqh88 (.string u1) Tryz.rObj_string (OB.out.cell 1 _ D1.out) ?_); (case qqg88 => rfl); (case qqo88 => rfl); (case qqh88 => simp [Act.eval, Act.put]))
      | ((with_reducible refine wpList_load_oneG ?qqg89 3 ?qqx89 ?qqo89 w.heap.size 0 ?qqh89 (.int .i64 z0) Tryz.rObj_int (OA.out.cell 0 _ E0.out) ?_); (case qqg89 => rfl); (case qqo89 => rfl); (case qqh89 => simp [Act.eval, Act.put]))
      | ((with_reducible refine wpList_load_oneG ?qqg90 3 ?qqx90 ?qqo90 (w.heap.size + 1) 0 ?qqh90 (.int .i64 u0) Tryz.rObj_int (OB.out.cell 0 _ D0.out) ?_); (case qqg90 => rfl); (case qqo90 => rfl); (case qqh90 => simp [Act.eval, Act.put]))
      | ((with_reducible refine wpList_load_oneG ?qqg91 9 ?qqx91 ?qqo91 w.heap.size 1 ?qqh91 (.string z1) Tryz.rObj_string (OA.out.cell 1 _ E1.out) ?_); (case qqg91 => rfl); (case qqo91 => rfl); (case qqh91 => simp [Act.eval, Act.put]))
      | ((with_reducible refine wpList_load_oneG ?qqg92 9 ?qqx92 ?qqo92 (w.heap.size + 1) 1 ?qqh92 (.string u1) Tryz.rObj_string (OB.out.cell 1 _ D1.out) ?_); (case qqg92 => rfl); (case qqo92 => rfl); (case qqh92 => simp [Act.eval, Act.put]))
      )
    go_ret
    exact ⟨ret_bool (by simp [HH.out]; omega), BA.out⟩
set_option maxHeartbeats 1600000 in
theorem iord_any (xs ys : List Value) (z0 u0 : Int) (z1 u1 : ByteArray) (w : World) (h0 : xs[0]? = some (.int .i64 z0)) (h1 : xs[1]? = some (.string z1)) (g0 : ys[0]? = some (.int .i64 u0)) (g1 : ys[1]? = some (.string u1)) :
    Calls Tryz.prog 184 #[.agg xs.toArray, .agg ys.toArray] w fun e w' => e = .returned (.int .i64 (ordO z0 u0 z1 u1)) ∧ Below w.heap.size w w' := by
  have E0 := uhide h0
  have E1 := uhide h1
  have D0 := uhide g0
  have D1 := uhide g1
  have OA : Hid (objU ((w.alloc (.cells xs.toArray 138)).alloc (.cells ys.toArray 138)) w.heap.size 138 xs) := (objU.new2 _ _ rfl).old _
  have OB : Hid (objU ((w.alloc (.cells xs.toArray 138)).alloc (.cells ys.toArray 138)) (w.heap.size + 1) 138 ys) := objU.new2 _ _ (by simp)
  have BA : Hid (Below w.heap.size w ((w.alloc (.cells xs.toArray 138)).alloc (.cells ys.toArray 138))) := ((Below.refl _ _).alloc (Nat.le_refl _) _).alloc (by simp) _
  clear h0 h1 g0 g1
  have a0 := OA.out.cell 0 _ E0.out
  have a1 := OA.out.cell 1 _ E1.out
  have b0 := OB.out.cell 0 _ D0.out
  have b1 := OB.out.cell 1 _ D1.out
  have HI := uhide cmpI_any
  have HS := uhide cmpS_any
  have HO := uhide or2_any
  rw [show ordO z0 u0 z1 u1 = or2 (cmpI z0 u0) (cmpS z1 u1) from rfl]
  clear OA OB E0 E1 D0 D1

  go_enter Tryz.func184, Tryz.ntmps184
  go_wp2
  go_region_held3 (fun w' => w'.cell? ⟨w.heap.size, 0, none⟩ = some (.int .i64 z0) ∧ w'.cell? ⟨w.heap.size, 1, none⟩ = some (.string z1) ∧ w'.cell? ⟨w.heap.size + 1, 0, none⟩ = some (.int .i64 u0) ∧ w'.cell? ⟨w.heap.size + 1, 1, none⟩ = some (.string u1)) (first | assumption | exact ⟨a0, a1, b0, b1⟩ | go_keep)
    (first | (go_at_call 222; refine (HI.out _ _ _).mono ?_; rintro e w2 ⟨rfl, rfl⟩) | (go_at_call 223; refine (HS.out _ _ _).mono ?_; rintro e w2 ⟨rfl, rfl⟩) | (go_at_call 221; refine (HO.out _ _ (cmpI z0 u0) (cmpS z1 u1) _ (by simp [go_sem]) (by simp [go_sem])).mono ?_; rintro e w2 ⟨rfl, rfl⟩))
  all_goals go_wp2
  all_goals go_ret
  all_goals exact ⟨ret_intU rfl, by repeat (first | with_reducible exact BA.out | with_reducible refine Below.drew ?_ | with_reducible refine below_drewN ?_ _ | with_reducible refine Below.alloc ?_ (by simp <;> omega) _)⟩
end Go.Proofs.YtdnodaoeflbfkaaGreat
/- Objects: what both answer of one object, as a function of its cells. -/
namespace Go.Proofs.YtdnodaoeflbfkaaGreat
open Go.RowKit Go.BigFrame
set_option linter.unusedVariables false

noncomputable def vokD (d : UD) : Bool := by
  classical
  exact if h : tyL d (uE 6) then Classical.choose (vok_both d h) else false
theorem vokD_s {d : UD} (ht : tyL d (uE 6)) : ∀ (w : World) (lo hi : Nat) (xs : List Value), uH w lo hi d xs → Calls Tryz.prog 109 #[.agg xs.toArray] w fun e w' => e = .returned (.bool (vokD d)) ∧ Below w.heap.size w w' := by
  unfold vokD; rw [dif_pos ht]; exact (Classical.choose_spec (vok_both d ht)).2.1
theorem vokD_i {d : UD} (ht : tyL d (uE 6)) : ∀ (w : World) (lo hi : Nat) (xs : List Value), uH w lo hi d xs → Calls Tryz.prog 118 #[.agg xs.toArray] w fun e w' => e = .returned (.bool (vokD d)) ∧ Below w.heap.size w w' := by
  unfold vokD; rw [dif_pos ht]; exact (Classical.choose_spec (vok_both d ht)).2.2
def revU : UD → Int
  | .p _ (.p _ (.p _ (.p (.int _ z) _))) => z
  | _ => 0
def genU : UD → Int
  | .p _ (.p _ (.p _ (.p _ (.p (.int _ z) _)))) => z
  | _ => 0
def endsU : UD → Bool
  | .p _ (.p _ (.p _ (.p _ (.p _ (.p (.bool z) _))))) => z
  | _ => false
def waitsU : UD → List ByteArray
  | .p _ (.p _ (.p _ (.p _ (.p _ (.p _ (.l _ _ c _)))))) => strL c
  | _ => []
def waitsN : UD → Nat
  | .p _ (.p _ (.p _ (.p _ (.p _ (.p _ (.l _ n _ _)))))) => n
  | _ => 0
def tailU : UD → UD
  | .p _ (.p _ (.p _ (.p _ (.p _ (.p _ (.l _ _ _ r)))))) => r
  | d => d
theorem UD.takeN_app (a b : UD) {n : Nat} (h : a.len = n) : (a.app b).takeN n = a := by
  apply UD.ext; unfold UD.takeN; rw [UD.toL_ofL, UD.app_toL]
  subst h
  exact List.take_left' rfl
theorem UD.dropN_app (a b : UD) {n : Nat} (h : a.len = n) : (a.app b).dropN n = b := by
  apply UD.ext; unfold UD.dropN; rw [UD.toL_ofL, UD.app_toL]
  subst h
  exact List.drop_left' rfl
noncomputable def objB (d : UD) (rev next : Int) : Bool :=
  inB (kindU d) 1 3 && nameB (nameU d) && waitsB (waitsU d) && inB (uidU d) 1 (next - 1) && inB (revU d) 1 rev && inB (genU d) 1 (revU d) && vokD ((tailU d).takeN 5) && vokD (((tailU d).dropN 5).takeN 5)
def endsB (d : UD) : Bool := endsU d && decide (waitsN d = 0)
theorem objOk_any {lo hi : Nat} (d : UD) (xs : List Value) (rev next : Int) (w : World) (ht : tyL d (uE 8)) (hx : uH w lo hi d xs) (hn0 : -9223372036854775807 ≤ next) (hn1 : next ≤ 9223372036854775807) :
    Calls Tryz.prog 216 #[.agg xs.toArray, .int .i64 rev, .int .i64 (next - 1)] w fun e w' => e = .returned (.bool (objB d rev next)) ∧ Below w.heap.size w w' := by
  replace ht : tyL d [.i .i64, .s, .i .i64, .i .i64, .i .i64, .b, .l 1 0, .i .i64, .s, .i .i64, .l 1 0, .l 5 6, .i .i64, .s, .i .i64, .l 1 0, .l 5 6] := ht
  obtain ⟨z0, _, rfl, g0, h0⟩ := tyL.i ht
  obtain ⟨z1, _, rfl, g1, h1⟩ := tyL.s h0
  clear h0
  obtain ⟨z2, _, rfl, g2, h2⟩ := tyL.i h1
  clear h1
  obtain ⟨z3, _, rfl, g3, h3⟩ := tyL.i h2
  clear h2
  obtain ⟨z4, _, rfl, g4, h4⟩ := tyL.i h3
  clear h3
  obtain ⟨z5, _, rfl, h5⟩ := tyL.b h4
  clear h4
  obtain ⟨n6, c6, _, rfl, g6, h6⟩ := tyL.l h5
  clear h5
  obtain ⟨d7, _, rfl, g7, h7⟩ := tyL.split (f1 := uE 6) (f2 := [.i .i64, .s, .i .i64, .l 1 0, .l 5 6]) h6
  clear h6
  obtain ⟨d8, _, rfl, g8, h8⟩ := tyL.split (f1 := uE 6) (f2 := []) h7
  clear h7
  obtain rfl := tyL.nil h8
  clear h8
  have e7 : (tailU (UD.p (.int .i64 z0) (UD.p (.string z1) (UD.p (.int .i64 z2) (UD.p (.int .i64 z3) (UD.p (.int .i64 z4) (UD.p (.bool z5) (UD.l 1 n6 c6 (UD.app d7 (UD.app d8 UD.nil)))))))))).takeN 5 = d7 := UD.takeN_app _ _ (tyL.len g7)
  have e8 : ((tailU (UD.p (.int .i64 z0) (UD.p (.string z1) (UD.p (.int .i64 z2) (UD.p (.int .i64 z3) (UD.p (.int .i64 z4) (UD.p (.bool z5) (UD.l 1 n6 c6 (UD.app d7 (UD.app d8 UD.nil)))))))))).dropN 5).takeN 5 = d8 := by
    rw [show tailU (UD.p (.int .i64 z0) (UD.p (.string z1) (UD.p (.int .i64 z2) (UD.p (.int .i64 z3) (UD.p (.int .i64 z4) (UD.p (.bool z5) (UD.l 1 n6 c6 (UD.app d7 (UD.app d8 UD.nil))))))))) = UD.app d7 (UD.app d8 UD.nil) from rfl, UD.dropN_app (n := 5) _ _ (tyL.len g7)]
    exact UD.takeN_app _ _ (tyL.len g8)
  unfold objB
  rw [e7, e8]
  exact objOk_of z0 z1 z2 z3 z4 z5 n6 c6 d7 d8 (vokD d7) (vokD d8) xs rev next w g1 g6 g7 g8 (vokD_i g7) (vokD_i g8) hn0 hn1 hx
theorem l7Obj_any {lo hi : Nat} (d : UD) (xs : List Value) (rev next : Int) (gone : Bool) (w : World) (ht : tyL d (uE 8)) (hx : uH w lo hi d xs) (hn0 : -9223372036854775807 ≤ next) (hn1 : next ≤ 9223372036854775807) :
    Calls Tryz.prog 168 #[.agg xs.toArray, .int .i64 rev, .int .i64 next, .bool gone] w fun e w' => e = .returned (.bool (objB d rev next && (gone || !(endsB d)))) ∧ Below w.heap.size w w' := by
  replace ht : tyL d [.i .i64, .s, .i .i64, .i .i64, .i .i64, .b, .l 1 0, .i .i64, .s, .i .i64, .l 1 0, .l 5 6, .i .i64, .s, .i .i64, .l 1 0, .l 5 6] := ht
  obtain ⟨z0, _, rfl, g0, h0⟩ := tyL.i ht
  obtain ⟨z1, _, rfl, g1, h1⟩ := tyL.s h0
  clear h0
  obtain ⟨z2, _, rfl, g2, h2⟩ := tyL.i h1
  clear h1
  obtain ⟨z3, _, rfl, g3, h3⟩ := tyL.i h2
  clear h2
  obtain ⟨z4, _, rfl, g4, h4⟩ := tyL.i h3
  clear h3
  obtain ⟨z5, _, rfl, h5⟩ := tyL.b h4
  clear h4
  obtain ⟨n6, c6, _, rfl, g6, h6⟩ := tyL.l h5
  clear h5
  obtain ⟨d7, _, rfl, g7, h7⟩ := tyL.split (f1 := uE 6) (f2 := [.i .i64, .s, .i .i64, .l 1 0, .l 5 6]) h6
  clear h6
  obtain ⟨d8, _, rfl, g8, h8⟩ := tyL.split (f1 := uE 6) (f2 := []) h7
  clear h7
  obtain rfl := tyL.nil h8
  clear h8
  have e7 : (tailU (UD.p (.int .i64 z0) (UD.p (.string z1) (UD.p (.int .i64 z2) (UD.p (.int .i64 z3) (UD.p (.int .i64 z4) (UD.p (.bool z5) (UD.l 1 n6 c6 (UD.app d7 (UD.app d8 UD.nil)))))))))).takeN 5 = d7 := UD.takeN_app _ _ (tyL.len g7)
  have e8 : ((tailU (UD.p (.int .i64 z0) (UD.p (.string z1) (UD.p (.int .i64 z2) (UD.p (.int .i64 z3) (UD.p (.int .i64 z4) (UD.p (.bool z5) (UD.l 1 n6 c6 (UD.app d7 (UD.app d8 UD.nil)))))))))).dropN 5).takeN 5 = d8 := by
    rw [show tailU (UD.p (.int .i64 z0) (UD.p (.string z1) (UD.p (.int .i64 z2) (UD.p (.int .i64 z3) (UD.p (.int .i64 z4) (UD.p (.bool z5) (UD.l 1 n6 c6 (UD.app d7 (UD.app d8 UD.nil))))))))) = UD.app d7 (UD.app d8 UD.nil) from rfl, UD.dropN_app (n := 5) _ _ (tyL.len g7)]
    exact UD.takeN_app _ _ (tyL.len g8)
  unfold objB
  rw [e7, e8]
  exact l7Obj_of z0 z1 z2 z3 z4 z5 n6 c6 d7 d8 (vokD d7) (vokD d8) xs rev next gone w g1 g6 g7 g8 (vokD_s g7) (vokD_s g8) hn0 hn1 hx
/-- what the cells of an object say -/
theorem obj_cells {w : World} {lo hi : Nat} {d : UD} {xs : List Value} (ht : tyL d (uE 8)) (hx : uH w lo hi d xs) : xs[0]? = some (.int .i64 (kindU d)) ∧ xs[1]? = some (.string (nameU d)) ∧ xs[2]? = some (.int .i64 (uidU d)) ∧ xs[3]? = some (.int .i64 (revU d)) ∧ xs[5]? = some (.bool (endsU d)) ∧ ∃ a cap, xs[6]? = some (.slice a (waitsN d) cap) := by
  replace ht : tyL d [.i .i64, .s, .i .i64, .i .i64, .i .i64, .b, .l 1 0, .i .i64, .s, .i .i64, .l 1 0, .l 5 6, .i .i64, .s, .i .i64, .l 1 0, .l 5 6] := ht
  obtain ⟨z0, _, rfl, g0, h0⟩ := tyL.i ht
  obtain ⟨z1, _, rfl, g1, h1⟩ := tyL.s h0
  clear h0
  obtain ⟨z2, _, rfl, g2, h2⟩ := tyL.i h1
  clear h1
  obtain ⟨z3, _, rfl, g3, h3⟩ := tyL.i h2
  clear h2
  obtain ⟨z4, _, rfl, g4, h4⟩ := tyL.i h3
  clear h3
  obtain ⟨z5, _, rfl, h5⟩ := tyL.b h4
  clear h4
  obtain ⟨n6, c6, _, rfl, g6, h6⟩ := tyL.l h5
  clear h5
  obtain ⟨d7, _, rfl, g7, h7⟩ := tyL.split (f1 := uE 6) (f2 := [.i .i64, .s, .i .i64, .l 1 0, .l 5 6]) h6
  clear h6
  obtain ⟨d8, _, rfl, g8, h8⟩ := tyL.split (f1 := uE 6) (f2 := []) h7
  clear h7
  obtain rfl := tyL.nil h8
  clear h8
  obtain ⟨_, rfl, _, rfl, _, rfl, _, rfl, _, rfl, _, rfl, v6, _, rfl, s6, h6⟩ := hx
  obtain ⟨a, cap, rfl, _⟩ := s6
  exact ⟨rfl, rfl, rfl, rfl, rfl, a, cap, rfl⟩
theorem iends_any {lo hi : Nat} (d : UD) (xs : List Value) (w : World) (ht : tyL d (uE 8)) (hx : uH w lo hi d xs) :
    Calls Tryz.prog 133 #[.agg xs.toArray] w fun e w' => e = .returned (.bool (endsB d)) ∧ Below w.heap.size w w' := by
  obtain ⟨_, _, _, _, h5, a, cap, h6⟩ := obj_cells ht hx
  exact ends_any xs _ _ a cap w h5 h6
theorem sless_any {lo hi lo' hi' : Nat} (d d' : UD) (xs ys : List Value) (w : World) (ht : tyL d (uE 8)) (ht' : tyL d' (uE 8)) (hx : uH w lo hi d xs) (hy : uH w lo' hi' d' ys) :
    Calls Tryz.prog 213 #[.agg xs.toArray, .agg ys.toArray] w fun e w' => e = .returned (.bool (lessO (kindU d) (kindU d') (nameU d) (nameU d'))) ∧ Below w.heap.size w w' := by
  obtain ⟨h0, h1, _⟩ := obj_cells ht hx
  obtain ⟨g0, g1, _⟩ := obj_cells ht' hy
  exact l7Less_any xs ys _ _ _ _ w h0 h1 g0 g1
theorem iorder_any {lo hi lo' hi' : Nat} (d d' : UD) (xs ys : List Value) (w : World) (ht : tyL d (uE 8)) (ht' : tyL d' (uE 8)) (hx : uH w lo hi d xs) (hy : uH w lo' hi' d' ys) :
    Calls Tryz.prog 184 #[.agg xs.toArray, .agg ys.toArray] w fun e w' => e = .returned (.int .i64 (ordO (kindU d) (kindU d') (nameU d) (nameU d'))) ∧ Below w.heap.size w w' := by
  obtain ⟨h0, h1, _⟩ := obj_cells ht hx
  obtain ⟨g0, g1, _⟩ := obj_cells ht' hy
  exact iord_any xs ys _ _ _ _ w h0 h1 g0 g1
end Go.Proofs.YtdnodaoeflbfkaaGreat
/- Data as cells: the helpers of the laws over Obj. -/
namespace Go.Proofs.YtdnodaoeflbfkaaGreat
open Go.RowKit Go.BigFrame
set_option linter.unusedVariables false
set_option linter.unusedSimpArgs false

set_option maxRecDepth 20000 in
set_option maxHeartbeats 1600000 in
theorem ueqObj_any {lo hi lo' hi' : Nat} (d : UD) (xs ys : List Value) (w : World) (ht : tyL d (uE 8)) (hx : uH w lo hi d xs) (hy : uH w lo' hi' d ys) :
    Calls Tryz.prog 177 #[.agg xs.toArray, .agg ys.toArray] w fun e w' => e = .returned (.bool true) ∧ Below w.heap.size w w' := by
  replace ht : tyL d [.i .i64, .s, .i .i64, .i .i64, .i .i64, .b, .l 1 0, .i .i64, .s, .i .i64, .l 1 0, .l 5 6, .i .i64, .s, .i .i64, .l 1 0, .l 5 6] := ht
  obtain ⟨z0, _, rfl, g0, h0⟩ := tyL.i ht
  obtain ⟨z1, _, rfl, g1, h1⟩ := tyL.s h0
  clear h0
  obtain ⟨z2, _, rfl, g2, h2⟩ := tyL.i h1
  clear h1
  obtain ⟨z3, _, rfl, g3, h3⟩ := tyL.i h2
  clear h2
  obtain ⟨z4, _, rfl, g4, h4⟩ := tyL.i h3
  clear h3
  obtain ⟨z5, _, rfl, h5⟩ := tyL.b h4
  clear h4
  obtain ⟨n6, c6, _, rfl, g6, h6⟩ := tyL.l h5
  clear h5
  obtain ⟨d7, _, rfl, g7, h7⟩ := tyL.split (f1 := uE 6) (f2 := [.i .i64, .s, .i .i64, .l 1 0, .l 5 6]) h6
  clear h6
  obtain ⟨d8, _, rfl, g8, h8⟩ := tyL.split (f1 := uE 6) (f2 := []) h7
  clear h7
  obtain rfl := tyL.nil h8
  clear h8
  obtain ⟨_, rfl, h0⟩ := hx
  obtain ⟨_, rfl, h1⟩ := h0
  obtain ⟨_, rfl, h2⟩ := h1
  obtain ⟨_, rfl, h3⟩ := h2
  obtain ⟨_, rfl, h4⟩ := h3
  obtain ⟨_, rfl, h5⟩ := h4
  obtain ⟨v6, _, rfl, s6, h6⟩ := h5
  obtain ⟨y7, _, rfl, l7, s7, h7⟩ := uH.split h6
  replace l7 : y7.length = 5 := l7.trans (tyL.len g7)
  clear h6
  obtain ⟨y8, _, rfl, l8, s8, h8⟩ := uH.split h7
  replace l8 : y8.length = 5 := l8.trans (tyL.len g8)
  clear h7
  obtain rfl := h8
  obtain ⟨_, rfl, h0r⟩ := hy
  obtain ⟨_, rfl, h1r⟩ := h0r
  obtain ⟨_, rfl, h2r⟩ := h1r
  obtain ⟨_, rfl, h3r⟩ := h2r
  obtain ⟨_, rfl, h4r⟩ := h3r
  obtain ⟨_, rfl, h5r⟩ := h4r
  obtain ⟨v6r, _, rfl, s6r, h6r⟩ := h5r
  obtain ⟨y7r, _, rfl, l7r, s7r, h7r⟩ := uH.split h6r
  replace l7r : y7r.length = 5 := l7r.trans (tyL.len g7)
  clear h6r
  obtain ⟨y8r, _, rfl, l8r, s8r, h8r⟩ := uH.split h7r
  replace l8r : y8r.length = 5 := l8r.trans (tyL.len g8)
  clear h7r
  obtain rfl := h8r
  have HC0 : Hid (∀ wx : World, Below w.heap.size w wx → Calls Tryz.prog 54 #[v6, v6r] wx fun e w' => e = .returned (.bool true) ∧ Below wx.heap.size wx w') := fun wx hb => ueqStringS_any (lo := lo) (hi := hi) (lo' := lo') (hi' := hi') n6 c6 _ _ wx g6 (s6.below hb) (s6r.below hb)
  have HC1 : Hid (∀ wx : World, Below w.heap.size w wx → Calls Tryz.prog 53 #[.agg y7.toArray, .agg y7r.toArray] wx fun e w' => e = .returned (.bool true) ∧ Below wx.heap.size wx w') := fun wx hb => ueqValue_any (lo := lo) (hi := hi) (lo' := lo') (hi' := hi') d7 _ _ wx g7 (s7.below hb) (s7r.below hb)
  have HC2 : Hid (∀ wx : World, Below w.heap.size w wx → Calls Tryz.prog 53 #[.agg y8.toArray, .agg y8r.toArray] wx fun e w' => e = .returned (.bool true) ∧ Below wx.heap.size wx w') := fun wx hb => ueqValue_any (lo := lo) (hi := hi) (lo' := lo') (hi' := hi') d8 _ _ wx g8 (s8.below hb) (s8r.below hb)
  have q0 : (z0 != z0) = false := by simp
  have q1 : (z1.toList == z1.toList) = true := by simp
  have q2 : (z2 != z2) = false := by simp
  have q3 : (z3 != z3) = false := by simp
  have q4 : (z4 != z4) = false := by simp
  have q5 : (z5 != z5) = false := by simp
  have HB : Hid (∀ o o', Below w.heap.size w ((w.alloc o).alloc o')) := fun o o' => ((Below.refl _ _).alloc (Nat.le_refl _) _).alloc (by simp) _
  obtain ⟨AX, hAX⟩ : ∃ AX : List Value, AX = (Value.int .i64 z0 :: (Value.string z1 :: (Value.int .i64 z2 :: (Value.int .i64 z3 :: (Value.int .i64 z4 :: (Value.bool z5 :: (v6 :: ((y7 ++ ((y8 ++ []))))))))))) := ⟨_, rfl⟩
  rw [← hAX]
  have hlen : AX.length = 17 := by rw [hAX]; simp [l7, l8]
  have e0 : AX[0]? = some (.int .i64 z0) := at_mid (i := 0) (pre := (([] : List Value))) (ys := [.int .i64 z0]) (post := (Value.string z1 :: (Value.int .i64 z2 :: (Value.int .i64 z3 :: (Value.int .i64 z4 :: (Value.bool z5 :: (v6 :: ((y7 ++ ((y8 ++ []))))))))))) (by rw [hAX]; simp) (by simp) rfl
  have e1 : AX[1]? = some (.string z1) := at_mid (i := 0) (pre := ([Value.int .i64 z0])) (ys := [.string z1]) (post := (Value.int .i64 z2 :: (Value.int .i64 z3 :: (Value.int .i64 z4 :: (Value.bool z5 :: (v6 :: ((y7 ++ ((y8 ++ [])))))))))) (by rw [hAX]; simp) (by simp) rfl
  have e2 : AX[2]? = some (.int .i64 z2) := at_mid (i := 0) (pre := ([Value.int .i64 z0, Value.string z1])) (ys := [.int .i64 z2]) (post := (Value.int .i64 z3 :: (Value.int .i64 z4 :: (Value.bool z5 :: (v6 :: ((y7 ++ ((y8 ++ []))))))))) (by rw [hAX]; simp) (by simp) rfl
  have e3 : AX[3]? = some (.int .i64 z3) := at_mid (i := 0) (pre := ([Value.int .i64 z0, Value.string z1, Value.int .i64 z2])) (ys := [.int .i64 z3]) (post := (Value.int .i64 z4 :: (Value.bool z5 :: (v6 :: ((y7 ++ ((y8 ++ [])))))))) (by rw [hAX]; simp) (by simp) rfl
  have e4 : AX[4]? = some (.int .i64 z4) := at_mid (i := 0) (pre := ([Value.int .i64 z0, Value.string z1, Value.int .i64 z2, Value.int .i64 z3])) (ys := [.int .i64 z4]) (post := (Value.bool z5 :: (v6 :: ((y7 ++ ((y8 ++ []))))))) (by rw [hAX]; simp) (by simp) rfl
  have e5 : AX[5]? = some (.bool z5) := at_mid (i := 0) (pre := ([Value.int .i64 z0, Value.string z1, Value.int .i64 z2, Value.int .i64 z3, Value.int .i64 z4])) (ys := [.bool z5]) (post := (v6 :: ((y7 ++ ((y8 ++ [])))))) (by rw [hAX]; simp) (by simp) rfl
  have e6 : AX[6]? = some (v6) := at_mid (i := 0) (pre := ([Value.int .i64 z0, Value.string z1, Value.int .i64 z2, Value.int .i64 z3, Value.int .i64 z4, Value.bool z5])) (ys := [v6]) (post := ((y7 ++ ((y8 ++ []))))) (by rw [hAX]; simp) (by simp) rfl
  have e7 : ∀ i v, y7[i]? = some v → AX[7 + i]? = some v := fun i v h => at_mid (pre := ([Value.int .i64 z0, Value.string z1, Value.int .i64 z2, Value.int .i64 z3, Value.int .i64 z4, Value.bool z5, v6])) (ys := y7) (post := ((y8 ++ []))) (by rw [hAX]; simp) (by simp) h
  have e8 : ∀ i v, y8[i]? = some v → AX[12 + i]? = some v := fun i v h => at_mid (pre := ([Value.int .i64 z0, Value.string z1, Value.int .i64 z2, Value.int .i64 z3, Value.int .i64 z4, Value.bool z5, v6] ++ y7)) (ys := y8) (post := []) (by rw [hAX]; simp) (by simp [l7]) h
  clear hAX
  have E0 := uhide e0
  clear e0
  have E1 := uhide e1
  clear e1
  have E2 := uhide e2
  clear e2
  have E3 := uhide e3
  clear e3
  have E4 := uhide e4
  clear e4
  have E5 := uhide e5
  clear e5
  have E6 := uhide e6
  clear e6
  have YZ7 : Hid ((Tryz.prog.info? 90).map (·.size) = some y7.length) := by show _ = _; rw [l7]; exact Tryz.zObj_impl_Value
  have E7 := uhide e7
  clear e7
  have YZ8 : Hid ((Tryz.prog.info? 90).map (·.size) = some y8.length) := by show _ = _; rw [l8]; exact Tryz.zObj_impl_Value
  have E8 := uhide e8
  clear e8
  obtain ⟨AY, hAY⟩ : ∃ AY : List Value, AY = (Value.int .i64 z0 :: (Value.string z1 :: (Value.int .i64 z2 :: (Value.int .i64 z3 :: (Value.int .i64 z4 :: (Value.bool z5 :: (v6r :: ((y7r ++ ((y8r ++ []))))))))))) := ⟨_, rfl⟩
  rw [← hAY]
  have hlenr : AY.length = 17 := by rw [hAY]; simp [l7r, l8r]
  have e0r : AY[0]? = some (.int .i64 z0) := at_mid (i := 0) (pre := (([] : List Value))) (ys := [.int .i64 z0]) (post := (Value.string z1 :: (Value.int .i64 z2 :: (Value.int .i64 z3 :: (Value.int .i64 z4 :: (Value.bool z5 :: (v6r :: ((y7r ++ ((y8r ++ []))))))))))) (by rw [hAY]; simp) (by simp) rfl
  have e1r : AY[1]? = some (.string z1) := at_mid (i := 0) (pre := ([Value.int .i64 z0])) (ys := [.string z1]) (post := (Value.int .i64 z2 :: (Value.int .i64 z3 :: (Value.int .i64 z4 :: (Value.bool z5 :: (v6r :: ((y7r ++ ((y8r ++ [])))))))))) (by rw [hAY]; simp) (by simp) rfl
  have e2r : AY[2]? = some (.int .i64 z2) := at_mid (i := 0) (pre := ([Value.int .i64 z0, Value.string z1])) (ys := [.int .i64 z2]) (post := (Value.int .i64 z3 :: (Value.int .i64 z4 :: (Value.bool z5 :: (v6r :: ((y7r ++ ((y8r ++ []))))))))) (by rw [hAY]; simp) (by simp) rfl
  have e3r : AY[3]? = some (.int .i64 z3) := at_mid (i := 0) (pre := ([Value.int .i64 z0, Value.string z1, Value.int .i64 z2])) (ys := [.int .i64 z3]) (post := (Value.int .i64 z4 :: (Value.bool z5 :: (v6r :: ((y7r ++ ((y8r ++ [])))))))) (by rw [hAY]; simp) (by simp) rfl
  have e4r : AY[4]? = some (.int .i64 z4) := at_mid (i := 0) (pre := ([Value.int .i64 z0, Value.string z1, Value.int .i64 z2, Value.int .i64 z3])) (ys := [.int .i64 z4]) (post := (Value.bool z5 :: (v6r :: ((y7r ++ ((y8r ++ []))))))) (by rw [hAY]; simp) (by simp) rfl
  have e5r : AY[5]? = some (.bool z5) := at_mid (i := 0) (pre := ([Value.int .i64 z0, Value.string z1, Value.int .i64 z2, Value.int .i64 z3, Value.int .i64 z4])) (ys := [.bool z5]) (post := (v6r :: ((y7r ++ ((y8r ++ [])))))) (by rw [hAY]; simp) (by simp) rfl
  have e6r : AY[6]? = some (v6r) := at_mid (i := 0) (pre := ([Value.int .i64 z0, Value.string z1, Value.int .i64 z2, Value.int .i64 z3, Value.int .i64 z4, Value.bool z5])) (ys := [v6r]) (post := ((y7r ++ ((y8r ++ []))))) (by rw [hAY]; simp) (by simp) rfl
  have e7r : ∀ i v, y7r[i]? = some v → AY[7 + i]? = some v := fun i v h => at_mid (pre := ([Value.int .i64 z0, Value.string z1, Value.int .i64 z2, Value.int .i64 z3, Value.int .i64 z4, Value.bool z5, v6r])) (ys := y7r) (post := ((y8r ++ []))) (by rw [hAY]; simp) (by simp) h
  have e8r : ∀ i v, y8r[i]? = some v → AY[12 + i]? = some v := fun i v h => at_mid (pre := ([Value.int .i64 z0, Value.string z1, Value.int .i64 z2, Value.int .i64 z3, Value.int .i64 z4, Value.bool z5, v6r] ++ y7r)) (ys := y8r) (post := []) (by rw [hAY]; simp) (by simp [l7r]) h
  clear hAY
  have Er0 := uhide e0r
  clear e0r
  have Er1 := uhide e1r
  clear e1r
  have Er2 := uhide e2r
  clear e2r
  have Er3 := uhide e3r
  clear e3r
  have Er4 := uhide e4r
  clear e4r
  have Er5 := uhide e5r
  clear e5r
  have Er6 := uhide e6r
  clear e6r
  have YrZ7 : Hid ((Tryz.prog.info? 90).map (·.size) = some y7r.length) := by show _ = _; rw [l7r]; exact Tryz.zObj_impl_Value
  clear l7 l7r
  have Er7 := uhide e7r
  clear e7r
  have YrZ8 : Hid ((Tryz.prog.info? 90).map (·.size) = some y8r.length) := by show _ = _; rw [l8r]; exact Tryz.zObj_impl_Value
  clear l8 l8r
  have Er8 := uhide e8r
  clear e8r
  have OA0 : Hid (objU ((w.alloc (.cells AX.toArray 138)).alloc (.cells AY.toArray 138)) w.heap.size 138 AX) := (objU.new2 _ _ rfl).old _
  have OB0 : Hid (objU ((w.alloc (.cells AX.toArray 138)).alloc (.cells AY.toArray 138)) (w.heap.size + 1) 138 AY) := objU.new2 _ _ (by simp)
  clear ht g0 g1 g2 g3 g4 g6 s6 s6r g7 s7 s7r g8 s8 s8r
  go_enter Tryz.func177, Tryz.ntmps177
  go_wp2_with (first
    | ((with_reducible refine wpList_load_one ?qqg145 3 ?qqx145 ?qqo145 w.heap.size 0 ?qqh145 (.int .i64 z0) Tryz.rObj_int (OA0.out.cell 0 _ E0.out) ?_); (case qqg145 => rfl); (case qqo145 => rfl); (case qqh145 => simp [Act.eval, Act.put]))
    | ((with_reducible refine wpList_load_one ?qqg146 9 ?qqx146 ?qqo146 w.heap.size 1 ?qqh146 (.string z1) Tryz.rObj_string (OA0.out.cell 1 _ E1.out) ?_); (case qqg146 => rfl); (case qqo146 => rfl); (case qqh146 => simp [Act.eval, Act.put]))
    | ((with_reducible refine wpList_load_one ?qqg147 3 ?qqx147 ?qqo147 w.heap.size 2 ?qqh147 (.int .i64 z2) Tryz.rObj_int (OA0.out.cell 2 _ E2.out) ?_); (case qqg147 => rfl); (case qqo147 => rfl); (case qqh147 => simp [Act.eval, Act.put]))
    | ((with_reducible refine wpList_load_one ?qqg148 3 ?qqx148 ?qqo148 w.heap.size 3 ?qqh148 (.int .i64 z3) Tryz.rObj_int (OA0.out.cell 3 _ E3.out) ?_); (case qqg148 => rfl); (case qqo148 => rfl); (case qqh148 => simp [Act.eval, Act.put]))
    | ((with_reducible refine wpList_load_one ?qqg149 3 ?qqx149 ?qqo149 w.heap.size 4 ?qqh149 (.int .i64 z4) Tryz.rObj_int (OA0.out.cell 4 _ E4.out) ?_); (case qqg149 => rfl); (case qqo149 => rfl); (case qqh149 => simp [Act.eval, Act.put]))
    | ((with_reducible refine wpList_load_one ?qqg150 4 ?qqx150 ?qqo150 w.heap.size 5 ?qqh150 (.bool z5) Tryz.rObj_bool (OA0.out.cell 5 _ E5.out) ?_); (case qqg150 => rfl); (case qqo150 => rfl); (case qqh150 => simp [Act.eval, Act.put]))
    | ((with_reducible refine wpList_load_one ?qqg151 23 ?qqx151 ?qqo151 w.heap.size 6 ?qqh151 (v6) Tryz.rObj_Lstring (OA0.out.cell 6 _ E6.out) ?_); (case qqg151 => rfl); (case qqo151 => rfl); (case qqh151 => simp [Act.eval, Act.put]))
    | ((with_reducible refine wpList_load_row2 ?qqg152 90 ?qqx152 ?qqo152 w.heap.size 7 ?qqh152 y7 Tryz.rObj_impl_Value YZ7.out (OA0.out.range 7 _ E7.out) ?_); (case qqg152 => rfl); (case qqo152 => rfl); (case qqh152 => simp [Act.eval, Act.put]))
    | ((with_reducible refine wpList_load_row2 ?qqg153 90 ?qqx153 ?qqo153 w.heap.size 12 ?qqh153 y8 Tryz.rObj_impl_Value YZ8.out (OA0.out.range 12 _ E8.out) ?_); (case qqg153 => rfl); (case qqo153 => rfl); (case qqh153 => simp [Act.eval, Act.put]))
    | ((with_reducible refine wpList_load_one ?qqg154 3 ?qqx154 ?qqo154 (w.heap.size + 1) 0 ?qqh154 (.int .i64 z0) Tryz.rObj_int (OB0.out.cell 0 _ Er0.out) ?_); (case qqg154 => rfl); (case qqo154 => rfl); (case qqh154 => simp [Act.eval, Act.put]))
    | ((with_reducible refine wpList_load_one ?qqg155 9 ?qqx155 ?qqo155 (w.heap.size + 1) 1 ?qqh155 (.string z1) Tryz.rObj_string (OB0.out.cell 1 _ Er1.out) ?_); (case qqg155 => rfl); (case qqo155 => rfl); (case qqh155 => simp [Act.eval, Act.put]))
    | ((with_reducible refine wpList_load_one ?qqg156 3 ?qqx156 ?qqo156 (w.heap.size + 1) 2 ?qqh156 (.int .i64 z2) Tryz.rObj_int (OB0.out.cell 2 _ Er2.out) ?_); (case qqg156 => rfl); (case qqo156 => rfl); (case qqh156 => simp [Act.eval, Act.put]))
    | ((with_reducible refine wpList_load_one ?qqg157 3 ?qqx157 ?qqo157 (w.heap.size + 1) 3 ?qqh157 (.int .i64 z3) Tryz.rObj_int (OB0.out.cell 3 _ Er3.out) ?_); (case qqg157 => rfl); (case qqo157 => rfl); (case qqh157 => simp [Act.eval, Act.put]))
    | ((with_reducible refine wpList_load_one ?qqg158 3 ?qqx158 ?qqo158 (w.heap.size + 1) 4 ?qqh158 (.int .i64 z4) Tryz.rObj_int (OB0.out.cell 4 _ Er4.out) ?_); (case qqg158 => rfl); (case qqo158 => rfl); (case qqh158 => simp [Act.eval, Act.put]))
    | ((with_reducible refine wpList_load_one ?qqg159 4 ?qqx159 ?qqo159 (w.heap.size + 1) 5 ?qqh159 (.bool z5) Tryz.rObj_bool (OB0.out.cell 5 _ Er5.out) ?_); (case qqg159 => rfl); (case qqo159 => rfl); (case qqh159 => simp [Act.eval, Act.put]))
    | ((with_reducible refine wpList_load_one ?qqg160 23 ?qqx160 ?qqo160 (w.heap.size + 1) 6 ?qqh160 (v6r) Tryz.rObj_Lstring (OB0.out.cell 6 _ Er6.out) ?_); (case qqg160 => rfl); (case qqo160 => rfl); (case qqh160 => simp [Act.eval, Act.put]))
    | ((with_reducible refine wpList_load_row2 ?qqg161 90 ?qqx161 ?qqo161 (w.heap.size + 1) 7 ?qqh161 y7r Tryz.rObj_impl_Value YrZ7.out (OB0.out.range 7 _ Er7.out) ?_); (case qqg161 => rfl); (case qqo161 => rfl); (case qqh161 => simp [Act.eval, Act.put]))
    | ((with_reducible refine wpList_load_row2 ?qqg162 90 ?qqx162 ?qqo162 (w.heap.size + 1) 12 ?qqh162 y8r Tryz.rObj_impl_Value YrZ8.out (OB0.out.range 12 _ Er8.out) ?_); (case qqg162 => rfl); (case qqo162 => rfl); (case qqh162 => simp [Act.eval, Act.put]))
    )
  refine (HC0.out _ (HB.out _ _)).mono ?_
  rintro e w1 ⟨rfl, hb1⟩
  have OA1 := uhide (OA0.out.below hb1)
  have OB1 := uhide (OB0.out.below hb1)
  have B1 : Hid (Below w.heap.size w w1) := (HB.out _ _).trans (hb1.mono (by simp; omega))
  clear hb1 OA0 OB0
  go_wp2_with (first
    | ((with_reducible refine wpList_load_one ?qqg171 3 ?qqx171 ?qqo171 w.heap.size 0 ?qqh171 (.int .i64 z0) Tryz.rObj_int (OA1.out.cell 0 _ E0.out) ?_); (case qqg171 => rfl); (case qqo171 => rfl); (case qqh171 => simp [Act.eval, Act.put]))
    | ((with_reducible refine wpList_load_one ?qqg172 9 ?qqx172 ?qqo172 w.heap.size 1 ?qqh172 (.string z1) Tryz.rObj_string (OA1.out.cell 1 _ E1.out) ?_); (case qqg172 => rfl); (case qqo172 => rfl); (case qqh172 => simp [Act.eval, Act.put]))
    | ((with_reducible refine wpList_load_one ?qqg173 3 ?qqx173 ?qqo173 w.heap.size 2 ?qqh173 (.int .i64 z2) Tryz.rObj_int (OA1.out.cell 2 _ E2.out) ?_); (case qqg173 => rfl); (case qqo173 => rfl); (case qqh173 => simp [Act.eval, Act.put]))
    | ((with_reducible refine wpList_load_one ?qqg174 3 ?qqx174 ?qqo174 w.heap.size 3 ?qqh174 (.int .i64 z3) Tryz.rObj_int (OA1.out.cell 3 _ E3.out) ?_); (case qqg174 => rfl); (case qqo174 => rfl); (case qqh174 => simp [Act.eval, Act.put]))
    | ((with_reducible refine wpList_load_one ?qqg175 3 ?qqx175 ?qqo175 w.heap.size 4 ?qqh175 (.int .i64 z4) Tryz.rObj_int (OA1.out.cell 4 _ E4.out) ?_); (case qqg175 => rfl); (case qqo175 => rfl); (case qqh175 => simp [Act.eval, Act.put]))
    | ((with_reducible refine wpList_load_one ?qqg176 4 ?qqx176 ?qqo176 w.heap.size 5 ?qqh176 (.bool z5) Tryz.rObj_bool (OA1.out.cell 5 _ E5.out) ?_); (case qqg176 => rfl); (case qqo176 => rfl); (case qqh176 => simp [Act.eval, Act.put]))
    | ((with_reducible refine wpList_load_one ?qqg177 23 ?qqx177 ?qqo177 w.heap.size 6 ?qqh177 (v6) Tryz.rObj_Lstring (OA1.out.cell 6 _ E6.out) ?_); (case qqg177 => rfl); (case qqo177 => rfl); (case qqh177 => simp [Act.eval, Act.put]))
    | ((with_reducible refine wpList_load_row2 ?qqg178 90 ?qqx178 ?qqo178 w.heap.size 7 ?qqh178 y7 Tryz.rObj_impl_Value YZ7.out (OA1.out.range 7 _ E7.out) ?_); (case qqg178 => rfl); (case qqo178 => rfl); (case qqh178 => simp [Act.eval, Act.put]))
    | ((with_reducible refine wpList_load_row2 ?qqg179 90 ?qqx179 ?qqo179 w.heap.size 12 ?qqh179 y8 Tryz.rObj_impl_Value YZ8.out (OA1.out.range 12 _ E8.out) ?_); (case qqg179 => rfl); (case qqo179 => rfl); (case qqh179 => simp [Act.eval, Act.put]))
    | ((with_reducible refine wpList_load_one ?qqg180 3 ?qqx180 ?qqo180 (w.heap.size + 1) 0 ?qqh180 (.int .i64 z0) Tryz.rObj_int (OB1.out.cell 0 _ Er0.out) ?_); (case qqg180 => rfl); (case qqo180 => rfl); (case qqh180 => simp [Act.eval, Act.put]))
    | ((with_reducible refine wpList_load_one ?qqg181 9 ?qqx181 ?qqo181 (w.heap.size + 1) 1 ?qqh181 (.string z1) Tryz.rObj_string (OB1.out.cell 1 _ Er1.out) ?_); (case qqg181 => rfl); (case qqo181 => rfl); (case qqh181 => simp [Act.eval, Act.put]))
    | ((with_reducible refine wpList_load_one ?qqg182 3 ?qqx182 ?qqo182 (w.heap.size + 1) 2 ?qqh182 (.int .i64 z2) Tryz.rObj_int (OB1.out.cell 2 _ Er2.out) ?_); (case qqg182 => rfl); (case qqo182 => rfl); (case qqh182 => simp [Act.eval, Act.put]))
    | ((with_reducible refine wpList_load_one ?qqg183 3 ?qqx183 ?qqo183 (w.heap.size + 1) 3 ?qqh183 (.int .i64 z3) Tryz.rObj_int (OB1.out.cell 3 _ Er3.out) ?_); (case qqg183 => rfl); (case qqo183 => rfl); (case qqh183 => simp [Act.eval, Act.put]))
    | ((with_reducible refine wpList_load_one ?qqg184 3 ?qqx184 ?qqo184 (w.heap.size + 1) 4 ?qqh184 (.int .i64 z4) Tryz.rObj_int (OB1.out.cell 4 _ Er4.out) ?_); (case qqg184 => rfl); (case qqo184 => rfl); (case qqh184 => simp [Act.eval, Act.put]))
    | ((with_reducible refine wpList_load_one ?qqg185 4 ?qqx185 ?qqo185 (w.heap.size + 1) 5 ?qqh185 (.bool z5) Tryz.rObj_bool (OB1.out.cell 5 _ Er5.out) ?_); (case qqg185 => rfl); (case qqo185 => rfl); (case qqh185 => simp [Act.eval, Act.put]))
    | ((with_reducible refine wpList_load_one ?qqg186 23 ?qqx186 ?qqo186 (w.heap.size + 1) 6 ?qqh186 (v6r) Tryz.rObj_Lstring (OB1.out.cell 6 _ Er6.out) ?_); (case qqg186 => rfl); (case qqo186 => rfl); (case qqh186 => simp [Act.eval, Act.put]))
    | ((with_reducible refine wpList_load_row2 ?qqg187 90 ?qqx187 ?qqo187 (w.heap.size + 1) 7 ?qqh187 y7r Tryz.rObj_impl_Value YrZ7.out (OB1.out.range 7 _ Er7.out) ?_); (case qqg187 => rfl); (case qqo187 => rfl); (case qqh187 => simp [Act.eval, Act.put]))
    | ((with_reducible refine wpList_load_row2 ?qqg188 90 ?qqx188 ?qqo188 (w.heap.size + 1) 12 ?qqh188 y8r Tryz.rObj_impl_Value YrZ8.out (OB1.out.range 12 _ Er8.out) ?_); (case qqg188 => rfl); (case qqo188 => rfl); (case qqh188 => simp [Act.eval, Act.put]))
    )
  refine (HC1.out _ B1.out).mono ?_
  rintro e w2 ⟨rfl, hb2⟩
  have OA2 := uhide (OA1.out.below hb2)
  have OB2 := uhide (OB1.out.below hb2)
  have B2 : Hid (Below w.heap.size w w2) := B1.out.trans (hb2.mono B1.out.size)
  clear hb2 OA1 OB1
  go_wp2_with (first
    | ((with_reducible refine wpList_load_one ?qqg197 3 ?qqx197 ?qqo197 w.heap.size 0 ?qqh197 (.int .i64 z0) Tryz.rObj_int (OA2.out.cell 0 _ E0.out) ?_); (case qqg197 => rfl); (case qqo197 => rfl); (case qqh197 => simp [Act.eval, Act.put]))
    | ((with_reducible refine wpList_load_one ?qqg198 9 ?qqx198 ?qqo198 w.heap.size 1 ?qqh198 (.string z1) Tryz.rObj_string (OA2.out.cell 1 _ E1.out) ?_); (case qqg198 => rfl); (case qqo198 => rfl); (case qqh198 => simp [Act.eval, Act.put]))
    | ((with_reducible refine wpList_load_one ?qqg199 3 ?qqx199 ?qqo199 w.heap.size 2 ?qqh199 (.int .i64 z2) Tryz.rObj_int (OA2.out.cell 2 _ E2.out) ?_); (case qqg199 => rfl); (case qqo199 => rfl); (case qqh199 => simp [Act.eval, Act.put]))
    | ((with_reducible refine wpList_load_one ?qqg200 3 ?qqx200 ?qqo200 w.heap.size 3 ?qqh200 (.int .i64 z3) Tryz.rObj_int (OA2.out.cell 3 _ E3.out) ?_); (case qqg200 => rfl); (case qqo200 => rfl); (case qqh200 => simp [Act.eval, Act.put]))
    | ((with_reducible refine wpList_load_one ?qqg201 3 ?qqx201 ?qqo201 w.heap.size 4 ?qqh201 (.int .i64 z4) Tryz.rObj_int (OA2.out.cell 4 _ E4.out) ?_); (case qqg201 => rfl); (case qqo201 => rfl); (case qqh201 => simp [Act.eval, Act.put]))
    | ((with_reducible refine wpList_load_one ?qqg202 4 ?qqx202 ?qqo202 w.heap.size 5 ?qqh202 (.bool z5) Tryz.rObj_bool (OA2.out.cell 5 _ E5.out) ?_); (case qqg202 => rfl); (case qqo202 => rfl); (case qqh202 => simp [Act.eval, Act.put]))
    | ((with_reducible refine wpList_load_one ?qqg203 23 ?qqx203 ?qqo203 w.heap.size 6 ?qqh203 (v6) Tryz.rObj_Lstring (OA2.out.cell 6 _ E6.out) ?_); (case qqg203 => rfl); (case qqo203 => rfl); (case qqh203 => simp [Act.eval, Act.put]))
    | ((with_reducible refine wpList_load_row2 ?qqg204 90 ?qqx204 ?qqo204 w.heap.size 7 ?qqh204 y7 Tryz.rObj_impl_Value YZ7.out (OA2.out.range 7 _ E7.out) ?_); (case qqg204 => rfl); (case qqo204 => rfl); (case qqh204 => simp [Act.eval, Act.put]))
    | ((with_reducible refine wpList_load_row2 ?qqg205 90 ?qqx205 ?qqo205 w.heap.size 12 ?qqh205 y8 Tryz.rObj_impl_Value YZ8.out (OA2.out.range 12 _ E8.out) ?_); (case qqg205 => rfl); (case qqo205 => rfl); (case qqh205 => simp [Act.eval, Act.put]))
    | ((with_reducible refine wpList_load_one ?qqg206 3 ?qqx206 ?qqo206 (w.heap.size + 1) 0 ?qqh206 (.int .i64 z0) Tryz.rObj_int (OB2.out.cell 0 _ Er0.out) ?_); (case qqg206 => rfl); (case qqo206 => rfl); (case qqh206 => simp [Act.eval, Act.put]))
    | ((with_reducible refine wpList_load_one ?qqg207 9 ?qqx207 ?qqo207 (w.heap.size + 1) 1 ?qqh207 (.string z1) Tryz.rObj_string (OB2.out.cell 1 _ Er1.out) ?_); (case qqg207 => rfl); (case qqo207 => rfl); (case qqh207 => simp [Act.eval, Act.put]))
    | ((with_reducible refine wpList_load_one ?qqg208 3 ?qqx208 ?qqo208 (w.heap.size + 1) 2 ?qqh208 (.int .i64 z2) Tryz.rObj_int (OB2.out.cell 2 _ Er2.out) ?_); (case qqg208 => rfl); (case qqo208 => rfl); (case qqh208 => simp [Act.eval, Act.put]))
    | ((with_reducible refine wpList_load_one ?qqg209 3 ?qqx209 ?qqo209 (w.heap.size + 1) 3 ?qqh209 (.int .i64 z3) Tryz.rObj_int (OB2.out.cell 3 _ Er3.out) ?_); (case qqg209 => rfl); (case qqo209 => rfl); (case qqh209 => simp [Act.eval, Act.put]))
    | ((with_reducible refine wpList_load_one ?qqg210 3 ?qqx210 ?qqo210 (w.heap.size + 1) 4 ?qqh210 (.int .i64 z4) Tryz.rObj_int (OB2.out.cell 4 _ Er4.out) ?_); (case qqg210 => rfl); (case qqo210 => rfl); (case qqh210 => simp [Act.eval, Act.put]))
    | ((with_reducible refine wpList_load_one ?qqg211 4 ?qqx211 ?qqo211 (w.heap.size + 1) 5 ?qqh211 (.bool z5) Tryz.rObj_bool (OB2.out.cell 5 _ Er5.out) ?_); (case qqg211 => rfl); (case qqo211 => rfl); (case qqh211 => simp [Act.eval, Act.put]))
    | ((with_reducible refine wpList_load_one ?qqg212 23 ?qqx212 ?qqo212 (w.heap.size + 1) 6 ?qqh212 (v6r) Tryz.rObj_Lstring (OB2.out.cell 6 _ Er6.out) ?_); (case qqg212 => rfl); (case qqo212 => rfl); (case qqh212 => simp [Act.eval, Act.put]))
    | ((with_reducible refine wpList_load_row2 ?qqg213 90 ?qqx213 ?qqo213 (w.heap.size + 1) 7 ?qqh213 y7r Tryz.rObj_impl_Value YrZ7.out (OB2.out.range 7 _ Er7.out) ?_); (case qqg213 => rfl); (case qqo213 => rfl); (case qqh213 => simp [Act.eval, Act.put]))
    | ((with_reducible refine wpList_load_row2 ?qqg214 90 ?qqx214 ?qqo214 (w.heap.size + 1) 12 ?qqh214 y8r Tryz.rObj_impl_Value YrZ8.out (OB2.out.range 12 _ Er8.out) ?_); (case qqg214 => rfl); (case qqo214 => rfl); (case qqh214 => simp [Act.eval, Act.put]))
    )
  refine (HC2.out _ B2.out).mono ?_
  rintro e w3 ⟨rfl, hb3⟩
  have OA3 := uhide (OA2.out.below hb3)
  have OB3 := uhide (OB2.out.below hb3)
  have B3 : Hid (Below w.heap.size w w3) := B2.out.trans (hb3.mono B2.out.size)
  clear hb3 OA2 OB2
  go_wp2
  go_ret
  exact ⟨rfl, B3.out⟩
set_option maxRecDepth 20000 in
set_option maxHeartbeats 1600000 in
theorem ueqObjS_any {lo hi lo' hi' : Nat} (n : Nat) (cs : UD) (c c' : Value) (w : World) (ht : tyS 17 n cs 8) (hx : uS w lo hi 17 n cs c) (hy : uS w lo' hi' 17 n cs c') :
    Calls Tryz.prog 95 #[c, c'] w fun e w' => e = .returned (.bool true) ∧ Below w.heap.size w w' := by
  obtain ⟨a, cap, rfl, hx2⟩ := hx
  obtain ⟨a', cap', rfl, hy2⟩ := hy
  have Hx : Hid (uS w lo hi 17 n cs (.slice a n cap)) := ⟨a, cap, rfl, hx2⟩
  have Hy : Hid (uS w lo' hi' 17 n cs (.slice a' n cap')) := ⟨a', cap', rfl, hy2⟩
  have hmx := ht.2.2.1
  unfold maxLen at hmx
  have Ht := uhide ht
  have hb0 : ((n : Int) != (n : Int)) = false := by simp
  clear hx2 hy2 ht
  go_enter Tryz.func95, Tryz.ntmps95
  go_wp2
  go_loopw [5] (fun i wr => ∃ (q : Nat), q ≤ n ∧ i = .int .i64 q ∧ Hid (Below w.heap.size w wr)) (fun i _ => n - (intOf i).toNat)
  case atStart => exact ⟨0, Nat.zero_le _, rfl, Below.refl _ _⟩
  case round =>
    obtain ⟨q, hq, rfl, hbw⟩ := hrel
    by_cases hlt : q < n
    · obtain ⟨b, off, rfl, hbb, hm⟩ := (Hx.out.below hbw.out).cells (by omega)
      obtain ⟨b', off', rfl, hbb', hm'⟩ := (Hy.out.below hbw.out).cells (by omega)
      have htr := Ht.out.row hlt
      obtain ⟨xs, hh, hcl⟩ := (hm.row 17 q).hand
      obtain ⟨ys, hh', hcl'⟩ := (hm'.row 17 q).hand
      have hi1 : (Tryz.prog.info? 138).map (·.size) = some xs.length := by rw [hh.len, tyL.len htr]; exact Tryz.zObj_impl_Obj
      have hi2 : (Tryz.prog.info? 138).map (·.size) = some ys.length := by rw [hh'.len, tyL.len htr]; exact Tryz.zObj_impl_Obj
      have Hcon : Hid (∀ wx, Below wr.heap.size wr wx → Calls Tryz.prog 177 #[.agg xs.toArray, .agg ys.toArray] wx fun e w' => e = .returned (.bool true) ∧ Hid (Below wr.heap.size wr w')) := fun wx hb => (ueqObj_any (lo := lo) (hi := hi) (lo' := lo') (hi' := hi') _ _ _ wx htr (hh.below hb) (hh'.below hb)).mono fun e w' h => ⟨h.1, hb.trans (h.2.mono hb.size)⟩
      have r1 : wr.rangeAt b (off + q * 17) xs := hcl
      have r2 : wr.rangeAt b' (off' + q * 17) ys := hcl'
      have R1 := uhide r1
      have R2 := uhide r2
      clear hcl hcl' hm hm' htr hh hh' Hx Hy Ht
      go_wp2
      refine wp_region_held_drew (S := fun w' => w'.rangeAt b (off + q * 17) xs ∧ w'.rangeAt b' (off' + q * 17) ys) (by kernel_rfl) ⟨(World.rangeAt_drew _ _ _ _).2 R1.out, (World.rangeAt_drew _ _ _ _).2 R2.out⟩ (fun hHeld => ?_)
      refine wpAnyH_take (i := 0) (oi := ⟨some 17, .move (.tmp 0), _, _, _, _⟩) (v := .slice (some ⟨b, off, none⟩) n cap) rfl (by kernel_rfl) (by kernel_rfl) (by kernel_rfl) (fun _ _ _ h => h) (Or.inl ⟨by rfl, by intro w hSw; go_simp⟩) hHeld ?_
      simp only [Act.put, List.setIfInBounds_toArray, List.set_cons_zero, List.set_cons_succ]
      refine wpAnyH_take (i := 1) (oi := ⟨some 18, .move (.tmp 5), _, _, _, _⟩) (v := .int .i64 q) rfl (by kernel_rfl) (by kernel_rfl) (by kernel_rfl) (fun _ _ _ h => h) (Or.inl ⟨by rfl, by intro w hSw; go_simp⟩) hHeld ?_
      simp only [Act.put, List.setIfInBounds_toArray, List.set_cons_zero, List.set_cons_succ]
      refine wpAnyH_take (i := 2) (oi := ⟨some 19, .indexAddr 63 (.tmp 17) (.tmp 18), _, _, _, _⟩) (v := .pointer (some ⟨b, off + q * 17, none⟩)) rfl (by kernel_rfl) (by kernel_rfl) (by kernel_rfl) (fun _ _ _ h => h) (Or.inl ⟨by rfl, by intro w hSw; go_simp⟩) hHeld ?_
      simp only [Act.put, List.setIfInBounds_toArray, List.set_cons_zero, List.set_cons_succ]
      refine wpAnyH_take (i := 3) (oi := ⟨some 20, .load 138 (.tmp 19), _, _, _, _⟩) (v := .agg xs.toArray) rfl (by kernel_rfl) (by kernel_rfl) (by kernel_rfl) (fun _ _ _ h => h) (yieldsIf_load_row (by rfl) 138 _ rfl b (off + q * 17) rfl xs (fun w hS => hS.1) Tryz.rObj_impl_Obj hi1) hHeld ?_
      simp only [Act.put, List.setIfInBounds_toArray, List.set_cons_zero, List.set_cons_succ]
      refine wpAnyH_take (i := 4) (oi := ⟨some 21, .move (.tmp 1), _, _, _, _⟩) (v := .slice (some ⟨b', off', none⟩) n cap') rfl (by kernel_rfl) (by kernel_rfl) (by kernel_rfl) (fun _ _ _ h => h) (Or.inl ⟨by rfl, by intro w hSw; go_simp⟩) hHeld ?_
      simp only [Act.put, List.setIfInBounds_toArray, List.set_cons_zero, List.set_cons_succ]
      refine wpAnyH_take (i := 5) (oi := ⟨some 22, .move (.tmp 5), _, _, _, _⟩) (v := .int .i64 q) rfl (by kernel_rfl) (by kernel_rfl) (by kernel_rfl) (fun _ _ _ h => h) (Or.inl ⟨by rfl, by intro w hSw; go_simp⟩) hHeld ?_
      simp only [Act.put, List.setIfInBounds_toArray, List.set_cons_zero, List.set_cons_succ]
      refine wpAnyH_take (i := 6) (oi := ⟨some 23, .indexAddr 63 (.tmp 21) (.tmp 22), _, _, _, _⟩) (v := .pointer (some ⟨b', off' + q * 17, none⟩)) rfl (by kernel_rfl) (by kernel_rfl) (by kernel_rfl) (fun _ _ _ h => h) (Or.inl ⟨by rfl, by intro w hSw; go_simp⟩) hHeld ?_
      simp only [Act.put, List.setIfInBounds_toArray, List.set_cons_zero, List.set_cons_succ]
      refine wpAnyH_take (i := 7) (oi := ⟨some 24, .load 138 (.tmp 23), _, _, _, _⟩) (v := .agg ys.toArray) rfl (by kernel_rfl) (by kernel_rfl) (by kernel_rfl) (fun _ _ _ h => h) (yieldsIf_load_row (by rfl) 138 _ rfl b' (off' + q * 17) rfl ys (fun w hS => hS.2) Tryz.rObj_impl_Obj hi2) hHeld ?_
      simp only [Act.put, List.setIfInBounds_toArray, List.set_cons_zero, List.set_cons_succ]
      refine wpAnyH_ready (rs := [8]) (by kernel_rfl) (by simp) (AllReadyH.cons (o := ⟨some 25, .call { callee := .value (.func 177), args := #[.tmp 20, .tmp 24], argTypes := #[138, 138] }, _, _, _, _⟩) rfl (fun K hK => ?_) AllReadyH.nil)
      refine step_call_of rfl 177 #[.tmp 20, .tmp 24] #[138, 138] rfl (callFunc_enter Tryz.func177 (by kernel_rfl) (by kernel_rfl)) #[.agg xs.toArray, .agg ys.toArray] (by simp [Act.eval]) (Hcon.out _ (Below.drew (Below.refl _ _))) ?_
      rintro e w2 ⟨rfl, hb2⟩
      refine ⟨.bool true, rfl, hK.out _ _ ⟨range_below R1.out hb2.out, range_below R2.out hb2.out⟩ (fun hHeld => ?_)⟩
      clear hK K
      simp only [Act.put, List.setIfInBounds_toArray, List.set_cons_zero, List.set_cons_succ]
      refine wpAnyH_take (i := 9) (oi := ⟨some 26, .unOp .not 4 (.tmp 25), _, _, _, _⟩) (v := .bool false) rfl (by kernel_rfl) (by kernel_rfl) (by kernel_rfl) (fun _ _ _ h => h) (Or.inl ⟨by rfl, by intro w hSw; go_simp⟩) hHeld ?_
      simp only [Act.put, List.setIfInBounds_toArray, List.set_cons_zero, List.set_cons_succ]
      refine wpAnyH_done (by kernel_rfl) ?_ _
      clear hHeld
      go_wp2
      go_roundw
      case rel => exact ⟨q + 1, by omega, by go_num, hbw.out.trans (hb2.out.mono hbw.out.size)⟩
      case measure => simp [intOf]; omega
    · have e : q = n := by omega
      subst e
      go_wp2
      go_ret
      exact ⟨rfl, hbw.out⟩
end Go.Proofs.YtdnodaoeflbfkaaGreat
