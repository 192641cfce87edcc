/- Objects: both that ask whether one is as told; whether one ends and waits for nothing. -/
import Derived.Test.YtdnodaoeflbfkaaOB1
import Derived.Test.YtdnodaoeflbfkaaUTObja
namespace Go.Proofs.Ytdnodaoeflbfkaa
open Go.RowKit Go.BigFrame
set_option linter.unusedVariables false
set_option linter.unusedSimpArgs false

theorem wpList_load_oneG {P : Program} {ops : Array Oper} {rest : List Oper} {o : Oper} {a : Act} {w : World} {Q : Exit → Act → World → Prop} (hw : Region.wanted o (yielded ops a.tmps) = true) (t : TypeId) (x : Operand) (ho : o.op = .load t x)
    (b j : Nat) (hx : a.eval x = .pointer (some ⟨b, j, none⟩)) (v : Value) (hu : (P.underlying t).map TypeDesc.isRow = some false) (hc : w.cell? ⟨b, j, none⟩ = some v) (h : wpList P ops Q rest (a.put o.dst v) w) : wpList P ops Q (o :: rest) a w := by
  refine wpList_want hw fun K hK => ?_
  have hl : Sem.run P (Instr.loadAt t (.pointer (some ⟨b, j, none⟩))) w = .ok v w := by
    cases hd : P.underlying t with
    | none => rw [hd] at hu; cases hu
    | some d =>
      rw [hd] at hu
      have hagg : (isAgg t).run P w = .ok false w := by
        unfold isAgg
        rw [Sem.run_bind, run_underlying hd w]
        cases d <;> simp_all [TypeDesc.isRow]
      simp only [Instr.loadAt, Instr.sureAddr, Sem.run_bind, Sem.run_pure, Result.andThen_ok, loadVar, hagg, Bool.false_eq_true, if_false, run_load, hc]
  unfold Oper.wp execOp
  simp only [ho, Sem.run_bind, Sem.run_pure, hx, hl, Result.andThen_ok]
  exact hK _ _ h
theorem wpList_load_rowG {P : Program} {ops : Array Oper} {rest : List Oper} {o : Oper} {a : Act} {w : World} {Q : Exit → Act → World → Prop} (hw : Region.wanted o (yielded ops a.tmps) = true) (t : TypeId) (x : Operand) (ho : o.op = .load t x)
    (b j : Nat) (hx : a.eval x = .pointer (some ⟨b, j, none⟩)) (ys : List Value) (hu : (P.underlying t).map TypeDesc.isRow = some true) (hi : (P.info? t).map (·.size) = some ys.length) (hr : w.rangeAt b j ys) (h : wpList P ops Q rest (a.put o.dst (.agg ys.toArray)) w) : wpList P ops Q (o :: rest) a w := by
  refine wpList_want hw fun K hK => ?_
  unfold Oper.wp execOp
  simp only [ho, Sem.run_bind, Sem.run_pure, hx, load_row_eq hu hi hr, Result.andThen_ok]
  exact hK _ _ h
def kindU : UD → Int
  | .p (.int _ z) _ => z
  | _ => 0
def nameU : UD → ByteArray
  | .p _ (.p (.string s) _) => s
  | _ => ByteArray.empty
def uidU : UD → Int
  | .p _ (.p _ (.p (.int _ z) _)) => z
  | _ => 0
theorem okStrs_of {n : Nat} {c : UD} (h : tyS 1 n c 0) : ∀ t ∈ strL c, t.size ≤ maxLen := by
  intro t ht
  obtain ⟨i, hi, rfl⟩ := List.getElem_of_mem ht
  exact ((strL_get c 0 h.2.2.2.2).2 i hi).2
theorem uS.slice_of {w : World} {lo hi k n : Nat} {cs : UD} {c : Value} (h : uS w lo hi k n cs c) : ∃ a cap, c = .slice a n cap ∧ True := by
  obtain ⟨a, cap, e, _⟩ := h; exact ⟨a, cap, e, trivial⟩
set_option maxRecDepth 40000 in
set_option maxHeartbeats 6400000 in
theorem objOk_of {lo hi : Nat} (z0 : Int) (z1 : ByteArray) (z2 z3 z4 : Int) (z5 : Bool) (n6 : Nat) (c6 d7 d8 : UD) (k6 k7 : Bool) (xs : List Value) (rev next : Int) (w : World) (g1 : z1.size ≤ maxLen) (g6 : tyS 1 n6 c6 0) (g7 : tyL d7 (uE 6)) (g8 : tyL d8 (uE 6))
    (hv7 : ∀ (w : World) (lo hi : Nat) (xs : List Value), uH w lo hi d7 xs → Calls Try.prog 214 #[.agg xs.toArray] w fun e w' => e = .returned (.bool k6) ∧ Below w.heap.size w w')
    (hv8 : ∀ (w : World) (lo hi : Nat) (xs : List Value), uH w lo hi d8 xs → Calls Try.prog 214 #[.agg xs.toArray] w fun e w' => e = .returned (.bool k7) ∧ Below w.heap.size w w')
    (hn0 : -9223372036854775807 ≤ next) (hn1 : next ≤ 9223372036854775807) (hx : uH w lo hi (UD.p (.int .i64 z0) (UD.p (.string z1) (UD.p (.int .i64 z2) (UD.p (.int .i64 z3) (UD.p (.int .i64 z4) (UD.p (.bool z5) (UD.l 1 n6 c6 (UD.app d7 (UD.app d8 UD.nil))))))))) xs) :
    Calls Try.prog 168 #[.agg xs.toArray, .int .i64 rev, .int .i64 (next - 1)] w fun e w' => e = .returned (.bool (inB z0 1 3 && nameB z1 && waitsB (strL c6) && inB z2 1 (next - 1) && inB z3 1 rev && inB z4 1 z3 && k6 && k7)) ∧ Below w.heap.size w w' := by
  obtain ⟨_, rfl, h0⟩ := hx
  obtain ⟨_, rfl, h1⟩ := h0
  obtain ⟨_, rfl, h2⟩ := h1
  obtain ⟨_, rfl, h3⟩ := h2
  obtain ⟨_, rfl, h4⟩ := h3
  obtain ⟨_, rfl, h5⟩ := h4
  obtain ⟨v6, _, rfl, s6, h6⟩ := h5
  obtain ⟨y7, _, rfl, l7, s7, h7⟩ := uH.split h6
  replace l7 : y7.length = 5 := l7.trans (tyL.len g7)
  clear h6
  obtain ⟨y8, _, rfl, l8, s8, h8⟩ := uH.split h7
  replace l8 : y8.length = 5 := l8.trans (tyL.len g8)
  clear h7
  obtain rfl := h8
  obtain ⟨a6, cp6, rfl⟩ : ∃ a cap, v6 = .slice a n6 cap := by obtain ⟨a, cap, e, _⟩ := s6; exact ⟨a, cap, e⟩
  have hW6 : ∀ wx : World, Below w.heap.size w wx → Calls Try.prog 213 #[(.slice a6 n6 cp6)] wx fun e w' => e = .returned (.bool (waitsB (strL c6))) ∧ Below wx.heap.size wx w' := by
    intro wx hb
    have h6 := s6.below hb
    obtain ⟨q1, q2, q3⟩ := strB_of g6 h6
    have q4 := okStrs_of g6
    have := iwaits_any a6 cp6 (strL c6) wx (by rw [q3]; exact g6.2.2.1) (strB.of q1)
    rw [q3] at this
    exact this
  obtain ⟨k0, hk0⟩ : ∃ k, k = inB z0 1 3 := ⟨_, rfl⟩
  have HK0 : Hid (∀ wx : World, Below w.heap.size w wx → Calls Try.prog 91 #[.int .i64 z0, .int .i64 3] wx fun e w' => e = .returned (.bool k0) ∧ Below wx.heap.size wx w') := fun wx hb => hk0 ▸ ((fromOne_any _ _ wx).mono fun e w' h => ⟨h.1, h.2 ▸ Below.refl _ _⟩)
  obtain ⟨k1, hk1⟩ : ∃ k, k = nameB z1 := ⟨_, rfl⟩
  have HK1 : Hid (∀ wx : World, Below w.heap.size w wx → Calls Try.prog 108 #[.string z1] wx fun e w' => e = .returned (.bool k1) ∧ Below wx.heap.size wx w') := fun wx hb => hk1 ▸ (iname_any z1 wx)
  obtain ⟨k2, hk2⟩ : ∃ k, k = waitsB (strL c6) := ⟨_, rfl⟩
  have HK2 : Hid (∀ wx : World, Below w.heap.size w wx → Calls Try.prog 213 #[(.slice a6 n6 cp6)] wx fun e w' => e = .returned (.bool k2) ∧ Below wx.heap.size wx w') := fun wx hb => hk2 ▸ (hW6 _ hb)
  obtain ⟨k3, hk3⟩ : ∃ k, k = inB z2 1 (next - 1) := ⟨_, rfl⟩
  have HK3 : Hid (∀ wx : World, Below w.heap.size w wx → Calls Try.prog 91 #[.int .i64 z2, .int .i64 (next - 1)] wx fun e w' => e = .returned (.bool k3) ∧ Below wx.heap.size wx w') := fun wx hb => hk3 ▸ ((fromOne_any _ _ wx).mono fun e w' h => ⟨h.1, h.2 ▸ Below.refl _ _⟩)
  obtain ⟨k4, hk4⟩ : ∃ k, k = inB z3 1 rev := ⟨_, rfl⟩
  have HK4 : Hid (∀ wx : World, Below w.heap.size w wx → Calls Try.prog 91 #[.int .i64 z3, .int .i64 rev] wx fun e w' => e = .returned (.bool k4) ∧ Below wx.heap.size wx w') := fun wx hb => hk4 ▸ ((fromOne_any _ _ wx).mono fun e w' h => ⟨h.1, h.2 ▸ Below.refl _ _⟩)
  obtain ⟨k5, hk5⟩ : ∃ k, k = inB z4 1 z3 := ⟨_, rfl⟩
  have HK5 : Hid (∀ wx : World, Below w.heap.size w wx → Calls Try.prog 91 #[.int .i64 z4, .int .i64 z3] wx fun e w' => e = .returned (.bool k5) ∧ Below wx.heap.size wx w') := fun wx hb => hk5 ▸ ((fromOne_any _ _ wx).mono fun e w' h => ⟨h.1, h.2 ▸ Below.refl _ _⟩)
  have HK6 : Hid (∀ wx : World, Below w.heap.size w wx → Calls Try.prog 214 #[.agg y7.toArray] wx fun e w' => e = .returned (.bool k6) ∧ Below wx.heap.size wx w') := fun wx hb => (hv7 wx lo hi y7 (s7.below hb))
  have HK7 : Hid (∀ wx : World, Below w.heap.size w wx → Calls Try.prog 214 #[.agg y8.toArray] wx fun e w' => e = .returned (.bool k7) ∧ Below wx.heap.size wx w') := fun wx hb => (hv8 wx lo hi y8 (s8.below hb))
  rw [← hk0, ← hk1, ← hk2, ← hk3, ← hk4, ← hk5]
  obtain ⟨AX, hAX⟩ : ∃ AX : List Value, AX = (Value.int .i64 z0 :: (Value.string z1 :: (Value.int .i64 z2 :: (Value.int .i64 z3 :: (Value.int .i64 z4 :: (Value.bool z5 :: ((.slice a6 n6 cp6) :: ((y7 ++ ((y8 ++ []))))))))))) := ⟨_, rfl⟩
  rw [← hAX]
  have hlen : AX.length = 17 := by rw [hAX]; simp [l7, l8]
  have e0 : AX[0]? = some (.int .i64 z0) := at_mid (i := 0) (pre := (([] : List Value))) (ys := [.int .i64 z0]) (post := (Value.string z1 :: (Value.int .i64 z2 :: (Value.int .i64 z3 :: (Value.int .i64 z4 :: (Value.bool z5 :: ((.slice a6 n6 cp6) :: ((y7 ++ ((y8 ++ []))))))))))) (by rw [hAX]; simp) (by simp) rfl
  have e1 : AX[1]? = some (.string z1) := at_mid (i := 0) (pre := ([Value.int .i64 z0])) (ys := [.string z1]) (post := (Value.int .i64 z2 :: (Value.int .i64 z3 :: (Value.int .i64 z4 :: (Value.bool z5 :: ((.slice a6 n6 cp6) :: ((y7 ++ ((y8 ++ [])))))))))) (by rw [hAX]; simp) (by simp) rfl
  have e2 : AX[2]? = some (.int .i64 z2) := at_mid (i := 0) (pre := ([Value.int .i64 z0, Value.string z1])) (ys := [.int .i64 z2]) (post := (Value.int .i64 z3 :: (Value.int .i64 z4 :: (Value.bool z5 :: ((.slice a6 n6 cp6) :: ((y7 ++ ((y8 ++ []))))))))) (by rw [hAX]; simp) (by simp) rfl
  have e3 : AX[3]? = some (.int .i64 z3) := at_mid (i := 0) (pre := ([Value.int .i64 z0, Value.string z1, Value.int .i64 z2])) (ys := [.int .i64 z3]) (post := (Value.int .i64 z4 :: (Value.bool z5 :: ((.slice a6 n6 cp6) :: ((y7 ++ ((y8 ++ [])))))))) (by rw [hAX]; simp) (by simp) rfl
  have e4 : AX[4]? = some (.int .i64 z4) := at_mid (i := 0) (pre := ([Value.int .i64 z0, Value.string z1, Value.int .i64 z2, Value.int .i64 z3])) (ys := [.int .i64 z4]) (post := (Value.bool z5 :: ((.slice a6 n6 cp6) :: ((y7 ++ ((y8 ++ []))))))) (by rw [hAX]; simp) (by simp) rfl
  have e5 : AX[5]? = some (.bool z5) := at_mid (i := 0) (pre := ([Value.int .i64 z0, Value.string z1, Value.int .i64 z2, Value.int .i64 z3, Value.int .i64 z4])) (ys := [.bool z5]) (post := ((.slice a6 n6 cp6) :: ((y7 ++ ((y8 ++ [])))))) (by rw [hAX]; simp) (by simp) rfl
  have e6 : AX[6]? = some ((.slice a6 n6 cp6)) := at_mid (i := 0) (pre := ([Value.int .i64 z0, Value.string z1, Value.int .i64 z2, Value.int .i64 z3, Value.int .i64 z4, Value.bool z5])) (ys := [(.slice a6 n6 cp6)]) (post := ((y7 ++ ((y8 ++ []))))) (by rw [hAX]; simp) (by simp) rfl
  have e7 : ∀ i v, y7[i]? = some v → AX[7 + i]? = some v := fun i v h => at_mid (pre := ([Value.int .i64 z0, Value.string z1, Value.int .i64 z2, Value.int .i64 z3, Value.int .i64 z4, Value.bool z5, (.slice a6 n6 cp6)])) (ys := y7) (post := ((y8 ++ []))) (by rw [hAX]; simp) (by simp) h
  have e8 : ∀ i v, y8[i]? = some v → AX[12 + i]? = some v := fun i v h => at_mid (pre := ([Value.int .i64 z0, Value.string z1, Value.int .i64 z2, Value.int .i64 z3, Value.int .i64 z4, Value.bool z5, (.slice a6 n6 cp6)] ++ y7)) (ys := y8) (post := []) (by rw [hAX]; simp) (by simp [l7]) h
  clear hAX
  have E0 := uhide e0
  clear e0
  have E1 := uhide e1
  clear e1
  have E2 := uhide e2
  clear e2
  have E3 := uhide e3
  clear e3
  have E4 := uhide e4
  clear e4
  have E5 := uhide e5
  clear e5
  have E6 := uhide e6
  clear e6
  have YZ7 : Hid ((Try.prog.info? 134).map (·.size) = some y7.length) := by show _ = _; rw [l7]; exact Try.zObj_impl_Value
  have E7 := uhide e7
  clear e7
  have YZ8 : Hid ((Try.prog.info? 134).map (·.size) = some y8.length) := by show _ = _; rw [l8]; exact Try.zObj_impl_Value
  have E8 := uhide e8
  clear e8
  have OA : Hid (objU (w.alloc (.cells AX.toArray 136)) w.heap.size 136 AX) := objU.new2 _ _ rfl
  have BA : Hid (Below w.heap.size w (w.alloc (.cells AX.toArray 136))) := (Below.refl _ _).alloc (Nat.le_refl _) _
  have hmx := g6.2.2.1
  unfold maxLen at hmx
  clear hW6 hk0 hk1 hk2 hk3 hk4 hk5 hv7 hv8 g1 g6 g7 g8 s6 s7 s8 l7 l8 hlen
  cases k0 with
  | false =>
    go_enter Try.func168, Try.ntmps168
    go_wp2_with (first
      | ((with_reducible refine wpList_load_oneG ?qqg133 3 ?qqx133 ?qqo133 w.heap.size 0 ?qqh133 (.int .i64 z0) Try.rObj_int (OA.out.cell 0 _ E0.out) ?_); (case qqg133 => rfl); (case qqo133 => rfl); (case qqh133 => simp [Act.eval, Act.put]))
      )
    refine (HK0.out _ BA.out).mono ?_
    rintro e w0 ⟨rfl, hb0⟩
    have O0 := uhide (OA.out.below hb0)
    have B0 : Hid (Below w.heap.size w w0) := BA.out.trans (hb0.mono BA.out.size)
    clear hb0
    go_wp2
    go_ret
    exact ⟨ret_bool (by simp), B0.out⟩
  | true =>
  cases k1 with
  | false =>
    go_enter Try.func168, Try.ntmps168
    go_wp2_with (first
      | ((with_reducible refine wpList_load_oneG ?qqg156 3 ?qqx156 ?qqo156 w.heap.size 0 ?qqh156 (.int .i64 z0) Try.rObj_int (OA.out.cell 0 _ E0.out) ?_); (case qqg156 => rfl); (case qqo156 => rfl); (case qqh156 => simp [Act.eval, Act.put]))
      )
    refine (HK0.out _ BA.out).mono ?_
    rintro e w0 ⟨rfl, hb0⟩
    have O0 := uhide (OA.out.below hb0)
    have B0 : Hid (Below w.heap.size w w0) := BA.out.trans (hb0.mono BA.out.size)
    clear hb0
    go_wp2_with (first
      | ((with_reducible refine wpList_load_oneG ?qqg173 9 ?qqx173 ?qqo173 w.heap.size 1 ?qqh173 (.string z1) Try.rObj_string (O0.out.cell 1 _ E1.out) ?_); (case qqg173 => rfl); (case qqo173 => rfl); (case qqh173 => simp [Act.eval, Act.put]))
      )
    refine (HK1.out _ B0.out).mono ?_
    rintro e w1 ⟨rfl, hb1⟩
    have O1 := uhide (O0.out.below hb1)
    have B1 : Hid (Below w.heap.size w w1) := B0.out.trans (hb1.mono B0.out.size)
    clear hb1
    go_wp2
    go_ret
    exact ⟨ret_bool (by simp), B1.out⟩
  | true =>
  cases k2 with
  | false =>
    go_enter Try.func168, Try.ntmps168
    go_wp2_with (first
      | ((with_reducible refine wpList_load_oneG ?qqg195 3 ?qqx195 ?qqo195 w.heap.size 0 ?qqh195 (.int .i64 z0) Try.rObj_int (OA.out.cell 0 _ E0.out) ?_); (case qqg195 => rfl); (case qqo195 => rfl); (case qqh195 => simp [Act.eval, Act.put]))
      )
    refine (HK0.out _ BA.out).mono ?_
    rintro e w0 ⟨rfl, hb0⟩
    have O0 := uhide (OA.out.below hb0)
    have B0 : Hid (Below w.heap.size w w0) := BA.out.trans (hb0.mono BA.out.size)
    clear hb0
    go_wp2_with (first
      | ((with_reducible refine wpList_load_oneG ?qqg212 9 ?qqx212 ?qqo212 w.heap.size 1 ?qqh212 (.string z1) Try.rObj_string (O0.out.cell 1 _ E1.out) ?_); (case qqg212 => rfl); (case qqo212 => rfl); (case qqh212 => simp [Act.eval, Act.put]))
      )
    refine (HK1.out _ B0.out).mono ?_
    rintro e w1 ⟨rfl, hb1⟩
    have O1 := uhide (O0.out.below hb1)
    have B1 : Hid (Below w.heap.size w w1) := B0.out.trans (hb1.mono B0.out.size)
    clear hb1
    go_wp2_with (first
      | ((with_reducible refine wpList_load_oneG ?qqg233 25 ?qqx233 ?qqo233 w.heap.size 6 ?qqh233 ((.slice a6 n6 cp6)) Try.rObj_Lstring (O1.out.cell 6 _ E6.out) ?_); (case qqg233 => rfl); (case qqo233 => rfl); (case qqh233 => simp [Act.eval, Act.put]))
      )
    refine (HK2.out _ B1.out).mono ?_
    rintro e w2 ⟨rfl, hb2⟩
    have O2 := uhide (O1.out.below hb2)
    have B2 : Hid (Below w.heap.size w w2) := B1.out.trans (hb2.mono B1.out.size)
    clear hb2
    go_wp2
    go_ret
    exact ⟨ret_bool (by simp), B2.out⟩
  | true =>
  cases k3 with
  | false =>
    go_enter Try.func168, Try.ntmps168
    go_wp2_with (first
      | ((with_reducible refine wpList_load_oneG ?qqg250 3 ?qqx250 ?qqo250 w.heap.size 0 ?qqh250 (.int .i64 z0) Try.rObj_int (OA.out.cell 0 _ E0.out) ?_); (case qqg250 => rfl); (case qqo250 => rfl); (case qqh250 => simp [Act.eval, Act.put]))
      )
    refine (HK0.out _ BA.out).mono ?_
    rintro e w0 ⟨rfl, hb0⟩
    have O0 := uhide (OA.out.below hb0)
    have B0 : Hid (Below w.heap.size w w0) := BA.out.trans (hb0.mono BA.out.size)
    clear hb0
    go_wp2_with (first
      | ((with_reducible refine wpList_load_oneG ?qqg267 9 ?qqx267 ?qqo267 w.heap.size 1 ?qqh267 (.string z1) Try.rObj_string (O0.out.cell 1 _ E1.out) ?_); (case qqg267 => rfl); (case qqo267 => rfl); (case qqh267 => simp [Act.eval, Act.put]))
      )
    refine (HK1.out _ B0.out).mono ?_
    rintro e w1 ⟨rfl, hb1⟩
    have O1 := uhide (O0.out.below hb1)
    have B1 : Hid (Below w.heap.size w w1) := B0.out.trans (hb1.mono B0.out.size)
    clear hb1
    go_wp2_with (first
      | ((with_reducible refine wpList_load_oneG ?qqg288 25 ?qqx288 ?qqo288 w.heap.size 6 ?qqh288 ((.slice a6 n6 cp6)) Try.rObj_Lstring (O1.out.cell 6 _ E6.out) ?_); (case qqg288 => rfl); (case qqo288 => rfl); (case qqh288 => simp [Act.eval, Act.put]))
      )
    refine (HK2.out _ B1.out).mono ?_
    rintro e w2 ⟨rfl, hb2⟩
    have O2 := uhide (O1.out.below hb2)
    have B2 : Hid (Below w.heap.size w w2) := B1.out.trans (hb2.mono B1.out.size)
    clear hb2
    go_wp2_with (first
      | ((with_reducible refine wpList_load_oneG ?qqg300 3 ?qqx300 ?qqo300 w.heap.size 2 ?qqh300 (.int .i64 z2) Try.rObj_int (O2.out.cell 2 _ E2.out) ?_); (case qqg300 => rfl); (case qqo300 => rfl); (case qqh300 => simp [Act.eval, Act.put]))
      )
    refine (HK3.out _ B2.out).mono ?_
    rintro e w3 ⟨rfl, hb3⟩
    have O3 := uhide (O2.out.below hb3)
    have B3 : Hid (Below w.heap.size w w3) := B2.out.trans (hb3.mono B2.out.size)
    clear hb3
    go_wp2
    go_ret
    exact ⟨ret_bool (by simp), B3.out⟩
  | true =>
  cases k4 with
  | false =>
    go_enter Try.func168, Try.ntmps168
    go_wp2_with (first
      | ((with_reducible refine wpList_load_oneG ?qqg321 3 ?qqx321 ?qqo321 w.heap.size 0 ?qqh321 (.int .i64 z0) Try.rObj_int (OA.out.cell 0 _ E0.out) ?_); (case qqg321 => rfl); (case qqo321 => rfl); (case qqh321 => simp [Act.eval, Act.put]))
      )
    refine (HK0.out _ BA.out).mono ?_
    rintro e w0 ⟨rfl, hb0⟩
    have O0 := uhide (OA.out.below hb0)
    have B0 : Hid (Below w.heap.size w w0) := BA.out.trans (hb0.mono BA.out.size)
    clear hb0
    go_wp2_with (first
      | ((with_reducible refine wpList_load_oneG ?qqg338 9 ?qqx338 ?qqo338 w.heap.size 1 ?qqh338 (.string z1) Try.rObj_string (O0.out.cell 1 _ E1.out) ?_); (case qqg338 => rfl); (case qqo338 => rfl); (case qqh338 => simp [Act.eval, Act.put]))
      )
    refine (HK1.out _ B0.out).mono ?_
    rintro e w1 ⟨rfl, hb1⟩
    have O1 := uhide (O0.out.below hb1)
    have B1 : Hid (Below w.heap.size w w1) := B0.out.trans (hb1.mono B0.out.size)
    clear hb1
    go_wp2_with (first
      | ((with_reducible refine wpList_load_oneG ?qqg359 25 ?qqx359 ?qqo359 w.heap.size 6 ?qqh359 ((.slice a6 n6 cp6)) Try.rObj_Lstring (O1.out.cell 6 _ E6.out) ?_); (case qqg359 => rfl); (case qqo359 => rfl); (case qqh359 => simp [Act.eval, Act.put]))
      )
    refine (HK2.out _ B1.out).mono ?_
    rintro e w2 ⟨rfl, hb2⟩
    have O2 := uhide (O1.out.below hb2)
    have B2 : Hid (Below w.heap.size w w2) := B1.out.trans (hb2.mono B1.out.size)
    clear hb2
    go_wp2_with (first
      | ((with_reducible refine wpList_load_oneG ?qqg371 3 ?qqx371 ?qqo371 w.heap.size 2 ?qqh371 (.int .i64 z2) Try.rObj_int (O2.out.cell 2 _ E2.out) ?_); (case qqg371 => rfl); (case qqo371 => rfl); (case qqh371 => simp [Act.eval, Act.put]))
      )
    refine (HK3.out _ B2.out).mono ?_
    rintro e w3 ⟨rfl, hb3⟩
    have O3 := uhide (O2.out.below hb3)
    have B3 : Hid (Below w.heap.size w w3) := B2.out.trans (hb3.mono B2.out.size)
    clear hb3
    go_wp2_with (first
      | ((with_reducible refine wpList_load_oneG ?qqg388 3 ?qqx388 ?qqo388 w.heap.size 3 ?qqh388 (.int .i64 z3) Try.rObj_int (O3.out.cell 3 _ E3.out) ?_); (case qqg388 => rfl); (case qqo388 => rfl); (case qqh388 => simp [Act.eval, Act.put]))
      )
    refine (HK4.out _ B3.out).mono ?_
    rintro e w4 ⟨rfl, hb4⟩
    have O4 := uhide (O3.out.below hb4)
    have B4 : Hid (Below w.heap.size w w4) := B3.out.trans (hb4.mono B3.out.size)
    clear hb4
    go_wp2
    go_ret
    exact ⟨ret_bool (by simp), B4.out⟩
  | true =>
  cases k5 with
  | false =>
    go_enter Try.func168, Try.ntmps168
    go_wp2_with (first
      | ((with_reducible refine wpList_load_oneG ?qqg408 3 ?qqx408 ?qqo408 w.heap.size 0 ?qqh408 (.int .i64 z0) Try.rObj_int (OA.out.cell 0 _ E0.out) ?_); (case qqg408 => rfl); (case qqo408 => rfl); (case qqh408 => simp [Act.eval, Act.put]))
      )
    refine (HK0.out _ BA.out).mono ?_
    rintro e w0 ⟨rfl, hb0⟩
    have O0 := uhide (OA.out.below hb0)
    have B0 : Hid (Below w.heap.size w w0) := BA.out.trans (hb0.mono BA.out.size)
    clear hb0
    go_wp2_with (first
      | ((with_reducible refine wpList_load_oneG ?qqg425 9 ?qqx425 ?qqo425 w.heap.size 1 ?qqh425 (.string z1) Try.rObj_string (O0.out.cell 1 _ E1.out) ?_); (case qqg425 => rfl); (case qqo425 => rfl); (case qqh425 => simp [Act.eval, Act.put]))
      )
    refine (HK1.out _ B0.out).mono ?_
    rintro e w1 ⟨rfl, hb1⟩
    have O1 := uhide (O0.out.below hb1)
    have B1 : Hid (Below w.heap.size w w1) := B0.out.trans (hb1.mono B0.out.size)
    clear hb1
    go_wp2_with (first
      | ((with_reducible refine wpList_load_oneG ?qqg446 25 ?qqx446 ?qqo446 w.heap.size 6 ?qqh446 ((.slice a6 n6 cp6)) Try.rObj_Lstring (O1.out.cell 6 _ E6.out) ?_); (case qqg446 => rfl); (case qqo446 => rfl); (case qqh446 => simp [Act.eval, Act.put]))
      )
    refine (HK2.out _ B1.out).mono ?_
    rintro e w2 ⟨rfl, hb2⟩
    have O2 := uhide (O1.out.below hb2)
    have B2 : Hid (Below w.heap.size w w2) := B1.out.trans (hb2.mono B1.out.size)
    clear hb2
    go_wp2_with (first
      | ((with_reducible refine wpList_load_oneG ?qqg458 3 ?qqx458 ?qqo458 w.heap.size 2 ?qqh458 (.int .i64 z2) Try.rObj_int (O2.out.cell 2 _ E2.out) ?_); (case qqg458 => rfl); (case qqo458 => rfl); (case qqh458 => simp [Act.eval, Act.put]))
      )
    refine (HK3.out _ B2.out).mono ?_
    rintro e w3 ⟨rfl, hb3⟩
    have O3 := uhide (O2.out.below hb3)
    have B3 : Hid (Below w.heap.size w w3) := B2.out.trans (hb3.mono B2.out.size)
    clear hb3
    go_wp2_with (first
      | ((with_reducible refine wpList_load_oneG ?qqg475 3 ?qqx475 ?qqo475 w.heap.size 3 ?qqh475 (.int .i64 z3) Try.rObj_int (O3.out.cell 3 _ E3.out) ?_); (case qqg475 => rfl); (case qqo475 => rfl); (case qqh475 => simp [Act.eval, Act.put]))
      )
    refine (HK4.out _ B3.out).mono ?_
    rintro e w4 ⟨rfl, hb4⟩
    have O4 := uhide (O3.out.below hb4)
    have B4 : Hid (Below w.heap.size w w4) := B3.out.trans (hb4.mono B3.out.size)
    clear hb4
    go_wp2_with (first
      | ((with_reducible refine wpList_load_oneG ?qqg491 3 ?qqx491 ?qqo491 w.heap.size 3 ?qqh491 (.int .i64 z3) Try.rObj_int (O4.out.cell 3 _ E3.out) ?_); (case qqg491 => rfl); (case qqo491 => rfl); (case qqh491 => simp [Act.eval, Act.put]))
      | ((with_reducible refine wpList_load_oneG ?qqg492 3 ?qqx492 ?qqo492 w.heap.size 4 ?qqh492 (.int .i64 z4) Try.rObj_int (O4.out.cell 4 _ E4.out) ?_); (case qqg492 => rfl); (case qqo492 => rfl); (case qqh492 => simp [Act.eval, Act.put]))
      )
    refine (HK5.out _ B4.out).mono ?_
    rintro e w5 ⟨rfl, hb5⟩
    have O5 := uhide (O4.out.below hb5)
    have B5 : Hid (Below w.heap.size w w5) := B4.out.trans (hb5.mono B4.out.size)
    clear hb5
    go_wp2
    go_ret
    exact ⟨ret_bool (by simp), B5.out⟩
  | true =>
  cases k6 with
  | false =>
    go_enter Try.func168, Try.ntmps168
    go_wp2_with (first
      | ((with_reducible refine wpList_load_oneG ?qqg511 3 ?qqx511 ?qqo511 w.heap.size 0 ?qqh511 (.int .i64 z0) Try.rObj_int (OA.out.cell 0 _ E0.out) ?_); (case qqg511 => rfl); (case qqo511 => rfl); (case qqh511 => simp [Act.eval, Act.put]))
      )
    refine (HK0.out _ BA.out).mono ?_
    rintro e w0 ⟨rfl, hb0⟩
    have O0 := uhide (OA.out.below hb0)
    have B0 : Hid (Below w.heap.size w w0) := BA.out.trans (hb0.mono BA.out.size)
    clear hb0
    go_wp2_with (first
      | ((with_reducible refine wpList_load_oneG ?qqg528 9 ?qqx528 ?qqo528 w.heap.size 1 ?qqh528 (.string z1) Try.rObj_string (O0.out.cell 1 _ E1.out) ?_); (case qqg528 => rfl); (case qqo528 => rfl); (case qqh528 => simp [Act.eval, Act.put]))
      )
    refine (HK1.out _ B0.out).mono ?_
    rintro e w1 ⟨rfl, hb1⟩
    have O1 := uhide (O0.out.below hb1)
    have B1 : Hid (Below w.heap.size w w1) := B0.out.trans (hb1.mono B0.out.size)
    clear hb1
    go_wp2_with (first
      | ((with_reducible refine wpList_load_oneG ?qqg549 25 ?qqx549 ?qqo549 w.heap.size 6 ?qqh549 ((.slice a6 n6 cp6)) Try.rObj_Lstring (O1.out.cell 6 _ E6.out) ?_); (case qqg549 => rfl); (case qqo549 => rfl); (case qqh549 => simp [Act.eval, Act.put]))
      )
    refine (HK2.out _ B1.out).mono ?_
    rintro e w2 ⟨rfl, hb2⟩
    have O2 := uhide (O1.out.below hb2)
    have B2 : Hid (Below w.heap.size w w2) := B1.out.trans (hb2.mono B1.out.size)
    clear hb2
    go_wp2_with (first
      | ((with_reducible refine wpList_load_oneG ?qqg561 3 ?qqx561 ?qqo561 w.heap.size 2 ?qqh561 (.int .i64 z2) Try.rObj_int (O2.out.cell 2 _ E2.out) ?_); (case qqg561 => rfl); (case qqo561 => rfl); (case qqh561 => simp [Act.eval, Act.put]))
      )
    refine (HK3.out _ B2.out).mono ?_
    rintro e w3 ⟨rfl, hb3⟩
    have O3 := uhide (O2.out.below hb3)
    have B3 : Hid (Below w.heap.size w w3) := B2.out.trans (hb3.mono B2.out.size)
    clear hb3
    go_wp2_with (first
      | ((with_reducible refine wpList_load_oneG ?qqg578 3 ?qqx578 ?qqo578 w.heap.size 3 ?qqh578 (.int .i64 z3) Try.rObj_int (O3.out.cell 3 _ E3.out) ?_); (case qqg578 => rfl); (case qqo578 => rfl); (case qqh578 => simp [Act.eval, Act.put]))
      )
    refine (HK4.out _ B3.out).mono ?_
    rintro e w4 ⟨rfl, hb4⟩
    have O4 := uhide (O3.out.below hb4)
    have B4 : Hid (Below w.heap.size w w4) := B3.out.trans (hb4.mono B3.out.size)
    clear hb4
    go_wp2_with (first
      | ((with_reducible refine wpList_load_oneG ?qqg594 3 ?qqx594 ?qqo594 w.heap.size 3 ?qqh594 (.int .i64 z3) Try.rObj_int (O4.out.cell 3 _ E3.out) ?_); (case qqg594 => rfl); (case qqo594 => rfl); (case qqh594 => simp [Act.eval, Act.put]))
      | ((with_reducible refine wpList_load_oneG ?qqg595 3 ?qqx595 ?qqo595 w.heap.size 4 ?qqh595 (.int .i64 z4) Try.rObj_int (O4.out.cell 4 _ E4.out) ?_); (case qqg595 => rfl); (case qqo595 => rfl); (case qqh595 => simp [Act.eval, Act.put]))
      )
    refine (HK5.out _ B4.out).mono ?_
    rintro e w5 ⟨rfl, hb5⟩
    have O5 := uhide (O4.out.below hb5)
    have B5 : Hid (Below w.heap.size w w5) := B4.out.trans (hb5.mono B4.out.size)
    clear hb5
    go_wp2_with (first
      | ((with_reducible refine wpList_load_rowG ?qqg614 134 ?qqx614 ?qqo614 w.heap.size 7 ?qqh614 y7 Try.rObj_impl_Value YZ7.out (O5.out.range 7 _ E7.out) ?_); (case qqg614 => rfl); (case qqo614 => rfl); (case qqh614 => simp [Act.eval, Act.put]))
      )
    refine (HK6.out _ B5.out).mono ?_
    rintro e w6 ⟨rfl, hb6⟩
    have O6 := uhide (O5.out.below hb6)
    have B6 : Hid (Below w.heap.size w w6) := B5.out.trans (hb6.mono B5.out.size)
    clear hb6
    go_wp2
    go_ret
    exact ⟨ret_bool (by simp), B6.out⟩
  | true =>
  cases k7 with
  | false =>
    go_enter Try.func168, Try.ntmps168
    go_wp2_with (first
      | ((with_reducible refine wpList_load_oneG ?qqg630 3 ?qqx630 ?qqo630 w.heap.size 0 ?qqh630 (.int .i64 z0) Try.rObj_int (OA.out.cell 0 _ E0.out) ?_); (case qqg630 => rfl); (case qqo630 => rfl); (case qqh630 => simp [Act.eval, Act.put]))
      )
    refine (HK0.out _ BA.out).mono ?_
    rintro e w0 ⟨rfl, hb0⟩
    have O0 := uhide (OA.out.below hb0)
    have B0 : Hid (Below w.heap.size w w0) := BA.out.trans (hb0.mono BA.out.size)
    clear hb0
    go_wp2_with (first
      | ((with_reducible refine wpList_load_oneG ?qqg647 9 ?qqx647 ?qqo647 w.heap.size 1 ?qqh647 (.string z1) Try.rObj_string (O0.out.cell 1 _ E1.out) ?_); (case qqg647 => rfl); (case qqo647 => rfl); (case qqh647 => simp [Act.eval, Act.put]))
      )
    refine (HK1.out _ B0.out).mono ?_
    rintro e w1 ⟨rfl, hb1⟩
    have O1 := uhide (O0.out.below hb1)
    have B1 : Hid (Below w.heap.size w w1) := B0.out.trans (hb1.mono B0.out.size)
    clear hb1
    go_wp2_with (first
      | ((with_reducible refine wpList_load_oneG ?qqg668 25 ?qqx668 ?qqo668 w.heap.size 6 ?qqh668 ((.slice a6 n6 cp6)) Try.rObj_Lstring (O1.out.cell 6 _ E6.out) ?_); (case qqg668 => rfl); (case qqo668 => rfl); (case qqh668 => simp [Act.eval, Act.put]))
      )
    refine (HK2.out _ B1.out).mono ?_
    rintro e w2 ⟨rfl, hb2⟩
    have O2 := uhide (O1.out.below hb2)
    have B2 : Hid (Below w.heap.size w w2) := B1.out.trans (hb2.mono B1.out.size)
    clear hb2
    go_wp2_with (first
      | ((with_reducible refine wpList_load_oneG ?qqg680 3 ?qqx680 ?qqo680 w.heap.size 2 ?qqh680 (.int .i64 z2) Try.rObj_int (O2.out.cell 2 _ E2.out) ?_); (case qqg680 => rfl); (case qqo680 => rfl); (case qqh680 => simp [Act.eval, Act.put]))
      )
    refine (HK3.out _ B2.out).mono ?_
    rintro e w3 ⟨rfl, hb3⟩
    have O3 := uhide (O2.out.below hb3)
    have B3 : Hid (Below w.heap.size w w3) := B2.out.trans (hb3.mono B2.out.size)
    clear hb3
    go_wp2_with (first
      | ((with_reducible refine wpList_load_oneG ?qqg697 3 ?qqx697 ?qqo697 w.heap.size 3 ?qqh697 (.int .i64 z3) Try.rObj_int (O3.out.cell 3 _ E3.out) ?_); (case qqg697 => rfl); (case qqo697 => rfl); (case qqh697 => simp [Act.eval, Act.put]))
      )
    refine (HK4.out _ B3.out).mono ?_
    rintro e w4 ⟨rfl, hb4⟩
    have O4 := uhide (O3.out.below hb4)
    have B4 : Hid (Below w.heap.size w w4) := B3.out.trans (hb4.mono B3.out.size)
    clear hb4
    go_wp2_with (first
      | ((with_reducible refine wpList_load_oneG ?qqg713 3 ?qqx713 ?qqo713 w.heap.size 3 ?qqh713 (.int .i64 z3) Try.rObj_int (O4.out.cell 3 _ E3.out) ?_); (case qqg713 => rfl); (case qqo713 => rfl); (case qqh713 => simp [Act.eval, Act.put]))
      | ((with_reducible refine wpList_load_oneG ?qqg714 3 ?qqx714 ?qqo714 w.heap.size 4 ?qqh714 (.int .i64 z4) Try.rObj_int (O4.out.cell 4 _ E4.out) ?_); (case qqg714 => rfl); (case qqo714 => rfl); (case qqh714 => simp [Act.eval, Act.put]))
      )
    refine (HK5.out _ B4.out).mono ?_
    rintro e w5 ⟨rfl, hb5⟩
    have O5 := uhide (O4.out.below hb5)
    have B5 : Hid (Below w.heap.size w w5) := B4.out.trans (hb5.mono B4.out.size)
    clear hb5
    go_wp2_with (first
      | ((with_reducible refine wpList_load_rowG ?qqg733 134 ?qqx733 ?qqo733 w.heap.size 7 ?qqh733 y7 Try.rObj_impl_Value YZ7.out (O5.out.range 7 _ E7.out) ?_); (case qqg733 => rfl); (case qqo733 => rfl); (case qqh733 => simp [Act.eval, Act.put]))
      )
    refine (HK6.out _ B5.out).mono ?_
    rintro e w6 ⟨rfl, hb6⟩
    have O6 := uhide (O5.out.below hb6)
    have B6 : Hid (Below w.heap.size w w6) := B5.out.trans (hb6.mono B5.out.size)
    clear hb6
    go_wp2_with (first
      | ((with_reducible refine wpList_load_rowG ?qqg750 134 ?qqx750 ?qqo750 w.heap.size 12 ?qqh750 y8 Try.rObj_impl_Value YZ8.out (O6.out.range 12 _ E8.out) ?_); (case qqg750 => rfl); (case qqo750 => rfl); (case qqh750 => simp [Act.eval, Act.put]))
      )
    refine (HK7.out _ B6.out).mono ?_
    rintro e w7 ⟨rfl, hb7⟩
    have O7 := uhide (O6.out.below hb7)
    have B7 : Hid (Below w.heap.size w w7) := B6.out.trans (hb7.mono B6.out.size)
    clear hb7
    go_wp2
    go_ret
    exact ⟨ret_bool (by simp), B7.out⟩
  | true =>
  go_enter Try.func168, Try.ntmps168
  go_wp2_with (first
    | ((with_reducible refine wpList_load_oneG ?qqg763 3 ?qqx763 ?qqo763 w.heap.size 0 ?qqh763 (.int .i64 z0) Try.rObj_int (OA.out.cell 0 _ E0.out) ?_); (case qqg763 => rfl); (case qqo763 => rfl); (case qqh763 => simp [Act.eval, Act.put]))
    )
  refine (HK0.out _ BA.out).mono ?_
  rintro e w0 ⟨rfl, hb0⟩
  have O0 := uhide (OA.out.below hb0)
  have B0 : Hid (Below w.heap.size w w0) := BA.out.trans (hb0.mono BA.out.size)
  clear hb0
  go_wp2_with (first
    | ((with_reducible refine wpList_load_oneG ?qqg780 9 ?qqx780 ?qqo780 w.heap.size 1 ?qqh780 (.string z1) Try.rObj_string (O0.out.cell 1 _ E1.out) ?_); (case qqg780 => rfl); (case qqo780 => rfl); (case qqh780 => simp [Act.eval, Act.put]))
    )
  refine (HK1.out _ B0.out).mono ?_
  rintro e w1 ⟨rfl, hb1⟩
  have O1 := uhide (O0.out.below hb1)
  have B1 : Hid (Below w.heap.size w w1) := B0.out.trans (hb1.mono B0.out.size)
  clear hb1
  go_wp2_with (first
    | ((with_reducible refine wpList_load_oneG ?qqg801 25 ?qqx801 ?qqo801 w.heap.size 6 ?qqh801 ((.slice a6 n6 cp6)) Try.rObj_Lstring (O1.out.cell 6 _ E6.out) ?_); (case qqg801 => rfl); (case qqo801 => rfl); (case qqh801 => simp [Act.eval, Act.put]))
    )
  refine (HK2.out _ B1.out).mono ?_
  rintro e w2 ⟨rfl, hb2⟩
  have O2 := uhide (O1.out.below hb2)
  have B2 : Hid (Below w.heap.size w w2) := B1.out.trans (hb2.mono B1.out.size)
  clear hb2
  go_wp2_with (first
    | ((with_reducible refine wpList_load_oneG ?qqg813 3 ?qqx813 ?qqo813 w.heap.size 2 ?qqh813 (.int .i64 z2) Try.rObj_int (O2.out.cell 2 _ E2.out) ?_); (case qqg813 => rfl); (case qqo813 => rfl); (case qqh813 => simp [Act.eval, Act.put]))
    )
  refine (HK3.out _ B2.out).mono ?_
  rintro e w3 ⟨rfl, hb3⟩
  have O3 := uhide (O2.out.below hb3)
  have B3 : Hid (Below w.heap.size w w3) := B2.out.trans (hb3.mono B2.out.size)
  clear hb3
  go_wp2_with (first
    | ((with_reducible refine wpList_load_oneG ?qqg830 3 ?qqx830 ?qqo830 w.heap.size 3 ?qqh830 (.int .i64 z3) Try.rObj_int (O3.out.cell 3 _ E3.out) ?_); (case qqg830 => rfl); (case qqo830 => rfl); (case qqh830 => simp [Act.eval, Act.put]))
    )
  refine (HK4.out _ B3.out).mono ?_
  rintro e w4 ⟨rfl, hb4⟩
  have O4 := uhide (O3.out.below hb4)
  have B4 : Hid (Below w.heap.size w w4) := B3.out.trans (hb4.mono B3.out.size)
  clear hb4
  go_wp2_with (first
    | ((with_reducible refine wpList_load_oneG ?qqg846 3 ?qqx846 ?qqo846 w.heap.size 3 ?qqh846 (.int .i64 z3) Try.rObj_int (O4.out.cell 3 _ E3.out) ?_); (case qqg846 => rfl); (case qqo846 => rfl); (case qqh846 => simp [Act.eval, Act.put]))
    | ((with_reducible refine wpList_load_oneG ?qqg847 3 ?qqx847 ?qqo847 w.heap.size 4 ?qqh847 (.int .i64 z4) Try.rObj_int (O4.out.cell 4 _ E4.out) ?_); (case qqg847 => rfl); (case qqo847 => rfl); (case qqh847 => simp [Act.eval, Act.put]))
    )
  refine (HK5.out _ B4.out).mono ?_
  rintro e w5 ⟨rfl, hb5⟩
  have O5 := uhide (O4.out.below hb5)
  have B5 : Hid (Below w.heap.size w w5) := B4.out.trans (hb5.mono B4.out.size)
  clear hb5
  go_wp2_with (first
    | ((with_reducible refine wpList_load_rowG ?qqg866 134 ?qqx866 ?qqo866 w.heap.size 7 ?qqh866 y7 Try.rObj_impl_Value YZ7.out (O5.out.range 7 _ E7.out) ?_); (case qqg866 => rfl); (case qqo866 => rfl); (case qqh866 => simp [Act.eval, Act.put]))
    )
  refine (HK6.out _ B5.out).mono ?_
  rintro e w6 ⟨rfl, hb6⟩
  have O6 := uhide (O5.out.below hb6)
  have B6 : Hid (Below w.heap.size w w6) := B5.out.trans (hb6.mono B5.out.size)
  clear hb6
  go_wp2_with (first
    | ((with_reducible refine wpList_load_rowG ?qqg883 134 ?qqx883 ?qqo883 w.heap.size 12 ?qqh883 y8 Try.rObj_impl_Value YZ8.out (O6.out.range 12 _ E8.out) ?_); (case qqg883 => rfl); (case qqo883 => rfl); (case qqh883 => simp [Act.eval, Act.put]))
    )
  refine (HK7.out _ B6.out).mono ?_
  rintro e w7 ⟨rfl, hb7⟩
  have O7 := uhide (O6.out.below hb7)
  have B7 : Hid (Below w.heap.size w w7) := B6.out.trans (hb7.mono B6.out.size)
  clear hb7
  go_wp2
  go_ret
  exact ⟨ret_bool (by simp), B7.out⟩
end Go.Proofs.Ytdnodaoeflbfkaa
