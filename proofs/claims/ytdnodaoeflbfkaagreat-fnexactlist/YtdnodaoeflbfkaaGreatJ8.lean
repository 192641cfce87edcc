/- Texts of one claim, joined: each in its own section, in build order. -/
import Derived.Test.YtdnodaoeflbfkaaGreatJ7
/- Bases: the specification's look at one. -/
namespace Go.Proofs.YtdnodaoeflbfkaaGreat
open Go.RowKit Go.BigFrame
set_option linter.unusedVariables false
set_option linter.unusedSimpArgs false

theorem cell_below {w w' : World} {b o : Nat} {v : Value} (h : w.cell? ⟨b, o, none⟩ = some v) (hb : Below w.heap.size w w') : w'.cell? ⟨b, o, none⟩ = some v := (hb.cell (p := ⟨b, o, none⟩) (World.block_lt_of_cell? _ _ h)).trans h
theorem yieldsIf_load_cell {P : Program} {ops : Array Oper} {S : World → Prop} {op : Oper} {a : Act} (hw : Region.wanted op (yielded ops a.tmps) = true) (t : TypeId) (x : Operand) (ho : op.op = .load t x)
    (b o : Nat) (hx : a.eval x = .pointer (some ⟨b, o, none⟩)) (v : Value) (hS : ∀ w, S w → w.cell? ⟨b, o, none⟩ = some v) (hu : (P.underlying t).map TypeDesc.isRow = some false) : YieldsIf P ops S op v a :=
  .inl ⟨hw, fun w hs => by
    have hl : Sem.run P (Instr.loadAt t (.pointer (some ⟨b, o, none⟩))) w = .ok v w := by
      cases hd : P.underlying t with
      | none => rw [hd] at hu; cases hu
      | some d =>
        rw [hd] at hu
        have hagg : (isAgg t).run P w = .ok false w := by
          unfold isAgg
          rw [Sem.run_bind, run_underlying hd w]
          cases d <;> simp_all [TypeDesc.isRow]
        simp only [Instr.loadAt, Instr.sureAddr, Sem.run_bind, Sem.run_pure, Result.andThen_ok, loadVar, hagg, Bool.false_eq_true, if_false, run_load, hS w hs]
    unfold execOp
    simp only [ho, Sem.run_bind, Sem.run_pure, hx, hl, Result.andThen_ok]⟩
def goneU : UD → Bool
  | .p _ (.p (.bool z) _) => z
  | _ => false
def chO (r : UD) : UD := r.dropN 2
def okL (cs : UD) (rev next : Int) (i : Nat) : Prop := (objB (chO (rowU cs 19 i)) rev next && (goneU (rowU cs 19 i) || !(endsB (chO (rowU cs 19 i))))) = true ∧ revU (chO (rowU cs 19 i)) = kindU (rowU cs 19 i) ∧ (0 < i → kindU (rowU cs 19 (i - 1)) < kindU (rowU cs 19 i))
noncomputable def logB (cs : UD) (n : Nat) (rev next : Int) : Bool := @decide (∀ i, i < n → okL cs rev next i) (Classical.propDecidable _)
theorem logB_bad {cs : UD} {n : Nat} {rev next : Int} {i : Nat} (hi : i < n) (h : ¬ okL cs rev next i) : logB cs n rev next = false := by
  unfold logB; exact @decide_eq_false _ (Classical.propDecidable _) (fun g => h (g i hi))
theorem logB_end {cs : UD} {n : Nat} {rev next : Int} (h : ∀ i, i < n → okL cs rev next i) : logB cs n rev next = true := by
  unfold logB; exact @decide_eq_true _ (Classical.propDecidable _) h
/-- a change's cells -/
theorem change_cells {w : World} {lo hi : Nat} {d : UD} {xs : List Value} (ht : tyL d (uE 9)) (hx : uH w lo hi d xs) : xs[0]? = some (.int .i64 (kindU d)) ∧ xs[1]? = some (.bool (goneU d)) ∧ ∃ os, xs = .int .i64 (kindU d) :: .bool (goneU d) :: os ∧ tyL (chO d) (uE 8) ∧ uH w lo hi (chO d) os := by
  replace ht : tyL d (.i .i64 :: .b :: uE 8) := ht
  obtain ⟨z0, r, rfl, -, h0⟩ := tyL.i ht
  obtain ⟨z1, r, rfl, h1⟩ := tyL.b h0
  obtain ⟨_, rfl, _, rfl, hx⟩ := hx
  have e : chO (UD.p (.int .i64 z0) (UD.p (.bool z1) r)) = r := by
    show UD.ofL r.toL = r
    exact UD.ofL_toL r
  exact ⟨rfl, rfl, _, rfl, by rw [e]; exact h1, by rw [e]; exact hx⟩
noncomputable def baseB (n0 : Nat) (c0 : UD) (rev next : Int) (n : Nat) (cs : UD) : Bool := inB rev 0 1000000 && inB next 1 1000000 && decide (n ≤ 40) && objsB c0 n0 rev next && logB cs n rev next
set_option maxRecDepth 40000 in
set_option maxHeartbeats 6400000 in
theorem sBaseOk_of {lo hi : Nat} (n0 : Nat) (c0 : UD) (rev next : Int) (n : Nat) (cs : UD) (v0 v3 : Value) (w : World) (g0 : tyS 17 n0 c0 8) (g3 : tyS 19 n cs 9) (s0 : uS w lo hi 17 n0 c0 v0) (s3 : uS w lo hi 19 n cs v3) :
    Calls Tryz.prog 89 #[.agg #[v0, .int .i64 rev, .int .i64 next, v3]] w fun e w' => e = .returned (.bool (baseB n0 c0 rev next n cs)) ∧ Below w.heap.size w w' := by
  obtain ⟨a3, cap, rfl, s3c⟩ := s3
  have Hx : Hid (uS w lo hi 19 n cs (.slice a3 n cap)) := ⟨a3, cap, rfl, s3c⟩
  have Ht := uhide g3
  have hmx := g3.2.2.1
  unfold maxLen at hmx
  obtain ⟨k0, hk0⟩ : ∃ k, k = inB rev 0 1000000 := ⟨_, rfl⟩
  obtain ⟨k1, hk1⟩ : ∃ k, k = inB next 1 1000000 := ⟨_, rfl⟩
  obtain ⟨k3, hk3⟩ : ∃ k, k = objsB c0 n0 rev next := ⟨_, rfl⟩
  have HK0 : Hid (∀ wx : World, Below w.heap.size w wx → Calls Tryz.prog 98 #[.int .i64 rev, .int .i64 0, .int .i64 1000000] wx fun e w' => e = .returned (.bool k0) ∧ Below wx.heap.size wx w') := fun wx hb => hk0 ▸ (l1In_any _ _ _ wx).mono fun e w' h => ⟨h.1, h.2 ▸ Below.refl _ _⟩
  have HK1 : Hid (∀ wx : World, Below w.heap.size w wx → Calls Tryz.prog 98 #[.int .i64 next, .int .i64 1, .int .i64 1000000] wx fun e w' => e = .returned (.bool k1) ∧ Below wx.heap.size wx w') := fun wx hb => hk1 ▸ (l1In_any _ _ _ wx).mono fun e w' h => ⟨h.1, h.2 ▸ Below.refl _ _⟩
  have HN : Hid (k1 = true → -9223372036854775807 ≤ next ∧ next ≤ 9223372036854775807) := fun h => by
    rw [hk1] at h
    unfold inB at h
    simp at h
    omega
  have HK3 : Hid (k1 = true → ∀ wx : World, Below w.heap.size w wx → Calls Tryz.prog 167 #[v0, .int .i64 rev, .int .i64 next] wx fun e w' => e = .returned (.bool k3) ∧ Below wx.heap.size wx w') := fun h wx hb => hk3 ▸ l7Objs_any n0 c0 v0 rev next wx g0 (s0.below hb) (HN.out h).1 (HN.out h).2
  have OA : Hid (objU (w.alloc (.cells #[v0, .int .i64 rev, .int .i64 next, .slice a3 n cap] 69)) w.heap.size 69 [v0, .int .i64 rev, .int .i64 next, .slice a3 n cap]) := objU.new2 _ _ rfl
  have BA : Hid (Below w.heap.size w (w.alloc (.cells #[v0, .int .i64 rev, .int .i64 next, .slice a3 n cap] 69))) := (Below.refl _ _).alloc (Nat.le_refl _) _
  unfold baseB
  rw [← hk0, ← hk1, ← hk3]
  clear hk0 hk1 hk3 s0 g0 g3 s3c
  cases k0 with
  | false =>
    go_enter Tryz.func89, Tryz.ntmps89
    go_wp2_with (first
      | ((with_reducible refine wpList_load_oneG ?qqg75 63 ?qqx75 ?qqo75 w.heap.size 0 ?qqh75 (v0) Tryz.rBase_Limpl_Obj (OA.out.cell 0 _ rfl) ?_); (case qqg75 => rfl); (case qqo75 => rfl); (case qqh75 => simp [Act.eval, Act.put]))
      | ((with_reducible refine wpList_load_oneG ?qqg76 3 ?qqx76 ?qqo76 w.heap.size 1 ?qqh76 (.int .i64 rev) Tryz.rBase_int (OA.out.cell 1 _ rfl) ?_); (case qqg76 => rfl); (case qqo76 => rfl); (case qqh76 => simp [Act.eval, Act.put]))
      | ((with_reducible refine wpList_load_oneG ?qqg77 3 ?qqx77 ?qqo77 w.heap.size 2 ?qqh77 (.int .i64 next) Tryz.rBase_int (OA.out.cell 2 _ rfl) ?_); (case qqg77 => rfl); (case qqo77 => rfl); (case qqh77 => simp [Act.eval, Act.put]))
      | ((with_reducible refine wpList_load_oneG ?qqg78 67 ?qqx78 ?qqo78 w.heap.size 3 ?qqh78 (.slice a3 n cap) Tryz.rBase_Limpl_Change (OA.out.cell 3 _ rfl) ?_); (case qqg78 => rfl); (case qqo78 => rfl); (case qqh78 => simp [Act.eval, Act.put]))
      | ((with_reducible refine wpList_load_oneG ?qqg79 63 ?qqx79 ?qqo79 w.heap.size 0 ?qqh79 (v0) Tryz.rBase_Limpl_Obj (OA.out.cell 0 _ rfl) ?_); (case qqg79 => rfl); (case qqo79 => rfl); (case qqh79 => simp [Act.eval, Act.put]))
      | ((with_reducible refine wpList_load_oneG ?qqg80 3 ?qqx80 ?qqo80 w.heap.size 1 ?qqh80 (.int .i64 rev) Tryz.rBase_int (OA.out.cell 1 _ rfl) ?_); (case qqg80 => rfl); (case qqo80 => rfl); (case qqh80 => simp [Act.eval, Act.put]))
      | ((with_reducible refine wpList_load_oneG ?qqg81 3 ?qqx81 ?qqo81 w.heap.size 2 ?qqh81 (.int .i64 next) Tryz.rBase_int (OA.out.cell 2 _ rfl) ?_); (case qqg81 => rfl); (case qqo81 => rfl); (case qqh81 => simp [Act.eval, Act.put]))
      | ((with_reducible refine wpList_load_oneG ?qqg82 67 ?qqx82 ?qqo82 w.heap.size 3 ?qqh82 (.slice a3 n cap) Tryz.rBase_Limpl_Change (OA.out.cell 3 _ rfl) ?_); (case qqg82 => rfl); (case qqo82 => rfl); (case qqh82 => simp [Act.eval, Act.put]))
      )
    refine (HK0.out _ BA.out).mono ?_
    rintro e w0 ⟨rfl, hb0⟩
    have O0 := uhide (OA.out.below hb0)
    have B0 : Hid (Below w.heap.size w w0) := BA.out.trans (hb0.mono BA.out.size)
    clear hb0
    go_wp2
    go_ret
    exact ⟨ret_bool (by simp), B0.out⟩
  | true =>
  cases k1 with
  | false =>
    go_enter Tryz.func89, Tryz.ntmps89
    go_wp2_with (first
      | ((with_reducible refine wpList_load_oneG ?qqg97 63 ?qqx97 ?qqo97 w.heap.size 0 ?qqh97 (v0) Tryz.rBase_Limpl_Obj (OA.out.cell 0 _ rfl) ?_); (case qqg97 => rfl); (case qqo97 => rfl); (case qqh97 => simp [Act.eval, Act.put]))
      | ((with_reducible refine wpList_load_oneG ?qqg98 3 ?qqx98 ?qqo98 w.heap.size 1 ?qqh98 (.int .i64 rev) Tryz.rBase_int (OA.out.cell 1 _ rfl) ?_); (case qqg98 => rfl); (case qqo98 => rfl); (case qqh98 => simp [Act.eval, Act.put]))
      | ((with_reducible refine wpList_load_oneG ?qqg99 3 ?qqx99 ?qqo99 w.heap.size 2 ?qqh99 (.int .i64 next) Tryz.rBase_int (OA.out.cell 2 _ rfl) ?_); (case qqg99 => rfl); (case qqo99 => rfl); (case qqh99 => simp [Act.eval, Act.put]))
      | ((with_reducible refine wpList_load_oneG ?qqg100 67 ?qqx100 ?qqo100 w.heap.size 3 ?qqh100 (.slice a3 n cap) Tryz.rBase_Limpl_Change (OA.out.cell 3 _ rfl) ?_); (case qqg100 => rfl); (case qqo100 => rfl); (case qqh100 => simp [Act.eval, Act.put]))
      | ((with_reducible refine wpList_load_oneG ?qqg101 63 ?qqx101 ?qqo101 w.heap.size 0 ?qqh101 (v0) Tryz.rBase_Limpl_Obj (OA.out.cell 0 _ rfl) ?_); (case qqg101 => rfl); (case qqo101 => rfl); (case qqh101 => simp [Act.eval, Act.put]))
      | ((with_reducible refine wpList_load_oneG ?qqg102 3 ?qqx102 ?qqo102 w.heap.size 1 ?qqh102 (.int .i64 rev) Tryz.rBase_int (OA.out.cell 1 _ rfl) ?_); (case qqg102 => rfl); (case qqo102 => rfl); (case qqh102 => simp [Act.eval, Act.put]))
      | ((with_reducible refine wpList_load_oneG ?qqg103 3 ?qqx103 ?qqo103 w.heap.size 2 ?qqh103 (.int .i64 next) Tryz.rBase_int (OA.out.cell 2 _ rfl) ?_); (case qqg103 => rfl); (case qqo103 => rfl); (case qqh103 => simp [Act.eval, Act.put]))
      | ((with_reducible refine wpList_load_oneG ?qqg104 67 ?qqx104 ?qqo104 w.heap.size 3 ?qqh104 (.slice a3 n cap) Tryz.rBase_Limpl_Change (OA.out.cell 3 _ rfl) ?_); (case qqg104 => rfl); (case qqo104 => rfl); (case qqh104 => simp [Act.eval, Act.put]))
      )
    refine (HK0.out _ BA.out).mono ?_
    rintro e w0 ⟨rfl, hb0⟩
    have O0 := uhide (OA.out.below hb0)
    have B0 : Hid (Below w.heap.size w w0) := BA.out.trans (hb0.mono BA.out.size)
    clear hb0
    go_wp2_with (first
      | ((with_reducible refine wpList_load_oneG ?qqg112 63 ?qqx112 ?qqo112 w.heap.size 0 ?qqh112 (v0) Tryz.rBase_Limpl_Obj (O0.out.cell 0 _ rfl) ?_); (case qqg112 => rfl); (case qqo112 => rfl); (case qqh112 => simp [Act.eval, Act.put]))
      | ((with_reducible refine wpList_load_oneG ?qqg113 3 ?qqx113 ?qqo113 w.heap.size 1 ?qqh113 (.int .i64 rev) Tryz.rBase_int (O0.out.cell 1 _ rfl) ?_); (case qqg113 => rfl); (case qqo113 => rfl); (case qqh113 => simp [Act.eval, Act.put]))
      | ((with_reducible refine wpList_load_oneG ?qqg114 3 ?qqx114 ?qqo114 w.heap.size 2 ?qqh114 (.int .i64 next) Tryz.rBase_int (O0.out.cell 2 _ rfl) ?_); (case qqg114 => rfl); (case qqo114 => rfl); (case qqh114 => simp [Act.eval, Act.put]))
      | ((with_reducible refine wpList_load_oneG ?qqg115 67 ?qqx115 ?qqo115 w.heap.size 3 ?qqh115 (.slice a3 n cap) Tryz.rBase_Limpl_Change (O0.out.cell 3 _ rfl) ?_); (case qqg115 => rfl); (case qqo115 => rfl); (case qqh115 => simp [Act.eval, Act.put]))
      | ((with_reducible refine wpList_load_oneG ?qqg116 63 ?qqx116 ?qqo116 w.heap.size 0 ?qqh116 (v0) Tryz.rBase_Limpl_Obj (O0.out.cell 0 _ rfl) ?_); (case qqg116 => rfl); (case qqo116 => rfl); (case qqh116 => simp [Act.eval, Act.put]))
      | ((with_reducible refine wpList_load_oneG ?qqg117 3 ?qqx117 ?qqo117 w.heap.size 1 ?qqh117 (.int .i64 rev) Tryz.rBase_int (O0.out.cell 1 _ rfl) ?_); (case qqg117 => rfl); (case qqo117 => rfl); (case qqh117 => simp [Act.eval, Act.put]))
      | ((with_reducible refine wpList_load_oneG ?qqg118 3 ?qqx118 ?qqo118 w.heap.size 2 ?qqh118 (.int .i64 next) Tryz.rBase_int (O0.out.cell 2 _ rfl) ?_); (case qqg118 => rfl); (case qqo118 => rfl); (case qqh118 => simp [Act.eval, Act.put]))
      | ((with_reducible refine wpList_load_oneG ?qqg119 67 ?qqx119 ?qqo119 w.heap.size 3 ?qqh119 (.slice a3 n cap) Tryz.rBase_Limpl_Change (O0.out.cell 3 _ rfl) ?_); (case qqg119 => rfl); (case qqo119 => rfl); (case qqh119 => simp [Act.eval, Act.put]))
      )
    refine (HK1.out _ B0.out).mono ?_
    rintro e w1 ⟨rfl, hb1⟩
    have O1 := uhide (O0.out.below hb1)
    have B1 : Hid (Below w.heap.size w w1) := B0.out.trans (hb1.mono B0.out.size)
    clear hb1
    go_wp2
    go_ret
    exact ⟨ret_bool (by simp), B1.out⟩
  | true =>
  by_cases h40 : n ≤ 40
  rotate_left
  · have h4 : decide ((40 : Int) < (n : Int)) = true := by rw [decide_eq_true_eq]; omega
    have H40 := uhide h40
    clear h40
    go_enter Tryz.func89, Tryz.ntmps89
    go_wp2_with (first
      | ((with_reducible refine wpList_load_oneG ?qqg137 63 ?qqx137 ?qqo137 w.heap.size 0 ?qqh137 (v0) Tryz.rBase_Limpl_Obj (OA.out.cell 0 _ rfl) ?_); (case qqg137 => rfl); (case qqo137 => rfl); (case qqh137 => simp [Act.eval, Act.put]))
      | ((with_reducible refine wpList_load_oneG ?qqg138 3 ?qqx138 ?qqo138 w.heap.size 1 ?qqh138 (.int .i64 rev) Tryz.rBase_int (OA.out.cell 1 _ rfl) ?_); (case qqg138 => rfl); (case qqo138 => rfl); (case qqh138 => simp [Act.eval, Act.put]))
      | ((with_reducible refine wpList_load_oneG ?qqg139 3 ?qqx139 ?qqo139 w.heap.size 2 ?qqh139 (.int .i64 next) Tryz.rBase_int (OA.out.cell 2 _ rfl) ?_); (case qqg139 => rfl); (case qqo139 => rfl); (case qqh139 => simp [Act.eval, Act.put]))
      | ((with_reducible refine wpList_load_oneG ?qqg140 67 ?qqx140 ?qqo140 w.heap.size 3 ?qqh140 (.slice a3 n cap) Tryz.rBase_Limpl_Change (OA.out.cell 3 _ rfl) ?_); (case qqg140 => rfl); (case qqo140 => rfl); (case qqh140 => simp [Act.eval, Act.put]))
      | ((with_reducible refine wpList_load_oneG ?qqg141 63 ?qqx141 ?qqo141 w.heap.size 0 ?qqh141 (v0) Tryz.rBase_Limpl_Obj (OA.out.cell 0 _ rfl) ?_); (case qqg141 => rfl); (case qqo141 => rfl); (case qqh141 => simp [Act.eval, Act.put]))
      | ((with_reducible refine wpList_load_oneG ?qqg142 3 ?qqx142 ?qqo142 w.heap.size 1 ?qqh142 (.int .i64 rev) Tryz.rBase_int (OA.out.cell 1 _ rfl) ?_); (case qqg142 => rfl); (case qqo142 => rfl); (case qqh142 => simp [Act.eval, Act.put]))
      | ((with_reducible refine wpList_load_oneG ?qqg143 3 ?qqx143 ?qqo143 w.heap.size 2 ?qqh143 (.int .i64 next) Tryz.rBase_int (OA.out.cell 2 _ rfl) ?_); (case qqg143 => rfl); (case qqo143 => rfl); (case qqh143 => simp [Act.eval, Act.put]))
      | ((with_reducible refine wpList_load_oneG ?qqg144 67 ?qqx144 ?qqo144 w.heap.size 3 ?qqh144 (.slice a3 n cap) Tryz.rBase_Limpl_Change (OA.out.cell 3 _ rfl) ?_); (case qqg144 => rfl); (case qqo144 => rfl); (case qqh144 => simp [Act.eval, Act.put]))
      )
    refine (HK0.out _ BA.out).mono ?_
    rintro e w0 ⟨rfl, hb0⟩
    have O0 := uhide (OA.out.below hb0)
    have B0 : Hid (Below w.heap.size w w0) := BA.out.trans (hb0.mono BA.out.size)
    clear hb0
    go_wp2_with (first
      | ((with_reducible refine wpList_load_oneG ?qqg152 63 ?qqx152 ?qqo152 w.heap.size 0 ?qqh152 (v0) Tryz.rBase_Limpl_Obj (O0.out.cell 0 _ rfl) ?_); (case qqg152 => rfl); (case qqo152 => rfl); (case qqh152 => simp [Act.eval, Act.put]))
      | ((with_reducible refine wpList_load_oneG ?qqg153 3 ?qqx153 ?qqo153 w.heap.size 1 ?qqh153 (.int .i64 rev) Tryz.rBase_int (O0.out.cell 1 _ rfl) ?_); (case qqg153 => rfl); (case qqo153 => rfl); (case qqh153 => simp [Act.eval, Act.put]))
      | ((with_reducible refine wpList_load_oneG ?qqg154 3 ?qqx154 ?qqo154 w.heap.size 2 ?qqh154 (.int .i64 next) Tryz.rBase_int (O0.out.cell 2 _ rfl) ?_); (case qqg154 => rfl); (case qqo154 => rfl); (case qqh154 => simp [Act.eval, Act.put]))
      | ((with_reducible refine wpList_load_oneG ?qqg155 67 ?qqx155 ?qqo155 w.heap.size 3 ?qqh155 (.slice a3 n cap) Tryz.rBase_Limpl_Change (O0.out.cell 3 _ rfl) ?_); (case qqg155 => rfl); (case qqo155 => rfl); (case qqh155 => simp [Act.eval, Act.put]))
      | ((with_reducible refine wpList_load_oneG ?qqg156 63 ?qqx156 ?qqo156 w.heap.size 0 ?qqh156 (v0) Tryz.rBase_Limpl_Obj (O0.out.cell 0 _ rfl) ?_); (case qqg156 => rfl); (case qqo156 => rfl); (case qqh156 => simp [Act.eval, Act.put]))
      | ((with_reducible refine wpList_load_oneG ?qqg157 3 ?qqx157 ?qqo157 w.heap.size 1 ?qqh157 (.int .i64 rev) Tryz.rBase_int (O0.out.cell 1 _ rfl) ?_); (case qqg157 => rfl); (case qqo157 => rfl); (case qqh157 => simp [Act.eval, Act.put]))
      | ((with_reducible refine wpList_load_oneG ?qqg158 3 ?qqx158 ?qqo158 w.heap.size 2 ?qqh158 (.int .i64 next) Tryz.rBase_int (O0.out.cell 2 _ rfl) ?_); (case qqg158 => rfl); (case qqo158 => rfl); (case qqh158 => simp [Act.eval, Act.put]))
      | ((with_reducible refine wpList_load_oneG ?qqg159 67 ?qqx159 ?qqo159 w.heap.size 3 ?qqh159 (.slice a3 n cap) Tryz.rBase_Limpl_Change (O0.out.cell 3 _ rfl) ?_); (case qqg159 => rfl); (case qqo159 => rfl); (case qqh159 => simp [Act.eval, Act.put]))
      )
    refine (HK1.out _ B0.out).mono ?_
    rintro e w1 ⟨rfl, hb1⟩
    have O1 := uhide (O0.out.below hb1)
    have B1 : Hid (Below w.heap.size w w1) := B0.out.trans (hb1.mono B0.out.size)
    clear hb1
    go_wp2_with (first
      | ((with_reducible refine wpList_load_oneG ?qqg167 63 ?qqx167 ?qqo167 w.heap.size 0 ?qqh167 (v0) Tryz.rBase_Limpl_Obj (O1.out.cell 0 _ rfl) ?_); (case qqg167 => rfl); (case qqo167 => rfl); (case qqh167 => simp [Act.eval, Act.put]))
      | ((with_reducible refine wpList_load_oneG ?qqg168 3 ?qqx168 ?qqo168 w.heap.size 1 ?qqh168 (.int .i64 rev) Tryz.rBase_int (O1.out.cell 1 _ rfl) ?_); (case qqg168 => rfl); (case qqo168 => rfl); (case qqh168 => simp [Act.eval, Act.put]))
      | ((with_reducible refine wpList_load_oneG ?qqg169 3 ?qqx169 ?qqo169 w.heap.size 2 ?qqh169 (.int .i64 next) Tryz.rBase_int (O1.out.cell 2 _ rfl) ?_); (case qqg169 => rfl); (case qqo169 => rfl); (case qqh169 => simp [Act.eval, Act.put]))
      | ((with_reducible refine wpList_load_oneG ?qqg170 67 ?qqx170 ?qqo170 w.heap.size 3 ?qqh170 (.slice a3 n cap) Tryz.rBase_Limpl_Change (O1.out.cell 3 _ rfl) ?_); (case qqg170 => rfl); (case qqo170 => rfl); (case qqh170 => simp [Act.eval, Act.put]))
      | ((with_reducible refine wpList_load_oneG ?qqg171 63 ?qqx171 ?qqo171 w.heap.size 0 ?qqh171 (v0) Tryz.rBase_Limpl_Obj (O1.out.cell 0 _ rfl) ?_); (case qqg171 => rfl); (case qqo171 => rfl); (case qqh171 => simp [Act.eval, Act.put]))
      | ((with_reducible refine wpList_load_oneG ?qqg172 3 ?qqx172 ?qqo172 w.heap.size 1 ?qqh172 (.int .i64 rev) Tryz.rBase_int (O1.out.cell 1 _ rfl) ?_); (case qqg172 => rfl); (case qqo172 => rfl); (case qqh172 => simp [Act.eval, Act.put]))
      | ((with_reducible refine wpList_load_oneG ?qqg173 3 ?qqx173 ?qqo173 w.heap.size 2 ?qqh173 (.int .i64 next) Tryz.rBase_int (O1.out.cell 2 _ rfl) ?_); (case qqg173 => rfl); (case qqo173 => rfl); (case qqh173 => simp [Act.eval, Act.put]))
      | ((with_reducible refine wpList_load_oneG ?qqg174 67 ?qqx174 ?qqo174 w.heap.size 3 ?qqh174 (.slice a3 n cap) Tryz.rBase_Limpl_Change (O1.out.cell 3 _ rfl) ?_); (case qqg174 => rfl); (case qqo174 => rfl); (case qqh174 => simp [Act.eval, Act.put]))
      )
    go_ret
    exact ⟨ret_bool (by simp [H40.out]), B1.out⟩
  have h4 : decide ((40 : Int) < (n : Int)) = false := by rw [decide_eq_false_iff_not]; omega
  have H40 := uhide h40
  clear h40
  cases k3 with
  | false =>
    go_enter Tryz.func89, Tryz.ntmps89
    go_wp2_with (first
      | ((with_reducible refine wpList_load_oneG ?qqg185 63 ?qqx185 ?qqo185 w.heap.size 0 ?qqh185 (v0) Tryz.rBase_Limpl_Obj (OA.out.cell 0 _ rfl) ?_); (case qqg185 => rfl); (case qqo185 => rfl); (case qqh185 => simp [Act.eval, Act.put]))
      | ((with_reducible refine wpList_load_oneG ?qqg186 3 ?qqx186 ?qqo186 w.heap.size 1 ?qqh186 (.int .i64 rev) Tryz.rBase_int (OA.out.cell 1 _ rfl) ?_); (case qqg186 => rfl); (case qqo186 => rfl); (case qqh186 => simp [Act.eval, Act.put]))
      | ((with_reducible refine wpList_load_oneG ?qqg187 3 ?qqx187 ?qqo187 w.heap.size 2 ?qqh187 (.int .i64 next) Tryz.rBase_int (OA.out.cell 2 _ rfl) ?_); (case qqg187 => rfl); (case qqo187 => rfl); (case qqh187 => simp [Act.eval, Act.put]))
      | ((with_reducible refine wpList_load_oneG ?qqg188 67 ?qqx188 ?qqo188 w.heap.size 3 ?qqh188 (.slice a3 n cap) Tryz.rBase_Limpl_Change (OA.out.cell 3 _ rfl) ?_); (case qqg188 => rfl); (case qqo188 => rfl); (case qqh188 => simp [Act.eval, Act.put]))
      | ((with_reducible refine wpList_load_oneG ?qqg189 63 ?qqx189 ?qqo189 w.heap.size 0 ?qqh189 (v0) Tryz.rBase_Limpl_Obj (OA.out.cell 0 _ rfl) ?_); (case qqg189 => rfl); (case qqo189 => rfl); (case qqh189 => simp [Act.eval, Act.put]))
      | ((with_reducible refine wpList_load_oneG ?qqg190 3 ?qqx190 ?qqo190 w.heap.size 1 ?qqh190 (.int .i64 rev) Tryz.rBase_int (OA.out.cell 1 _ rfl) ?_); (case qqg190 => rfl); (case qqo190 => rfl); (case qqh190 => simp [Act.eval, Act.put]))
      | ((with_reducible refine wpList_load_oneG ?qqg191 3 ?qqx191 ?qqo191 w.heap.size 2 ?qqh191 (.int .i64 next) Tryz.rBase_int (OA.out.cell 2 _ rfl) ?_); (case qqg191 => rfl); (case qqo191 => rfl); (case qqh191 => simp [Act.eval, Act.put]))
      | ((with_reducible refine wpList_load_oneG ?qqg192 67 ?qqx192 ?qqo192 w.heap.size 3 ?qqh192 (.slice a3 n cap) Tryz.rBase_Limpl_Change (OA.out.cell 3 _ rfl) ?_); (case qqg192 => rfl); (case qqo192 => rfl); (case qqh192 => simp [Act.eval, Act.put]))
      )
    refine (HK0.out _ BA.out).mono ?_
    rintro e w0 ⟨rfl, hb0⟩
    have O0 := uhide (OA.out.below hb0)
    have B0 : Hid (Below w.heap.size w w0) := BA.out.trans (hb0.mono BA.out.size)
    clear hb0
    go_wp2_with (first
      | ((with_reducible refine wpList_load_oneG ?qqg200 63 ?qqx200 ?qqo200 w.heap.size 0 ?qqh200 (v0) Tryz.rBase_Limpl_Obj (O0.out.cell 0 _ rfl) ?_); (case qqg200 => rfl); (case qqo200 => rfl); (case qqh200 => simp [Act.eval, Act.put]))
      | ((with_reducible refine wpList_load_oneG ?qqg201 3 ?qqx201 ?qqo201 w.heap.size 1 ?qqh201 (.int .i64 rev) Tryz.rBase_int (O0.out.cell 1 _ rfl) ?_); (case qqg201 => rfl); (case qqo201 => rfl); (case qqh201 => simp [Act.eval, Act.put]))
      | ((with_reducible refine wpList_load_oneG ?qqg202 3 ?qqx202 ?qqo202 w.heap.size 2 ?qqh202 (.int .i64 next) Tryz.rBase_int (O0.out.cell 2 _ rfl) ?_); (case qqg202 => rfl); (case qqo202 => rfl); (case qqh202 => simp [Act.eval, Act.put]))
      | ((with_reducible refine wpList_load_oneG ?qqg203 67 ?qqx203 ?qqo203 w.heap.size 3 ?qqh203 (.slice a3 n cap) Tryz.rBase_Limpl_Change (O0.out.cell 3 _ rfl) ?_); (case qqg203 => rfl); (case qqo203 => rfl); (case qqh203 => simp [Act.eval, Act.put]))
      | ((with_reducible refine wpList_load_oneG ?qqg204 63 ?qqx204 ?qqo204 w.heap.size 0 ?qqh204 (v0) Tryz.rBase_Limpl_Obj (O0.out.cell 0 _ rfl) ?_); (case qqg204 => rfl); (case qqo204 => rfl); (case qqh204 => simp [Act.eval, Act.put]))
      | ((with_reducible refine wpList_load_oneG ?qqg205 3 ?qqx205 ?qqo205 w.heap.size 1 ?qqh205 (.int .i64 rev) Tryz.rBase_int (O0.out.cell 1 _ rfl) ?_); (case qqg205 => rfl); (case qqo205 => rfl); (case qqh205 => simp [Act.eval, Act.put]))
      | ((with_reducible refine wpList_load_oneG ?qqg206 3 ?qqx206 ?qqo206 w.heap.size 2 ?qqh206 (.int .i64 next) Tryz.rBase_int (O0.out.cell 2 _ rfl) ?_); (case qqg206 => rfl); (case qqo206 => rfl); (case qqh206 => simp [Act.eval, Act.put]))
      | ((with_reducible refine wpList_load_oneG ?qqg207 67 ?qqx207 ?qqo207 w.heap.size 3 ?qqh207 (.slice a3 n cap) Tryz.rBase_Limpl_Change (O0.out.cell 3 _ rfl) ?_); (case qqg207 => rfl); (case qqo207 => rfl); (case qqh207 => simp [Act.eval, Act.put]))
      )
    refine (HK1.out _ B0.out).mono ?_
    rintro e w1 ⟨rfl, hb1⟩
    have O1 := uhide (O0.out.below hb1)
    have B1 : Hid (Below w.heap.size w w1) := B0.out.trans (hb1.mono B0.out.size)
    clear hb1
    go_wp2_with (first
      | ((with_reducible refine wpList_load_oneG ?qqg215 63 ?qqx215 ?qqo215 w.heap.size 0 ?qqh215 (v0) Tryz.rBase_Limpl_Obj (O1.out.cell 0 _ rfl) ?_); (case qqg215 => rfl); (case qqo215 => rfl); (case qqh215 => simp [Act.eval, Act.put]))
      | ((with_reducible refine wpList_load_oneG ?qqg216 3 ?qqx216 ?qqo216 w.heap.size 1 ?qqh216 (.int .i64 rev) Tryz.rBase_int (O1.out.cell 1 _ rfl) ?_); (case qqg216 => rfl); (case qqo216 => rfl); (case qqh216 => simp [Act.eval, Act.put]))
      | ((with_reducible refine wpList_load_oneG ?qqg217 3 ?qqx217 ?qqo217 w.heap.size 2 ?qqh217 (.int .i64 next) Tryz.rBase_int (O1.out.cell 2 _ rfl) ?_); (case qqg217 => rfl); (case qqo217 => rfl); (case qqh217 => simp [Act.eval, Act.put]))
      | ((with_reducible refine wpList_load_oneG ?qqg218 67 ?qqx218 ?qqo218 w.heap.size 3 ?qqh218 (.slice a3 n cap) Tryz.rBase_Limpl_Change (O1.out.cell 3 _ rfl) ?_); (case qqg218 => rfl); (case qqo218 => rfl); (case qqh218 => simp [Act.eval, Act.put]))
      | ((with_reducible refine wpList_load_oneG ?qqg219 63 ?qqx219 ?qqo219 w.heap.size 0 ?qqh219 (v0) Tryz.rBase_Limpl_Obj (O1.out.cell 0 _ rfl) ?_); (case qqg219 => rfl); (case qqo219 => rfl); (case qqh219 => simp [Act.eval, Act.put]))
      | ((with_reducible refine wpList_load_oneG ?qqg220 3 ?qqx220 ?qqo220 w.heap.size 1 ?qqh220 (.int .i64 rev) Tryz.rBase_int (O1.out.cell 1 _ rfl) ?_); (case qqg220 => rfl); (case qqo220 => rfl); (case qqh220 => simp [Act.eval, Act.put]))
      | ((with_reducible refine wpList_load_oneG ?qqg221 3 ?qqx221 ?qqo221 w.heap.size 2 ?qqh221 (.int .i64 next) Tryz.rBase_int (O1.out.cell 2 _ rfl) ?_); (case qqg221 => rfl); (case qqo221 => rfl); (case qqh221 => simp [Act.eval, Act.put]))
      | ((with_reducible refine wpList_load_oneG ?qqg222 67 ?qqx222 ?qqo222 w.heap.size 3 ?qqh222 (.slice a3 n cap) Tryz.rBase_Limpl_Change (O1.out.cell 3 _ rfl) ?_); (case qqg222 => rfl); (case qqo222 => rfl); (case qqh222 => simp [Act.eval, Act.put]))
      )
    refine (HK3.out (by first | rfl | trivial) _ B1.out).mono ?_
    rintro e w3 ⟨rfl, hb3⟩
    have O3 := uhide (O1.out.below hb3)
    have B3 : Hid (Below w.heap.size w w3) := B1.out.trans (hb3.mono B1.out.size)
    clear hb3
    go_wp2
    go_ret
    exact ⟨ret_bool (by simp), B3.out⟩
  | true =>
    go_enter Tryz.func89, Tryz.ntmps89
    go_wp2_with (first
      | ((with_reducible refine wpList_load_oneG ?qqg235 63 ?qqx235 ?qqo235 w.heap.size 0 ?qqh235 (v0) Tryz.rBase_Limpl_Obj (OA.out.cell 0 _ rfl) ?_); (case qqg235 => rfl); (case qqo235 => rfl); (case qqh235 => simp [Act.eval, Act.put]))
      | ((with_reducible refine wpList_load_oneG ?qqg236 3 ?qqx236 ?qqo236 w.heap.size 1 ?qqh236 (.int .i64 rev) Tryz.rBase_int (OA.out.cell 1 _ rfl) ?_); (case qqg236 => rfl); (case qqo236 => rfl); (case qqh236 => simp [Act.eval, Act.put]))
      | ((with_reducible refine wpList_load_oneG ?qqg237 3 ?qqx237 ?qqo237 w.heap.size 2 ?qqh237 (.int .i64 next) Tryz.rBase_int (OA.out.cell 2 _ rfl) ?_); (case qqg237 => rfl); (case qqo237 => rfl); (case qqh237 => simp [Act.eval, Act.put]))
      | ((with_reducible refine wpList_load_oneG ?qqg238 67 ?qqx238 ?qqo238 w.heap.size 3 ?qqh238 (.slice a3 n cap) Tryz.rBase_Limpl_Change (OA.out.cell 3 _ rfl) ?_); (case qqg238 => rfl); (case qqo238 => rfl); (case qqh238 => simp [Act.eval, Act.put]))
      | ((with_reducible refine wpList_load_oneG ?qqg239 63 ?qqx239 ?qqo239 w.heap.size 0 ?qqh239 (v0) Tryz.rBase_Limpl_Obj (OA.out.cell 0 _ rfl) ?_); (case qqg239 => rfl); (case qqo239 => rfl); (case qqh239 => simp [Act.eval, Act.put]))
      | ((with_reducible refine wpList_load_oneG ?qqg240 3 ?qqx240 ?qqo240 w.heap.size 1 ?qqh240 (.int .i64 rev) Tryz.rBase_int (OA.out.cell 1 _ rfl) ?_); (case qqg240 => rfl); (case qqo240 => rfl); (case qqh240 => simp [Act.eval, Act.put]))
      | ((with_reducible refine wpList_load_oneG ?qqg241 3 ?qqx241 ?qqo241 w.heap.size 2 ?qqh241 (.int .i64 next) Tryz.rBase_int (OA.out.cell 2 _ rfl) ?_); (case qqg241 => rfl); (case qqo241 => rfl); (case qqh241 => simp [Act.eval, Act.put]))
      | ((with_reducible refine wpList_load_oneG ?qqg242 67 ?qqx242 ?qqo242 w.heap.size 3 ?qqh242 (.slice a3 n cap) Tryz.rBase_Limpl_Change (OA.out.cell 3 _ rfl) ?_); (case qqg242 => rfl); (case qqo242 => rfl); (case qqh242 => simp [Act.eval, Act.put]))
      )
    refine (HK0.out _ BA.out).mono ?_
    rintro e w0 ⟨rfl, hb0⟩
    have O0 := uhide (OA.out.below hb0)
    have B0 : Hid (Below w.heap.size w w0) := BA.out.trans (hb0.mono BA.out.size)
    clear hb0
    go_wp2_with (first
      | ((with_reducible refine wpList_load_oneG ?qqg250 63 ?qqx250 ?qqo250 w.heap.size 0 ?qqh250 (v0) Tryz.rBase_Limpl_Obj (O0.out.cell 0 _ rfl) ?_); (case qqg250 => rfl); (case qqo250 => rfl); (case qqh250 => simp [Act.eval, Act.put]))
      | ((with_reducible refine wpList_load_oneG ?qqg251 3 ?qqx251 ?qqo251 w.heap.size 1 ?qqh251 (.int .i64 rev) Tryz.rBase_int (O0.out.cell 1 _ rfl) ?_); (case qqg251 => rfl); (case qqo251 => rfl); (case qqh251 => simp [Act.eval, Act.put]))
      | ((with_reducible refine wpList_load_oneG ?qqg252 3 ?qqx252 ?qqo252 w.heap.size 2 ?qqh252 (.int .i64 next) Tryz.rBase_int (O0.out.cell 2 _ rfl) ?_); (case qqg252 => rfl); (case qqo252 => rfl); (case qqh252 => simp [Act.eval, Act.put]))
      | ((with_reducible refine wpList_load_oneG ?qqg253 67 ?qqx253 ?qqo253 w.heap.size 3 ?qqh253 (.slice a3 n cap) Tryz.rBase_Limpl_Change (O0.out.cell 3 _ rfl) ?_); (case qqg253 => rfl); (case qqo253 => rfl); (case qqh253 => simp [Act.eval, Act.put]))
      | ((with_reducible refine wpList_load_oneG ?qqg254 63 ?qqx254 ?qqo254 w.heap.size 0 ?qqh254 (v0) Tryz.rBase_Limpl_Obj (O0.out.cell 0 _ rfl) ?_); (case qqg254 => rfl); (case qqo254 => rfl); (case qqh254 => simp [Act.eval, Act.put]))
      | ((with_reducible refine wpList_load_oneG ?qqg255 3 ?qqx255 ?qqo255 w.heap.size 1 ?qqh255 (.int .i64 rev) Tryz.rBase_int (O0.out.cell 1 _ rfl) ?_); (case qqg255 => rfl); (case qqo255 => rfl); (case qqh255 => simp [Act.eval, Act.put]))
      | ((with_reducible refine wpList_load_oneG ?qqg256 3 ?qqx256 ?qqo256 w.heap.size 2 ?qqh256 (.int .i64 next) Tryz.rBase_int (O0.out.cell 2 _ rfl) ?_); (case qqg256 => rfl); (case qqo256 => rfl); (case qqh256 => simp [Act.eval, Act.put]))
      | ((with_reducible refine wpList_load_oneG ?qqg257 67 ?qqx257 ?qqo257 w.heap.size 3 ?qqh257 (.slice a3 n cap) Tryz.rBase_Limpl_Change (O0.out.cell 3 _ rfl) ?_); (case qqg257 => rfl); (case qqo257 => rfl); (case qqh257 => simp [Act.eval, Act.put]))
      )
    refine (HK1.out _ B0.out).mono ?_
    rintro e w1 ⟨rfl, hb1⟩
    have O1 := uhide (O0.out.below hb1)
    have B1 : Hid (Below w.heap.size w w1) := B0.out.trans (hb1.mono B0.out.size)
    clear hb1
    go_wp2_with (first
      | ((with_reducible refine wpList_load_oneG ?qqg265 63 ?qqx265 ?qqo265 w.heap.size 0 ?qqh265 (v0) Tryz.rBase_Limpl_Obj (O1.out.cell 0 _ rfl) ?_); (case qqg265 => rfl); (case qqo265 => rfl); (case qqh265 => simp [Act.eval, Act.put]))
      | ((with_reducible refine wpList_load_oneG ?qqg266 3 ?qqx266 ?qqo266 w.heap.size 1 ?qqh266 (.int .i64 rev) Tryz.rBase_int (O1.out.cell 1 _ rfl) ?_); (case qqg266 => rfl); (case qqo266 => rfl); (case qqh266 => simp [Act.eval, Act.put]))
      | ((with_reducible refine wpList_load_oneG ?qqg267 3 ?qqx267 ?qqo267 w.heap.size 2 ?qqh267 (.int .i64 next) Tryz.rBase_int (O1.out.cell 2 _ rfl) ?_); (case qqg267 => rfl); (case qqo267 => rfl); (case qqh267 => simp [Act.eval, Act.put]))
      | ((with_reducible refine wpList_load_oneG ?qqg268 67 ?qqx268 ?qqo268 w.heap.size 3 ?qqh268 (.slice a3 n cap) Tryz.rBase_Limpl_Change (O1.out.cell 3 _ rfl) ?_); (case qqg268 => rfl); (case qqo268 => rfl); (case qqh268 => simp [Act.eval, Act.put]))
      | ((with_reducible refine wpList_load_oneG ?qqg269 63 ?qqx269 ?qqo269 w.heap.size 0 ?qqh269 (v0) Tryz.rBase_Limpl_Obj (O1.out.cell 0 _ rfl) ?_); (case qqg269 => rfl); (case qqo269 => rfl); (case qqh269 => simp [Act.eval, Act.put]))
      | ((with_reducible refine wpList_load_oneG ?qqg270 3 ?qqx270 ?qqo270 w.heap.size 1 ?qqh270 (.int .i64 rev) Tryz.rBase_int (O1.out.cell 1 _ rfl) ?_); (case qqg270 => rfl); (case qqo270 => rfl); (case qqh270 => simp [Act.eval, Act.put]))
      | ((with_reducible refine wpList_load_oneG ?qqg271 3 ?qqx271 ?qqo271 w.heap.size 2 ?qqh271 (.int .i64 next) Tryz.rBase_int (O1.out.cell 2 _ rfl) ?_); (case qqg271 => rfl); (case qqo271 => rfl); (case qqh271 => simp [Act.eval, Act.put]))
      | ((with_reducible refine wpList_load_oneG ?qqg272 67 ?qqx272 ?qqo272 w.heap.size 3 ?qqh272 (.slice a3 n cap) Tryz.rBase_Limpl_Change (O1.out.cell 3 _ rfl) ?_); (case qqg272 => rfl); (case qqo272 => rfl); (case qqh272 => simp [Act.eval, Act.put]))
      )
    refine (HK3.out (by first | rfl | trivial) _ B1.out).mono ?_
    rintro e w3 ⟨rfl, hb3⟩
    have O3 := uhide (O1.out.below hb3)
    have B3 : Hid (Below w.heap.size w w3) := B1.out.trans (hb3.mono B1.out.size)
    clear hb3
    go_wp2
    go_loopw [3] (fun i wr => ∃ (q : Nat), q ≤ n ∧ i = .int .i64 q ∧ Hid (∀ j, j < q → okL cs rev next j) ∧ Hid (objU wr w.heap.size 69 [v0, .int .i64 rev, .int .i64 next, .slice a3 n cap]) ∧ Hid (Below w.heap.size w wr)) (fun i _ => n - (intOf i).toNat)
    case atStart => exact ⟨0, Nat.zero_le _, rfl, fun j hj => by omega, O3, B3⟩
    case round =>
      obtain ⟨q, hq, rfl, Ho, OW, hbw⟩ := hrel
      have cb3 := OW.out.cell 3 _ rfl
      by_cases hlt : q < n
      · obtain ⟨b, off, rfl, hbb, hm⟩ := (Hx.out.below hbw.out).cells (by omega)
        have htr := Ht.out.row hlt
        obtain ⟨xs, hh, hcl⟩ := (hm.row 19 q).hand
        obtain ⟨hc0, hc1, os, hxs, hto, hho⟩ := change_cells htr hh
        have hoc := (obj_cells hto hho).2.2.2.1
        have hol : os.length = 17 := by rw [hho.len, tyL.len hto]; rfl
        have hxl : xs.length = 19 := by rw [hxs]; simp [hol]
        have one := one_cell htr hh
        have ONE := uhide one
        have HIX : Hid ((Tryz.prog.info? 140).map (·.size) = some xs.length) := by show _ = _; rw [hxl]; exact Tryz.zChange_impl_Change
        have HI1 : Hid ((Tryz.prog.info? 138).map (·.size) = some os.length) := by show _ = _; rw [hol]; exact Tryz.zObj_impl_Obj
        have RX : Hid (wr.rangeAt b (off + q * 19) xs) := hcl
        have TH : Hid ((wr.alloc (.cells ([.int .i64 0, .bool false, .int .i64 0, .string ⟨#[]⟩, .int .i64 0, .int .i64 0, .int .i64 0, .bool false, .slice none 0 0, .int .i64 0, .string ⟨#[]⟩, .int .i64 0, .slice none 0 0, .slice none 0 0, .int .i64 0, .string ⟨#[]⟩, .int .i64 0, .slice none 0 0, .slice none 0 0] : List Value).toArray 140)).there wr.heap.size 0 xs.length) := by rw [hxl]; exact (objU.new2 _ _ rfl).there 0 19 (by decide)
        have HOX : Hid (∀ wy, wy = (wr.alloc (.cells ([.int .i64 0, .bool false, .int .i64 0, .string ⟨#[]⟩, .int .i64 0, .int .i64 0, .int .i64 0, .bool false, .slice none 0 0, .int .i64 0, .string ⟨#[]⟩, .int .i64 0, .slice none 0 0, .slice none 0 0, .int .i64 0, .string ⟨#[]⟩, .int .i64 0, .slice none 0 0, .slice none 0 0] : List Value).toArray 140)).setCells wr.heap.size 0 xs → objU wy wr.heap.size 140 xs ∧ objU wy w.heap.size 69 [v0, .int .i64 rev, .int .i64 next, .slice (some ⟨b, off, none⟩) n cap] ∧ Below wr.heap.size wr wy) := fun wy e => by
          subst e
          have h1 := objU.setCells (t := 140) xs ([.int .i64 0, .bool false, .int .i64 0, .string ⟨#[]⟩, .int .i64 0, .int .i64 0, .int .i64 0, .bool false, .slice none 0 0, .int .i64 0, .string ⟨#[]⟩, .int .i64 0, .slice none 0 0, .slice none 0 0, .int .i64 0, .string ⟨#[]⟩, .int .i64 0, .slice none 0 0, .slice none 0 0]) [] [] _ (objU.new2 (w := wr) _ _ rfl) (by rw [hxl]; rfl)
          refine ⟨by simpa using h1, (OW.out.old _).outS (OutS.setCells _ _ _) (by have := OW.out.lt; simp; omega), ?_⟩
          exact ((Below.refl _ _).alloc (Nat.le_refl _) _).trans ((OutS.setCells _ _ _).below (fun t ht => by simp at ht; omega) (by simp))
        have hq0 : (0 : Int) ≤ (q : Int) := Int.natCast_nonneg _
        have hqn : (q : Int) < (n : Int) := by omega
        clear hcl one
        have hlo := hxs
        obtain ⟨gone, hgo⟩ : ∃ g, g = goneU (rowU cs 19 q) := ⟨_, rfl⟩
        obtain ⟨crv, hcr⟩ : ∃ g, g = kindU (rowU cs 19 q) := ⟨_, rfl⟩
        obtain ⟨orv, hor⟩ : ∃ g, g = revU (chO (rowU cs 19 q)) := ⟨_, rfl⟩
        obtain ⟨ob, hob⟩ : ∃ g, g = (objB (chO (rowU cs 19 q)) rev next && (gone || !(endsB (chO (rowU cs 19 q))))) := ⟨_, rfl⟩
        have HCO : Hid (∀ wx, Below wr.heap.size wr wx → Calls Tryz.prog 168 #[.agg os.toArray, .int .i64 rev, .int .i64 next, .bool gone] wx fun e w' => e = .returned (.bool ob) ∧ Hid (Below wx.heap.size wx w')) := fun wx hb => (hob ▸ l7Obj_any (lo := lo) (hi := hi) _ os rev next gone wx hto (hho.below hb) (HN.out (by first | rfl | trivial)).1 (HN.out (by first | rfl | trivial)).2).mono fun e w' h => ⟨h.1, h.2⟩
        have hx0 : xs[0]? = some (.int .i64 crv) := by rw [hcr]; exact hc0
        have hx1 : xs[1]? = some (.bool gone) := by rw [hgo]; exact hc1
        have hx5 : xs[5]? = some (.int .i64 orv) := by rw [hxs, hor]; simpa using hoc
        have hxo : ∀ i v, os[i]? = some v → xs[2 + i]? = some v := fun i v h => by rw [hxs, show 2 + i = i + 1 + 1 by omega]; simpa using h
        have HBAD : Hid ((ob = false ∨ orv ≠ crv ∨ (0 < q ∧ ¬ kindU (rowU cs 19 (q - 1)) < crv)) → logB cs n rev next = false) := fun h => logB_bad hlt (fun g => by
          rcases h with h | h | ⟨h1, h2⟩
          · rw [hob, hgo, g.1] at h; cases h
          · exact h (by rw [hor, hcr]; exact g.2.1)
          · exact h2 (by rw [hcr]; exact g.2.2 h1))
        have HOKK : Hid (ob = true → orv = crv → (0 < q → kindU (rowU cs 19 (q - 1)) < crv) → ∀ j, j < q + 1 → okL cs rev next j) := fun h1 h2 h3 j hj => by
          by_cases e : j = q
          · subst e
            exact ⟨by rw [← hgo, ← hob]; exact h1, by rw [← hor, ← hcr]; exact h2, fun h => by rw [← hcr]; exact h3 h⟩
          · exact Ho.out j (by omega)
        have X0 := uhide hx0
        have X1 := uhide hx1
        have X5 := uhide hx5
        have XO := uhide hxo
        have HM := uhide hm
        clear hc0 hc1 hxs hlo hto hho hoc hol hxl hh hx0 hx1 hx5 hxo hgo hcr hor hob htr Ho OW hm
        go_wp2_with (first
          | ((with_reducible refine wpList_load_row2 ?qqg334 140 ?qqx334 ?qqo334 b (off + q * 19) ?qqh334 xs Tryz.rChange_impl_Change HIX.out RX.out ?_); (case qqg334 => rfl); (case qqo334 => rfl); (case qqh334 => simp [Act.eval, Act.put]))
          | ((with_reducible refine wpList_store_cells ?qqg335 140 ?qqx335 ?qqy335 ?qqo335 ?qqd335 wr.heap.size 0 ?qqh335 (.agg xs.toArray) ?qqv335 xs cells_agg ONE.out HIX.out TH.out ?_); (case qqg335 => rfl); (case qqo335 => rfl); (case qqd335 => rfl); (case qqh335 => simp [Act.eval, Act.put]); (case qqv335 => simp [Act.eval, Act.put]); intro wy ey; have HY := uhide (HOX.out wy ey); clear ey)
          )
        obtain ⟨hox, hob2, hbel⟩ := HY.out
        have C0 : Hid (wy.rangeAt wr.heap.size 2 os) := hox.range 2 os XO.out
        have C1 : Hid (wy.cell? ⟨w.heap.size, 1, none⟩ = some (.int .i64 rev)) := hob2.cell 1 _ rfl
        have C2 : Hid (wy.cell? ⟨w.heap.size, 2, none⟩ = some (.int .i64 next)) := hob2.cell 2 _ rfl
        have C3 : Hid (wy.cell? ⟨wr.heap.size, 1, none⟩ = some (.bool gone)) := hox.cell 1 _ X1.out
        have C4 : Hid (wy.cell? ⟨wr.heap.size, 5, none⟩ = some (.int .i64 orv)) := hox.cell 5 _ X5.out
        have C5 : Hid (wy.cell? ⟨wr.heap.size, 0, none⟩ = some (.int .i64 crv)) := hox.cell 0 _ X0.out
        have C6 : Hid (wy.cell? ⟨w.heap.size, 3, none⟩ = some (.slice (some ⟨b, off, none⟩) n cap)) := hob2.cell 3 _ rfl
        have HB1 : Hid (Below w.heap.size w wy) := hbw.out.trans (hbel.mono hbw.out.size)
        have HBEL := uhide hbel
        have Hcon : Hid (∀ wx, Below wy.heap.size wy wx → Calls Tryz.prog 168 #[.agg os.toArray, .int .i64 rev, .int .i64 next, .bool gone] wx fun e w' => e = .returned (.bool ob) ∧ Hid (Below wy.heap.size wy w')) := fun wx hb => (HCO.out wx (hbel.trans (hb.mono hbel.size))).mono fun e w' h => ⟨h.1, hb.trans (h.2.out.mono hb.size)⟩
        have HOW : Hid (∀ w', Below wy.heap.size wy w' → objU w' w.heap.size 69 [v0, .int .i64 rev, .int .i64 next, .slice (some ⟨b, off, none⟩) n cap]) := fun w' h => hob2.below h
        clear hox hob2 hbel HY HOX HCO TH RX ONE HIX X0 X1 X5 XO
        cases ob with
        | false =>
          have Hn := uhide (HBAD.out (.inl rfl))
          clear HBAD HOKK
          refine wp_region_held_drew (S := fun w' => w'.rangeAt wr.heap.size 2 os ∧ w'.cell? ⟨w.heap.size, 1, none⟩ = some (.int .i64 rev) ∧ w'.cell? ⟨w.heap.size, 2, none⟩ = some (.int .i64 next) ∧ w'.cell? ⟨wr.heap.size, 1, none⟩ = some (.bool gone) ∧ w'.cell? ⟨wr.heap.size, 5, none⟩ = some (.int .i64 orv) ∧ w'.cell? ⟨wr.heap.size, 0, none⟩ = some (.int .i64 crv)) (by kernel_rfl) ⟨range_below C0.out (Below.drew (Below.refl _ _)), cell_below C1.out (Below.drew (Below.refl _ _)), cell_below C2.out (Below.drew (Below.refl _ _)), cell_below C3.out (Below.drew (Below.refl _ _)), cell_below C4.out (Below.drew (Below.refl _ _)), cell_below C5.out (Below.drew (Below.refl _ _))⟩ (fun hHeld => ?_)
          refine wpAnyH_take (i := 0) (oi := ⟨some 43, .fieldAddr _ (.tmp 4) 2, _, _, _, _⟩) (v := .pointer (some ⟨wr.heap.size, 2, none⟩)) rfl (by kernel_rfl) (by kernel_rfl) (by kernel_rfl) (fun _ _ _ h => h) (Or.inl ⟨by rfl, by intro w hSw; go_simp⟩) hHeld ?_
          simp only [Act.put, List.setIfInBounds_toArray, List.set_cons_zero, List.set_cons_succ]
          refine wpAnyH_take (i := 1) (oi := ⟨some 44, .load _ (.tmp 43), _, _, _, _⟩) (v := .agg os.toArray) rfl (by kernel_rfl) (by kernel_rfl) (by kernel_rfl) (fun _ _ _ h => h) (yieldsIf_load_row (by rfl) 138 _ rfl (wr.heap.size) 2 rfl os (fun w hS => hS.1) Tryz.rObj_impl_Obj HI1.out) hHeld ?_
          simp only [Act.put, List.setIfInBounds_toArray, List.set_cons_zero, List.set_cons_succ]
          refine wpAnyH_take (i := 2) (oi := ⟨some 45, .fieldAddr _ (.tmp 1) 1, _, _, _, _⟩) (v := .pointer (some ⟨w.heap.size, 1, none⟩)) rfl (by kernel_rfl) (by kernel_rfl) (by kernel_rfl) (fun _ _ _ h => h) (Or.inl ⟨by rfl, by intro w hSw; go_simp⟩) hHeld ?_
          simp only [Act.put, List.setIfInBounds_toArray, List.set_cons_zero, List.set_cons_succ]
          refine wpAnyH_take (i := 3) (oi := ⟨some 46, .load _ (.tmp 45), _, _, _, _⟩) (v := .int .i64 rev) rfl (by kernel_rfl) (by kernel_rfl) (by kernel_rfl) (fun _ _ _ h => h) (yieldsIf_load_cell (by rfl) _ _ rfl _ _ rfl _ (fun w hS => hS.2.1) Tryz.rObj_int) hHeld ?_
          simp only [Act.put, List.setIfInBounds_toArray, List.set_cons_zero, List.set_cons_succ]
          refine wpAnyH_take (i := 4) (oi := ⟨some 47, .fieldAddr _ (.tmp 1) 2, _, _, _, _⟩) (v := .pointer (some ⟨w.heap.size, 2, none⟩)) rfl (by kernel_rfl) (by kernel_rfl) (by kernel_rfl) (fun _ _ _ h => h) (Or.inl ⟨by rfl, by intro w hSw; go_simp⟩) hHeld ?_
          simp only [Act.put, List.setIfInBounds_toArray, List.set_cons_zero, List.set_cons_succ]
          refine wpAnyH_take (i := 5) (oi := ⟨some 48, .load _ (.tmp 47), _, _, _, _⟩) (v := .int .i64 next) rfl (by kernel_rfl) (by kernel_rfl) (by kernel_rfl) (fun _ _ _ h => h) (yieldsIf_load_cell (by rfl) _ _ rfl _ _ rfl _ (fun w hS => hS.2.2.1) Tryz.rObj_int) hHeld ?_
          simp only [Act.put, List.setIfInBounds_toArray, List.set_cons_zero, List.set_cons_succ]
          refine wpAnyH_take (i := 6) (oi := ⟨some 49, .fieldAddr _ (.tmp 4) 1, _, _, _, _⟩) (v := .pointer (some ⟨wr.heap.size, 1, none⟩)) rfl (by kernel_rfl) (by kernel_rfl) (by kernel_rfl) (fun _ _ _ h => h) (Or.inl ⟨by rfl, by intro w hSw; go_simp⟩) hHeld ?_
          simp only [Act.put, List.setIfInBounds_toArray, List.set_cons_zero, List.set_cons_succ]
          refine wpAnyH_take (i := 7) (oi := ⟨some 50, .load _ (.tmp 49), _, _, _, _⟩) (v := .bool gone) rfl (by kernel_rfl) (by kernel_rfl) (by kernel_rfl) (fun _ _ _ h => h) (yieldsIf_load_cell (by rfl) _ _ rfl _ _ rfl _ (fun w hS => hS.2.2.2.1) Tryz.rObj_bool) hHeld ?_
          simp only [Act.put, List.setIfInBounds_toArray, List.set_cons_zero, List.set_cons_succ]
          refine wpAnyH_ready (rs := [8]) (by kernel_rfl) (by simp) (AllReadyH.cons (o := ⟨some 51, .call { callee := .value (.func 168), args := #[.tmp 44, .tmp 46, .tmp 48, .tmp 50], argTypes := #[138, 3, 3, 4] }, _, _, _, _⟩) rfl (fun K hK => ?_) AllReadyH.nil)
          refine step_call_w (by rfl) 168 #[.tmp 44, .tmp 46, .tmp 48, .tmp 50] #[138, 3, 3, 4] rfl (callFunc_enter Tryz.func168 (by kernel_rfl) (by kernel_rfl)) #[.agg os.toArray, .int .i64 rev, .int .i64 next, .bool gone] (by simp [Act.eval]) (Hcon.out _ (Below.drew (Below.refl _ _))) ?_
          rintro e w2 ⟨rfl, hb2⟩
          refine ⟨.bool false, rfl, hK.out _ _ ⟨range_below C0.out hb2.out, cell_below C1.out hb2.out, cell_below C2.out hb2.out, cell_below C3.out hb2.out, cell_below C4.out hb2.out, cell_below C5.out hb2.out⟩ (fun hHeld => ?_)⟩
          clear hK K
          simp only [Act.put, List.setIfInBounds_toArray, List.set_cons_zero, List.set_cons_succ]
          refine wpAnyH_take (i := 9) (oi := ⟨some 52, .unOp .not _ (.tmp 51), _, _, _, _⟩) (v := .bool true) rfl (by kernel_rfl) (by kernel_rfl) (by kernel_rfl) (fun _ _ _ h => h) (Or.inl ⟨by rfl, by intro w hSw; go_simp⟩) hHeld ?_
          simp only [Act.put, List.setIfInBounds_toArray, List.set_cons_zero, List.set_cons_succ]
          refine wpAnyH_take (i := 10) (oi := ⟨some 53, .move (.tmp 52), _, _, _, _⟩) (v := .bool true) rfl (by kernel_rfl) (by kernel_rfl) (by kernel_rfl) (fun _ _ _ h => h) (Or.inl ⟨by rfl, by intro w hSw; go_simp⟩) hHeld ?_
          simp only [Act.put, List.setIfInBounds_toArray, List.set_cons_zero, List.set_cons_succ]
          refine wpAnyH_take (i := 11) (oi := ⟨some 54, .fieldAddr _ (.tmp 4) 2, _, _, _, _⟩) (v := undef) rfl (by kernel_rfl) (by kernel_rfl) (by kernel_rfl) (fun _ _ _ h => h) (Or.inr ⟨by rfl, rfl⟩) hHeld ?_
          simp only [Act.put, List.setIfInBounds_toArray, List.set_cons_zero, List.set_cons_succ]
          refine wpAnyH_take (i := 12) (oi := ⟨some 55, .fieldAddr _ (.tmp 54) 3, _, _, _, _⟩) (v := undef) rfl (by kernel_rfl) (by kernel_rfl) (by kernel_rfl) (fun _ _ _ h => h) (Or.inr ⟨by rfl, rfl⟩) hHeld ?_
          simp only [Act.put, List.setIfInBounds_toArray, List.set_cons_zero, List.set_cons_succ]
          refine wpAnyH_take (i := 13) (oi := ⟨some 56, .load _ (.tmp 55), _, _, _, _⟩) (v := undef) rfl (by kernel_rfl) (by kernel_rfl) (by kernel_rfl) (fun _ _ _ h => h) (Or.inr ⟨by rfl, rfl⟩) hHeld ?_
          simp only [Act.put, List.setIfInBounds_toArray, List.set_cons_zero, List.set_cons_succ]
          refine wpAnyH_take (i := 14) (oi := ⟨some 57, .fieldAddr _ (.tmp 4) 0, _, _, _, _⟩) (v := undef) rfl (by kernel_rfl) (by kernel_rfl) (by kernel_rfl) (fun _ _ _ h => h) (Or.inr ⟨by rfl, rfl⟩) hHeld ?_
          simp only [Act.put, List.setIfInBounds_toArray, List.set_cons_zero, List.set_cons_succ]
          refine wpAnyH_take (i := 15) (oi := ⟨some 58, .load _ (.tmp 57), _, _, _, _⟩) (v := undef) rfl (by kernel_rfl) (by kernel_rfl) (by kernel_rfl) (fun _ _ _ h => h) (Or.inr ⟨by rfl, rfl⟩) hHeld ?_
          simp only [Act.put, List.setIfInBounds_toArray, List.set_cons_zero, List.set_cons_succ]
          refine wpAnyH_take (i := 16) (oi := ⟨some 59, .binOp .neq _ (.tmp 56) (.tmp 58) _, _, _, _, _⟩) (v := undef) rfl (by kernel_rfl) (by kernel_rfl) (by kernel_rfl) (fun _ _ _ h => h) (Or.inr ⟨by rfl, rfl⟩) hHeld ?_
          simp only [Act.put, List.setIfInBounds_toArray, List.set_cons_zero, List.set_cons_succ]
          refine wpAnyH_take (i := 17) (oi := ⟨some 60, .pick (.tmp 53) (.const (.bool true)) (.tmp 59), _, _, _, _⟩) (v := .bool true) rfl (by kernel_rfl) (by kernel_rfl) (by kernel_rfl) (fun _ _ _ h => h) (Or.inl ⟨by rfl, by intro w hSw; go_simp⟩) hHeld ?_
          simp only [Act.put, List.setIfInBounds_toArray, List.set_cons_zero, List.set_cons_succ]
          refine wpAnyH_take (i := 18) (oi := ⟨some 61, .move (.tmp 60), _, _, _, _⟩) (v := .bool true) rfl (by kernel_rfl) (by kernel_rfl) (by kernel_rfl) (fun _ _ _ h => h) (Or.inl ⟨by rfl, by intro w hSw; go_simp⟩) hHeld ?_
          simp only [Act.put, List.setIfInBounds_toArray, List.set_cons_zero, List.set_cons_succ]
          refine wpAnyH_take (i := 19) (oi := ⟨some 62, .move (.tmp 3), _, _, _, _⟩) (v := undef) rfl (by kernel_rfl) (by kernel_rfl) (by kernel_rfl) (fun _ _ _ h => h) (Or.inr ⟨by rfl, rfl⟩) hHeld ?_
          simp only [Act.put, List.setIfInBounds_toArray, List.set_cons_zero, List.set_cons_succ]
          refine wpAnyH_take (i := 20) (oi := ⟨some 63, .binOp .gtr _ (.tmp 62) (.const (.int .i64 0)) _, _, _, _, _⟩) (v := undef) rfl (by kernel_rfl) (by kernel_rfl) (by kernel_rfl) (fun _ _ _ h => h) (Or.inr ⟨by rfl, rfl⟩) hHeld ?_
          simp only [Act.put, List.setIfInBounds_toArray, List.set_cons_zero, List.set_cons_succ]
          refine wpAnyH_take (i := 21) (oi := ⟨some 64, .move (.tmp 63), _, _, _, _⟩) (v := undef) rfl (by kernel_rfl) (by kernel_rfl) (by kernel_rfl) (fun _ _ _ h => h) (Or.inr ⟨by rfl, rfl⟩) hHeld ?_
          simp only [Act.put, List.setIfInBounds_toArray, List.set_cons_zero, List.set_cons_succ]
          refine wpAnyH_take (i := 22) (oi := ⟨some 65, .fieldAddr _ (.tmp 1) 3, _, _, _, _⟩) (v := undef) rfl (by kernel_rfl) (by kernel_rfl) (by kernel_rfl) (fun _ _ _ h => h) (Or.inr ⟨by rfl, rfl⟩) hHeld ?_
          simp only [Act.put, List.setIfInBounds_toArray, List.set_cons_zero, List.set_cons_succ]
          refine wpAnyH_take (i := 23) (oi := ⟨some 66, .load _ (.tmp 65), _, _, _, _⟩) (v := undef) rfl (by kernel_rfl) (by kernel_rfl) (by kernel_rfl) (fun _ _ _ h => h) (Or.inr ⟨by rfl, rfl⟩) hHeld ?_
          simp only [Act.put, List.setIfInBounds_toArray, List.set_cons_zero, List.set_cons_succ]
          refine wpAnyH_take (i := 24) (oi := ⟨some 67, .move (.tmp 3), _, _, _, _⟩) (v := undef) rfl (by kernel_rfl) (by kernel_rfl) (by kernel_rfl) (fun _ _ _ h => h) (Or.inr ⟨by rfl, rfl⟩) hHeld ?_
          simp only [Act.put, List.setIfInBounds_toArray, List.set_cons_zero, List.set_cons_succ]
          refine wpAnyH_take (i := 25) (oi := ⟨some 68, .binOp .sub _ (.tmp 67) (.const (.int .i64 1)) _, _, _, _, _⟩) (v := undef) rfl (by kernel_rfl) (by kernel_rfl) (by kernel_rfl) (fun _ _ _ h => h) (Or.inr ⟨by rfl, rfl⟩) hHeld ?_
          simp only [Act.put, List.setIfInBounds_toArray, List.set_cons_zero, List.set_cons_succ]
          refine wpAnyH_take (i := 26) (oi := ⟨some 69, .indexAddr _ (.tmp 66) (.tmp 68), _, _, _, _⟩) (v := undef) rfl (by kernel_rfl) (by kernel_rfl) (by kernel_rfl) (fun _ _ _ h => h) (Or.inr ⟨by rfl, rfl⟩) hHeld ?_
          simp only [Act.put, List.setIfInBounds_toArray, List.set_cons_zero, List.set_cons_succ]
          refine wpAnyH_take (i := 27) (oi := ⟨some 70, .fieldAddr _ (.tmp 69) 0, _, _, _, _⟩) (v := undef) rfl (by kernel_rfl) (by kernel_rfl) (by kernel_rfl) (fun _ _ _ h => h) (Or.inr ⟨by rfl, rfl⟩) hHeld ?_
          simp only [Act.put, List.setIfInBounds_toArray, List.set_cons_zero, List.set_cons_succ]
          refine wpAnyH_take (i := 28) (oi := ⟨some 71, .load _ (.tmp 70), _, _, _, _⟩) (v := undef) rfl (by kernel_rfl) (by kernel_rfl) (by kernel_rfl) (fun _ _ _ h => h) (Or.inr ⟨by rfl, rfl⟩) hHeld ?_
          simp only [Act.put, List.setIfInBounds_toArray, List.set_cons_zero, List.set_cons_succ]
          refine wpAnyH_take (i := 29) (oi := ⟨some 72, .fieldAddr _ (.tmp 4) 0, _, _, _, _⟩) (v := undef) rfl (by kernel_rfl) (by kernel_rfl) (by kernel_rfl) (fun _ _ _ h => h) (Or.inr ⟨by rfl, rfl⟩) hHeld ?_
          simp only [Act.put, List.setIfInBounds_toArray, List.set_cons_zero, List.set_cons_succ]
          refine wpAnyH_take (i := 30) (oi := ⟨some 73, .load _ (.tmp 72), _, _, _, _⟩) (v := undef) rfl (by kernel_rfl) (by kernel_rfl) (by kernel_rfl) (fun _ _ _ h => h) (Or.inr ⟨by rfl, rfl⟩) hHeld ?_
          simp only [Act.put, List.setIfInBounds_toArray, List.set_cons_zero, List.set_cons_succ]
          refine wpAnyH_take (i := 31) (oi := ⟨some 74, .binOp .geq _ (.tmp 71) (.tmp 73) _, _, _, _, _⟩) (v := undef) rfl (by kernel_rfl) (by kernel_rfl) (by kernel_rfl) (fun _ _ _ h => h) (Or.inr ⟨by rfl, rfl⟩) hHeld ?_
          simp only [Act.put, List.setIfInBounds_toArray, List.set_cons_zero, List.set_cons_succ]
          refine wpAnyH_take (i := 32) (oi := ⟨some 75, .pick (.tmp 64) (.tmp 74) (.const (.bool false)), _, _, _, _⟩) (v := undef) rfl (by kernel_rfl) (by kernel_rfl) (by kernel_rfl) (fun _ _ _ h => h) (Or.inr ⟨by rfl, rfl⟩) hHeld ?_
          simp only [Act.put, List.setIfInBounds_toArray, List.set_cons_zero, List.set_cons_succ]
          refine wpAnyH_take (i := 33) (oi := ⟨some 76, .pick (.tmp 61) (.const (.bool true)) (.tmp 75), _, _, _, _⟩) (v := .bool true) rfl (by kernel_rfl) (by kernel_rfl) (by kernel_rfl) (fun _ _ _ h => h) (Or.inl ⟨by rfl, by intro w hSw; go_simp⟩) hHeld ?_
          simp only [Act.put, List.setIfInBounds_toArray, List.set_cons_zero, List.set_cons_succ]
          refine wpAnyH_done (by kernel_rfl) ?_ _
          clear hHeld
          go_wp2
          go_ret
          exact ⟨ret_bool (by rw [Hn.out]; simp), HB1.out.trans (hb2.out.mono HB1.out.size)⟩
        | true =>
        by_cases hsame : orv = crv
        rotate_left
        · have Hn := uhide (HBAD.out (.inr (.inl hsame)))
          have hne : (orv != crv) = true := by simpa using hsame
          clear HBAD HOKK hsame
          refine wp_region_held_drew (S := fun w' => w'.rangeAt wr.heap.size 2 os ∧ w'.cell? ⟨w.heap.size, 1, none⟩ = some (.int .i64 rev) ∧ w'.cell? ⟨w.heap.size, 2, none⟩ = some (.int .i64 next) ∧ w'.cell? ⟨wr.heap.size, 1, none⟩ = some (.bool gone) ∧ w'.cell? ⟨wr.heap.size, 5, none⟩ = some (.int .i64 orv) ∧ w'.cell? ⟨wr.heap.size, 0, none⟩ = some (.int .i64 crv)) (by kernel_rfl) ⟨range_below C0.out (Below.drew (Below.refl _ _)), cell_below C1.out (Below.drew (Below.refl _ _)), cell_below C2.out (Below.drew (Below.refl _ _)), cell_below C3.out (Below.drew (Below.refl _ _)), cell_below C4.out (Below.drew (Below.refl _ _)), cell_below C5.out (Below.drew (Below.refl _ _))⟩ (fun hHeld => ?_)
          refine wpAnyH_take (i := 0) (oi := ⟨some 43, .fieldAddr _ (.tmp 4) 2, _, _, _, _⟩) (v := .pointer (some ⟨wr.heap.size, 2, none⟩)) rfl (by kernel_rfl) (by kernel_rfl) (by kernel_rfl) (fun _ _ _ h => h) (Or.inl ⟨by rfl, by intro w hSw; go_simp⟩) hHeld ?_
          simp only [Act.put, List.setIfInBounds_toArray, List.set_cons_zero, List.set_cons_succ]
          refine wpAnyH_take (i := 1) (oi := ⟨some 44, .load _ (.tmp 43), _, _, _, _⟩) (v := .agg os.toArray) rfl (by kernel_rfl) (by kernel_rfl) (by kernel_rfl) (fun _ _ _ h => h) (yieldsIf_load_row (by rfl) 138 _ rfl (wr.heap.size) 2 rfl os (fun w hS => hS.1) Tryz.rObj_impl_Obj HI1.out) hHeld ?_
          simp only [Act.put, List.setIfInBounds_toArray, List.set_cons_zero, List.set_cons_succ]
          refine wpAnyH_take (i := 2) (oi := ⟨some 45, .fieldAddr _ (.tmp 1) 1, _, _, _, _⟩) (v := .pointer (some ⟨w.heap.size, 1, none⟩)) rfl (by kernel_rfl) (by kernel_rfl) (by kernel_rfl) (fun _ _ _ h => h) (Or.inl ⟨by rfl, by intro w hSw; go_simp⟩) hHeld ?_
          simp only [Act.put, List.setIfInBounds_toArray, List.set_cons_zero, List.set_cons_succ]
          refine wpAnyH_take (i := 3) (oi := ⟨some 46, .load _ (.tmp 45), _, _, _, _⟩) (v := .int .i64 rev) rfl (by kernel_rfl) (by kernel_rfl) (by kernel_rfl) (fun _ _ _ h => h) (yieldsIf_load_cell (by rfl) _ _ rfl _ _ rfl _ (fun w hS => hS.2.1) Tryz.rObj_int) hHeld ?_
          simp only [Act.put, List.setIfInBounds_toArray, List.set_cons_zero, List.set_cons_succ]
          refine wpAnyH_take (i := 4) (oi := ⟨some 47, .fieldAddr _ (.tmp 1) 2, _, _, _, _⟩) (v := .pointer (some ⟨w.heap.size, 2, none⟩)) rfl (by kernel_rfl) (by kernel_rfl) (by kernel_rfl) (fun _ _ _ h => h) (Or.inl ⟨by rfl, by intro w hSw; go_simp⟩) hHeld ?_
          simp only [Act.put, List.setIfInBounds_toArray, List.set_cons_zero, List.set_cons_succ]
          refine wpAnyH_take (i := 5) (oi := ⟨some 48, .load _ (.tmp 47), _, _, _, _⟩) (v := .int .i64 next) rfl (by kernel_rfl) (by kernel_rfl) (by kernel_rfl) (fun _ _ _ h => h) (yieldsIf_load_cell (by rfl) _ _ rfl _ _ rfl _ (fun w hS => hS.2.2.1) Tryz.rObj_int) hHeld ?_
          simp only [Act.put, List.setIfInBounds_toArray, List.set_cons_zero, List.set_cons_succ]
          refine wpAnyH_take (i := 6) (oi := ⟨some 49, .fieldAddr _ (.tmp 4) 1, _, _, _, _⟩) (v := .pointer (some ⟨wr.heap.size, 1, none⟩)) rfl (by kernel_rfl) (by kernel_rfl) (by kernel_rfl) (fun _ _ _ h => h) (Or.inl ⟨by rfl, by intro w hSw; go_simp⟩) hHeld ?_
          simp only [Act.put, List.setIfInBounds_toArray, List.set_cons_zero, List.set_cons_succ]
          refine wpAnyH_take (i := 7) (oi := ⟨some 50, .load _ (.tmp 49), _, _, _, _⟩) (v := .bool gone) rfl (by kernel_rfl) (by kernel_rfl) (by kernel_rfl) (fun _ _ _ h => h) (yieldsIf_load_cell (by rfl) _ _ rfl _ _ rfl _ (fun w hS => hS.2.2.2.1) Tryz.rObj_bool) hHeld ?_
          simp only [Act.put, List.setIfInBounds_toArray, List.set_cons_zero, List.set_cons_succ]
          refine wpAnyH_ready (rs := [8]) (by kernel_rfl) (by simp) (AllReadyH.cons (o := ⟨some 51, .call { callee := .value (.func 168), args := #[.tmp 44, .tmp 46, .tmp 48, .tmp 50], argTypes := #[138, 3, 3, 4] }, _, _, _, _⟩) rfl (fun K hK => ?_) AllReadyH.nil)
          refine step_call_w (by rfl) 168 #[.tmp 44, .tmp 46, .tmp 48, .tmp 50] #[138, 3, 3, 4] rfl (callFunc_enter Tryz.func168 (by kernel_rfl) (by kernel_rfl)) #[.agg os.toArray, .int .i64 rev, .int .i64 next, .bool gone] (by simp [Act.eval]) (Hcon.out _ (Below.drew (Below.refl _ _))) ?_
          rintro e w2 ⟨rfl, hb2⟩
          refine ⟨.bool true, rfl, hK.out _ _ ⟨range_below C0.out hb2.out, cell_below C1.out hb2.out, cell_below C2.out hb2.out, cell_below C3.out hb2.out, cell_below C4.out hb2.out, cell_below C5.out hb2.out⟩ (fun hHeld => ?_)⟩
          clear hK K
          simp only [Act.put, List.setIfInBounds_toArray, List.set_cons_zero, List.set_cons_succ]
          refine wpAnyH_take (i := 9) (oi := ⟨some 52, .unOp .not _ (.tmp 51), _, _, _, _⟩) (v := .bool false) rfl (by kernel_rfl) (by kernel_rfl) (by kernel_rfl) (fun _ _ _ h => h) (Or.inl ⟨by rfl, by intro w hSw; go_simp⟩) hHeld ?_
          simp only [Act.put, List.setIfInBounds_toArray, List.set_cons_zero, List.set_cons_succ]
          refine wpAnyH_take (i := 10) (oi := ⟨some 53, .move (.tmp 52), _, _, _, _⟩) (v := .bool false) rfl (by kernel_rfl) (by kernel_rfl) (by kernel_rfl) (fun _ _ _ h => h) (Or.inl ⟨by rfl, by intro w hSw; go_simp⟩) hHeld ?_
          simp only [Act.put, List.setIfInBounds_toArray, List.set_cons_zero, List.set_cons_succ]
          refine wpAnyH_take (i := 11) (oi := ⟨some 54, .fieldAddr _ (.tmp 4) 2, _, _, _, _⟩) (v := .pointer (some ⟨wr.heap.size, 2, none⟩)) rfl (by kernel_rfl) (by kernel_rfl) (by kernel_rfl) (fun _ _ _ h => h) (Or.inl ⟨by rfl, by intro w hSw; go_simp⟩) hHeld ?_
          simp only [Act.put, List.setIfInBounds_toArray, List.set_cons_zero, List.set_cons_succ]
          refine wpAnyH_take (i := 12) (oi := ⟨some 55, .fieldAddr _ (.tmp 54) 3, _, _, _, _⟩) (v := .pointer (some ⟨wr.heap.size, 5, none⟩)) rfl (by kernel_rfl) (by kernel_rfl) (by kernel_rfl) (fun _ _ _ h => h) (Or.inl ⟨by rfl, by intro w hSw; go_simp⟩) hHeld ?_
          simp only [Act.put, List.setIfInBounds_toArray, List.set_cons_zero, List.set_cons_succ]
          refine wpAnyH_take (i := 13) (oi := ⟨some 56, .load _ (.tmp 55), _, _, _, _⟩) (v := .int .i64 orv) rfl (by kernel_rfl) (by kernel_rfl) (by kernel_rfl) (fun _ _ _ h => h) (yieldsIf_load_cell (by rfl) _ _ rfl _ _ rfl _ (fun w hS => hS.2.2.2.2.1) Tryz.rObj_int) hHeld ?_
          simp only [Act.put, List.setIfInBounds_toArray, List.set_cons_zero, List.set_cons_succ]
          refine wpAnyH_take (i := 14) (oi := ⟨some 57, .fieldAddr _ (.tmp 4) 0, _, _, _, _⟩) (v := .pointer (some ⟨wr.heap.size, 0, none⟩)) rfl (by kernel_rfl) (by kernel_rfl) (by kernel_rfl) (fun _ _ _ h => h) (Or.inl ⟨by rfl, by intro w hSw; go_simp⟩) hHeld ?_
          simp only [Act.put, List.setIfInBounds_toArray, List.set_cons_zero, List.set_cons_succ]
          refine wpAnyH_take (i := 15) (oi := ⟨some 58, .load _ (.tmp 57), _, _, _, _⟩) (v := .int .i64 crv) rfl (by kernel_rfl) (by kernel_rfl) (by kernel_rfl) (fun _ _ _ h => h) (yieldsIf_load_cell (by rfl) _ _ rfl _ _ rfl _ (fun w hS => hS.2.2.2.2.2) Tryz.rObj_int) hHeld ?_
          simp only [Act.put, List.setIfInBounds_toArray, List.set_cons_zero, List.set_cons_succ]
          refine wpAnyH_take (i := 16) (oi := ⟨some 59, .binOp .neq _ (.tmp 56) (.tmp 58) _, _, _, _, _⟩) (v := .bool true) rfl (by kernel_rfl) (by kernel_rfl) (by kernel_rfl) (fun _ _ _ h => h) (Or.inl ⟨by rfl, by intro w hSw; go_simp⟩) hHeld ?_
          simp only [Act.put, List.setIfInBounds_toArray, List.set_cons_zero, List.set_cons_succ]
          refine wpAnyH_take (i := 17) (oi := ⟨some 60, .pick (.tmp 53) (.const (.bool true)) (.tmp 59), _, _, _, _⟩) (v := .bool true) rfl (by kernel_rfl) (by kernel_rfl) (by kernel_rfl) (fun _ _ _ h => h) (Or.inl ⟨by rfl, by intro w hSw; go_simp⟩) hHeld ?_
          simp only [Act.put, List.setIfInBounds_toArray, List.set_cons_zero, List.set_cons_succ]
          refine wpAnyH_take (i := 18) (oi := ⟨some 61, .move (.tmp 60), _, _, _, _⟩) (v := .bool true) rfl (by kernel_rfl) (by kernel_rfl) (by kernel_rfl) (fun _ _ _ h => h) (Or.inl ⟨by rfl, by intro w hSw; go_simp⟩) hHeld ?_
          simp only [Act.put, List.setIfInBounds_toArray, List.set_cons_zero, List.set_cons_succ]
          refine wpAnyH_take (i := 19) (oi := ⟨some 62, .move (.tmp 3), _, _, _, _⟩) (v := undef) rfl (by kernel_rfl) (by kernel_rfl) (by kernel_rfl) (fun _ _ _ h => h) (Or.inr ⟨by rfl, rfl⟩) hHeld ?_
          simp only [Act.put, List.setIfInBounds_toArray, List.set_cons_zero, List.set_cons_succ]
          refine wpAnyH_take (i := 20) (oi := ⟨some 63, .binOp .gtr _ (.tmp 62) (.const (.int .i64 0)) _, _, _, _, _⟩) (v := undef) rfl (by kernel_rfl) (by kernel_rfl) (by kernel_rfl) (fun _ _ _ h => h) (Or.inr ⟨by rfl, rfl⟩) hHeld ?_
          simp only [Act.put, List.setIfInBounds_toArray, List.set_cons_zero, List.set_cons_succ]
          refine wpAnyH_take (i := 21) (oi := ⟨some 64, .move (.tmp 63), _, _, _, _⟩) (v := undef) rfl (by kernel_rfl) (by kernel_rfl) (by kernel_rfl) (fun _ _ _ h => h) (Or.inr ⟨by rfl, rfl⟩) hHeld ?_
          simp only [Act.put, List.setIfInBounds_toArray, List.set_cons_zero, List.set_cons_succ]
          refine wpAnyH_take (i := 22) (oi := ⟨some 65, .fieldAddr _ (.tmp 1) 3, _, _, _, _⟩) (v := undef) rfl (by kernel_rfl) (by kernel_rfl) (by kernel_rfl) (fun _ _ _ h => h) (Or.inr ⟨by rfl, rfl⟩) hHeld ?_
          simp only [Act.put, List.setIfInBounds_toArray, List.set_cons_zero, List.set_cons_succ]
          refine wpAnyH_take (i := 23) (oi := ⟨some 66, .load _ (.tmp 65), _, _, _, _⟩) (v := undef) rfl (by kernel_rfl) (by kernel_rfl) (by kernel_rfl) (fun _ _ _ h => h) (Or.inr ⟨by rfl, rfl⟩) hHeld ?_
          simp only [Act.put, List.setIfInBounds_toArray, List.set_cons_zero, List.set_cons_succ]
          refine wpAnyH_take (i := 24) (oi := ⟨some 67, .move (.tmp 3), _, _, _, _⟩) (v := undef) rfl (by kernel_rfl) (by kernel_rfl) (by kernel_rfl) (fun _ _ _ h => h) (Or.inr ⟨by rfl, rfl⟩) hHeld ?_
          simp only [Act.put, List.setIfInBounds_toArray, List.set_cons_zero, List.set_cons_succ]
          refine wpAnyH_take (i := 25) (oi := ⟨some 68, .binOp .sub _ (.tmp 67) (.const (.int .i64 1)) _, _, _, _, _⟩) (v := undef) rfl (by kernel_rfl) (by kernel_rfl) (by kernel_rfl) (fun _ _ _ h => h) (Or.inr ⟨by rfl, rfl⟩) hHeld ?_
          simp only [Act.put, List.setIfInBounds_toArray, List.set_cons_zero, List.set_cons_succ]
          refine wpAnyH_take (i := 26) (oi := ⟨some 69, .indexAddr _ (.tmp 66) (.tmp 68), _, _, _, _⟩) (v := undef) rfl (by kernel_rfl) (by kernel_rfl) (by kernel_rfl) (fun _ _ _ h => h) (Or.inr ⟨by rfl, rfl⟩) hHeld ?_
          simp only [Act.put, List.setIfInBounds_toArray, List.set_cons_zero, List.set_cons_succ]
          refine wpAnyH_take (i := 27) (oi := ⟨some 70, .fieldAddr _ (.tmp 69) 0, _, _, _, _⟩) (v := undef) rfl (by kernel_rfl) (by kernel_rfl) (by kernel_rfl) (fun _ _ _ h => h) (Or.inr ⟨by rfl, rfl⟩) hHeld ?_
          simp only [Act.put, List.setIfInBounds_toArray, List.set_cons_zero, List.set_cons_succ]
          refine wpAnyH_take (i := 28) (oi := ⟨some 71, .load _ (.tmp 70), _, _, _, _⟩) (v := undef) rfl (by kernel_rfl) (by kernel_rfl) (by kernel_rfl) (fun _ _ _ h => h) (Or.inr ⟨by rfl, rfl⟩) hHeld ?_
          simp only [Act.put, List.setIfInBounds_toArray, List.set_cons_zero, List.set_cons_succ]
          refine wpAnyH_take (i := 29) (oi := ⟨some 72, .fieldAddr _ (.tmp 4) 0, _, _, _, _⟩) (v := undef) rfl (by kernel_rfl) (by kernel_rfl) (by kernel_rfl) (fun _ _ _ h => h) (Or.inr ⟨by rfl, rfl⟩) hHeld ?_
          simp only [Act.put, List.setIfInBounds_toArray, List.set_cons_zero, List.set_cons_succ]
          refine wpAnyH_take (i := 30) (oi := ⟨some 73, .load _ (.tmp 72), _, _, _, _⟩) (v := undef) rfl (by kernel_rfl) (by kernel_rfl) (by kernel_rfl) (fun _ _ _ h => h) (Or.inr ⟨by rfl, rfl⟩) hHeld ?_
          simp only [Act.put, List.setIfInBounds_toArray, List.set_cons_zero, List.set_cons_succ]
          refine wpAnyH_take (i := 31) (oi := ⟨some 74, .binOp .geq _ (.tmp 71) (.tmp 73) _, _, _, _, _⟩) (v := undef) rfl (by kernel_rfl) (by kernel_rfl) (by kernel_rfl) (fun _ _ _ h => h) (Or.inr ⟨by rfl, rfl⟩) hHeld ?_
          simp only [Act.put, List.setIfInBounds_toArray, List.set_cons_zero, List.set_cons_succ]
          refine wpAnyH_take (i := 32) (oi := ⟨some 75, .pick (.tmp 64) (.tmp 74) (.const (.bool false)), _, _, _, _⟩) (v := undef) rfl (by kernel_rfl) (by kernel_rfl) (by kernel_rfl) (fun _ _ _ h => h) (Or.inr ⟨by rfl, rfl⟩) hHeld ?_
          simp only [Act.put, List.setIfInBounds_toArray, List.set_cons_zero, List.set_cons_succ]
          refine wpAnyH_take (i := 33) (oi := ⟨some 76, .pick (.tmp 61) (.const (.bool true)) (.tmp 75), _, _, _, _⟩) (v := .bool true) rfl (by kernel_rfl) (by kernel_rfl) (by kernel_rfl) (fun _ _ _ h => h) (Or.inl ⟨by rfl, by intro w hSw; go_simp⟩) hHeld ?_
          simp only [Act.put, List.setIfInBounds_toArray, List.set_cons_zero, List.set_cons_succ]
          refine wpAnyH_done (by kernel_rfl) ?_ _
          clear hHeld
          go_wp2
          go_ret
          exact ⟨ret_bool (by rw [Hn.out]; simp), HB1.out.trans (hb2.out.mono HB1.out.size)⟩
        have hne : (orv != crv) = false := by simp [hsame]
        have HSM := uhide hsame
        clear hsame
        rcases Nat.eq_zero_or_pos q with hz | hz
        · subst hz
          have Hn := uhide (HOKK.out rfl HSM.out (fun h => by omega))
          clear HBAD HOKK
          refine wp_region_held_drew (S := fun w' => w'.rangeAt wr.heap.size 2 os ∧ w'.cell? ⟨w.heap.size, 1, none⟩ = some (.int .i64 rev) ∧ w'.cell? ⟨w.heap.size, 2, none⟩ = some (.int .i64 next) ∧ w'.cell? ⟨wr.heap.size, 1, none⟩ = some (.bool gone) ∧ w'.cell? ⟨wr.heap.size, 5, none⟩ = some (.int .i64 orv) ∧ w'.cell? ⟨wr.heap.size, 0, none⟩ = some (.int .i64 crv)) (by kernel_rfl) ⟨range_below C0.out (Below.drew (Below.refl _ _)), cell_below C1.out (Below.drew (Below.refl _ _)), cell_below C2.out (Below.drew (Below.refl _ _)), cell_below C3.out (Below.drew (Below.refl _ _)), cell_below C4.out (Below.drew (Below.refl _ _)), cell_below C5.out (Below.drew (Below.refl _ _))⟩ (fun hHeld => ?_)
          refine wpAnyH_take (i := 0) (oi := ⟨some 43, .fieldAddr _ (.tmp 4) 2, _, _, _, _⟩) (v := .pointer (some ⟨wr.heap.size, 2, none⟩)) rfl (by kernel_rfl) (by kernel_rfl) (by kernel_rfl) (fun _ _ _ h => h) (Or.inl ⟨by rfl, by intro w hSw; go_simp⟩) hHeld ?_
          simp only [Act.put, List.setIfInBounds_toArray, List.set_cons_zero, List.set_cons_succ]
          refine wpAnyH_take (i := 1) (oi := ⟨some 44, .load _ (.tmp 43), _, _, _, _⟩) (v := .agg os.toArray) rfl (by kernel_rfl) (by kernel_rfl) (by kernel_rfl) (fun _ _ _ h => h) (yieldsIf_load_row (by rfl) 138 _ rfl (wr.heap.size) 2 rfl os (fun w hS => hS.1) Tryz.rObj_impl_Obj HI1.out) hHeld ?_
          simp only [Act.put, List.setIfInBounds_toArray, List.set_cons_zero, List.set_cons_succ]
          refine wpAnyH_take (i := 2) (oi := ⟨some 45, .fieldAddr _ (.tmp 1) 1, _, _, _, _⟩) (v := .pointer (some ⟨w.heap.size, 1, none⟩)) rfl (by kernel_rfl) (by kernel_rfl) (by kernel_rfl) (fun _ _ _ h => h) (Or.inl ⟨by rfl, by intro w hSw; go_simp⟩) hHeld ?_
          simp only [Act.put, List.setIfInBounds_toArray, List.set_cons_zero, List.set_cons_succ]
          refine wpAnyH_take (i := 3) (oi := ⟨some 46, .load _ (.tmp 45), _, _, _, _⟩) (v := .int .i64 rev) rfl (by kernel_rfl) (by kernel_rfl) (by kernel_rfl) (fun _ _ _ h => h) (yieldsIf_load_cell (by rfl) _ _ rfl _ _ rfl _ (fun w hS => hS.2.1) Tryz.rObj_int) hHeld ?_
          simp only [Act.put, List.setIfInBounds_toArray, List.set_cons_zero, List.set_cons_succ]
          refine wpAnyH_take (i := 4) (oi := ⟨some 47, .fieldAddr _ (.tmp 1) 2, _, _, _, _⟩) (v := .pointer (some ⟨w.heap.size, 2, none⟩)) rfl (by kernel_rfl) (by kernel_rfl) (by kernel_rfl) (fun _ _ _ h => h) (Or.inl ⟨by rfl, by intro w hSw; go_simp⟩) hHeld ?_
          simp only [Act.put, List.setIfInBounds_toArray, List.set_cons_zero, List.set_cons_succ]
          refine wpAnyH_take (i := 5) (oi := ⟨some 48, .load _ (.tmp 47), _, _, _, _⟩) (v := .int .i64 next) rfl (by kernel_rfl) (by kernel_rfl) (by kernel_rfl) (fun _ _ _ h => h) (yieldsIf_load_cell (by rfl) _ _ rfl _ _ rfl _ (fun w hS => hS.2.2.1) Tryz.rObj_int) hHeld ?_
          simp only [Act.put, List.setIfInBounds_toArray, List.set_cons_zero, List.set_cons_succ]
          refine wpAnyH_take (i := 6) (oi := ⟨some 49, .fieldAddr _ (.tmp 4) 1, _, _, _, _⟩) (v := .pointer (some ⟨wr.heap.size, 1, none⟩)) rfl (by kernel_rfl) (by kernel_rfl) (by kernel_rfl) (fun _ _ _ h => h) (Or.inl ⟨by rfl, by intro w hSw; go_simp⟩) hHeld ?_
          simp only [Act.put, List.setIfInBounds_toArray, List.set_cons_zero, List.set_cons_succ]
          refine wpAnyH_take (i := 7) (oi := ⟨some 50, .load _ (.tmp 49), _, _, _, _⟩) (v := .bool gone) rfl (by kernel_rfl) (by kernel_rfl) (by kernel_rfl) (fun _ _ _ h => h) (yieldsIf_load_cell (by rfl) _ _ rfl _ _ rfl _ (fun w hS => hS.2.2.2.1) Tryz.rObj_bool) hHeld ?_
          simp only [Act.put, List.setIfInBounds_toArray, List.set_cons_zero, List.set_cons_succ]
          refine wpAnyH_ready (rs := [8]) (by kernel_rfl) (by simp) (AllReadyH.cons (o := ⟨some 51, .call { callee := .value (.func 168), args := #[.tmp 44, .tmp 46, .tmp 48, .tmp 50], argTypes := #[138, 3, 3, 4] }, _, _, _, _⟩) rfl (fun K hK => ?_) AllReadyH.nil)
          refine step_call_w (by rfl) 168 #[.tmp 44, .tmp 46, .tmp 48, .tmp 50] #[138, 3, 3, 4] rfl (callFunc_enter Tryz.func168 (by kernel_rfl) (by kernel_rfl)) #[.agg os.toArray, .int .i64 rev, .int .i64 next, .bool gone] (by simp [Act.eval]) (Hcon.out _ (Below.drew (Below.refl _ _))) ?_
          rintro e w2 ⟨rfl, hb2⟩
          refine ⟨.bool true, rfl, hK.out _ _ ⟨range_below C0.out hb2.out, cell_below C1.out hb2.out, cell_below C2.out hb2.out, cell_below C3.out hb2.out, cell_below C4.out hb2.out, cell_below C5.out hb2.out⟩ (fun hHeld => ?_)⟩
          clear hK K
          simp only [Act.put, List.setIfInBounds_toArray, List.set_cons_zero, List.set_cons_succ]
          refine wpAnyH_take (i := 9) (oi := ⟨some 52, .unOp .not _ (.tmp 51), _, _, _, _⟩) (v := .bool false) rfl (by kernel_rfl) (by kernel_rfl) (by kernel_rfl) (fun _ _ _ h => h) (Or.inl ⟨by rfl, by intro w hSw; go_simp⟩) hHeld ?_
          simp only [Act.put, List.setIfInBounds_toArray, List.set_cons_zero, List.set_cons_succ]
          refine wpAnyH_take (i := 10) (oi := ⟨some 53, .move (.tmp 52), _, _, _, _⟩) (v := .bool false) rfl (by kernel_rfl) (by kernel_rfl) (by kernel_rfl) (fun _ _ _ h => h) (Or.inl ⟨by rfl, by intro w hSw; go_simp⟩) hHeld ?_
          simp only [Act.put, List.setIfInBounds_toArray, List.set_cons_zero, List.set_cons_succ]
          refine wpAnyH_take (i := 11) (oi := ⟨some 54, .fieldAddr _ (.tmp 4) 2, _, _, _, _⟩) (v := .pointer (some ⟨wr.heap.size, 2, none⟩)) rfl (by kernel_rfl) (by kernel_rfl) (by kernel_rfl) (fun _ _ _ h => h) (Or.inl ⟨by rfl, by intro w hSw; go_simp⟩) hHeld ?_
          simp only [Act.put, List.setIfInBounds_toArray, List.set_cons_zero, List.set_cons_succ]
          refine wpAnyH_take (i := 12) (oi := ⟨some 55, .fieldAddr _ (.tmp 54) 3, _, _, _, _⟩) (v := .pointer (some ⟨wr.heap.size, 5, none⟩)) rfl (by kernel_rfl) (by kernel_rfl) (by kernel_rfl) (fun _ _ _ h => h) (Or.inl ⟨by rfl, by intro w hSw; go_simp⟩) hHeld ?_
          simp only [Act.put, List.setIfInBounds_toArray, List.set_cons_zero, List.set_cons_succ]
          refine wpAnyH_take (i := 13) (oi := ⟨some 56, .load _ (.tmp 55), _, _, _, _⟩) (v := .int .i64 orv) rfl (by kernel_rfl) (by kernel_rfl) (by kernel_rfl) (fun _ _ _ h => h) (yieldsIf_load_cell (by rfl) _ _ rfl _ _ rfl _ (fun w hS => hS.2.2.2.2.1) Tryz.rObj_int) hHeld ?_
          simp only [Act.put, List.setIfInBounds_toArray, List.set_cons_zero, List.set_cons_succ]
          refine wpAnyH_take (i := 14) (oi := ⟨some 57, .fieldAddr _ (.tmp 4) 0, _, _, _, _⟩) (v := .pointer (some ⟨wr.heap.size, 0, none⟩)) rfl (by kernel_rfl) (by kernel_rfl) (by kernel_rfl) (fun _ _ _ h => h) (Or.inl ⟨by rfl, by intro w hSw; go_simp⟩) hHeld ?_
          simp only [Act.put, List.setIfInBounds_toArray, List.set_cons_zero, List.set_cons_succ]
          refine wpAnyH_take (i := 15) (oi := ⟨some 58, .load _ (.tmp 57), _, _, _, _⟩) (v := .int .i64 crv) rfl (by kernel_rfl) (by kernel_rfl) (by kernel_rfl) (fun _ _ _ h => h) (yieldsIf_load_cell (by rfl) _ _ rfl _ _ rfl _ (fun w hS => hS.2.2.2.2.2) Tryz.rObj_int) hHeld ?_
          simp only [Act.put, List.setIfInBounds_toArray, List.set_cons_zero, List.set_cons_succ]
          refine wpAnyH_take (i := 16) (oi := ⟨some 59, .binOp .neq _ (.tmp 56) (.tmp 58) _, _, _, _, _⟩) (v := .bool false) rfl (by kernel_rfl) (by kernel_rfl) (by kernel_rfl) (fun _ _ _ h => h) (Or.inl ⟨by rfl, by intro w hSw; go_simp⟩) hHeld ?_
          simp only [Act.put, List.setIfInBounds_toArray, List.set_cons_zero, List.set_cons_succ]
          refine wpAnyH_take (i := 17) (oi := ⟨some 60, .pick (.tmp 53) (.const (.bool true)) (.tmp 59), _, _, _, _⟩) (v := .bool false) rfl (by kernel_rfl) (by kernel_rfl) (by kernel_rfl) (fun _ _ _ h => h) (Or.inl ⟨by rfl, by intro w hSw; go_simp⟩) hHeld ?_
          simp only [Act.put, List.setIfInBounds_toArray, List.set_cons_zero, List.set_cons_succ]
          refine wpAnyH_take (i := 18) (oi := ⟨some 61, .move (.tmp 60), _, _, _, _⟩) (v := .bool false) rfl (by kernel_rfl) (by kernel_rfl) (by kernel_rfl) (fun _ _ _ h => h) (Or.inl ⟨by rfl, by intro w hSw; go_simp⟩) hHeld ?_
          simp only [Act.put, List.setIfInBounds_toArray, List.set_cons_zero, List.set_cons_succ]
          refine wpAnyH_take (i := 19) (oi := ⟨some 62, .move (.tmp 3), _, _, _, _⟩) (v := .int .i64 0) rfl (by kernel_rfl) (by kernel_rfl) (by kernel_rfl) (fun _ _ _ h => h) (Or.inl ⟨by rfl, by intro w hSw; go_simp⟩) hHeld ?_
          simp only [Act.put, List.setIfInBounds_toArray, List.set_cons_zero, List.set_cons_succ]
          refine wpAnyH_take (i := 20) (oi := ⟨some 63, .binOp .gtr _ (.tmp 62) (.const (.int .i64 0)) _, _, _, _, _⟩) (v := .bool false) rfl (by kernel_rfl) (by kernel_rfl) (by kernel_rfl) (fun _ _ _ h => h) (Or.inl ⟨by rfl, by intro w hSw; go_simp⟩) hHeld ?_
          simp only [Act.put, List.setIfInBounds_toArray, List.set_cons_zero, List.set_cons_succ]
          refine wpAnyH_take (i := 21) (oi := ⟨some 64, .move (.tmp 63), _, _, _, _⟩) (v := .bool false) rfl (by kernel_rfl) (by kernel_rfl) (by kernel_rfl) (fun _ _ _ h => h) (Or.inl ⟨by rfl, by intro w hSw; go_simp⟩) hHeld ?_
          simp only [Act.put, List.setIfInBounds_toArray, List.set_cons_zero, List.set_cons_succ]
          refine wpAnyH_take (i := 22) (oi := ⟨some 65, .fieldAddr _ (.tmp 1) 3, _, _, _, _⟩) (v := undef) rfl (by kernel_rfl) (by kernel_rfl) (by kernel_rfl) (fun _ _ _ h => h) (Or.inr ⟨by rfl, rfl⟩) hHeld ?_
          simp only [Act.put, List.setIfInBounds_toArray, List.set_cons_zero, List.set_cons_succ]
          refine wpAnyH_take (i := 23) (oi := ⟨some 66, .load _ (.tmp 65), _, _, _, _⟩) (v := undef) rfl (by kernel_rfl) (by kernel_rfl) (by kernel_rfl) (fun _ _ _ h => h) (Or.inr ⟨by rfl, rfl⟩) hHeld ?_
          simp only [Act.put, List.setIfInBounds_toArray, List.set_cons_zero, List.set_cons_succ]
          refine wpAnyH_take (i := 24) (oi := ⟨some 67, .move (.tmp 3), _, _, _, _⟩) (v := undef) rfl (by kernel_rfl) (by kernel_rfl) (by kernel_rfl) (fun _ _ _ h => h) (Or.inr ⟨by rfl, rfl⟩) hHeld ?_
          simp only [Act.put, List.setIfInBounds_toArray, List.set_cons_zero, List.set_cons_succ]
          refine wpAnyH_take (i := 25) (oi := ⟨some 68, .binOp .sub _ (.tmp 67) (.const (.int .i64 1)) _, _, _, _, _⟩) (v := undef) rfl (by kernel_rfl) (by kernel_rfl) (by kernel_rfl) (fun _ _ _ h => h) (Or.inr ⟨by rfl, rfl⟩) hHeld ?_
          simp only [Act.put, List.setIfInBounds_toArray, List.set_cons_zero, List.set_cons_succ]
          refine wpAnyH_take (i := 26) (oi := ⟨some 69, .indexAddr _ (.tmp 66) (.tmp 68), _, _, _, _⟩) (v := undef) rfl (by kernel_rfl) (by kernel_rfl) (by kernel_rfl) (fun _ _ _ h => h) (Or.inr ⟨by rfl, rfl⟩) hHeld ?_
          simp only [Act.put, List.setIfInBounds_toArray, List.set_cons_zero, List.set_cons_succ]
          refine wpAnyH_take (i := 27) (oi := ⟨some 70, .fieldAddr _ (.tmp 69) 0, _, _, _, _⟩) (v := undef) rfl (by kernel_rfl) (by kernel_rfl) (by kernel_rfl) (fun _ _ _ h => h) (Or.inr ⟨by rfl, rfl⟩) hHeld ?_
          simp only [Act.put, List.setIfInBounds_toArray, List.set_cons_zero, List.set_cons_succ]
          refine wpAnyH_take (i := 28) (oi := ⟨some 71, .load _ (.tmp 70), _, _, _, _⟩) (v := undef) rfl (by kernel_rfl) (by kernel_rfl) (by kernel_rfl) (fun _ _ _ h => h) (Or.inr ⟨by rfl, rfl⟩) hHeld ?_
          simp only [Act.put, List.setIfInBounds_toArray, List.set_cons_zero, List.set_cons_succ]
          refine wpAnyH_take (i := 29) (oi := ⟨some 72, .fieldAddr _ (.tmp 4) 0, _, _, _, _⟩) (v := undef) rfl (by kernel_rfl) (by kernel_rfl) (by kernel_rfl) (fun _ _ _ h => h) (Or.inr ⟨by rfl, rfl⟩) hHeld ?_
          simp only [Act.put, List.setIfInBounds_toArray, List.set_cons_zero, List.set_cons_succ]
          refine wpAnyH_take (i := 30) (oi := ⟨some 73, .load _ (.tmp 72), _, _, _, _⟩) (v := undef) rfl (by kernel_rfl) (by kernel_rfl) (by kernel_rfl) (fun _ _ _ h => h) (Or.inr ⟨by rfl, rfl⟩) hHeld ?_
          simp only [Act.put, List.setIfInBounds_toArray, List.set_cons_zero, List.set_cons_succ]
          refine wpAnyH_take (i := 31) (oi := ⟨some 74, .binOp .geq _ (.tmp 71) (.tmp 73) _, _, _, _, _⟩) (v := undef) rfl (by kernel_rfl) (by kernel_rfl) (by kernel_rfl) (fun _ _ _ h => h) (Or.inr ⟨by rfl, rfl⟩) hHeld ?_
          simp only [Act.put, List.setIfInBounds_toArray, List.set_cons_zero, List.set_cons_succ]
          refine wpAnyH_take (i := 32) (oi := ⟨some 75, .pick (.tmp 64) (.tmp 74) (.const (.bool false)), _, _, _, _⟩) (v := .bool false) rfl (by kernel_rfl) (by kernel_rfl) (by kernel_rfl) (fun _ _ _ h => h) (Or.inl ⟨by rfl, by intro w hSw; go_simp⟩) hHeld ?_
          simp only [Act.put, List.setIfInBounds_toArray, List.set_cons_zero, List.set_cons_succ]
          refine wpAnyH_take (i := 33) (oi := ⟨some 76, .pick (.tmp 61) (.const (.bool true)) (.tmp 75), _, _, _, _⟩) (v := .bool false) rfl (by kernel_rfl) (by kernel_rfl) (by kernel_rfl) (fun _ _ _ h => h) (Or.inl ⟨by rfl, by intro w hSw; go_simp⟩) hHeld ?_
          simp only [Act.put, List.setIfInBounds_toArray, List.set_cons_zero, List.set_cons_succ]
          refine wpAnyH_done (by kernel_rfl) ?_ _
          clear hHeld
          go_wp2
          go_roundw
          case rel => exact ⟨0 + 1, by omega, by go_num, Hn, HOW.out _ hb2.out, HB1.out.trans (hb2.out.mono HB1.out.size)⟩
          case measure => (simp [intOf] <;> omega)
        · obtain ⟨p, rfl⟩ : ∃ p, q = p + 1 := ⟨q - 1, by omega⟩
          obtain ⟨ps, hhp, hcp⟩ := (HM.out.row 19 p).hand
          obtain ⟨hp0, _⟩ := change_cells (Ht.out.row (show p < n by omega)) hhp
          obtain ⟨prv, hpr⟩ : ∃ g, g = kindU (rowU cs 19 p) := ⟨_, rfl⟩
          have hcp0 := hcp 0 _ hp0
          have C7 : Hid (wy.cell? ⟨b, off + p * 19, none⟩ = some (.int .i64 prv)) := by rw [hpr]; exact (HBEL.out.cell (p := ⟨b, off + p * 19, none⟩) hbb).trans hcp0
          have hpp0 : (0 : Int) ≤ (p : Int) := Int.natCast_nonneg _
          have hppn : (p : Int) < (n : Int) := by omega
          have hpp1 : (0 : Int) < (p : Int) + 1 := by omega
          have hwp : IntKind.i64.wrap (p : Int) = (p : Int) := by rw [IntKind.wrap_i64]; omega
          by_cases has : prv < crv
          · have Hn := uhide (HOKK.out rfl HSM.out (fun _ => by rw [Nat.add_sub_cancel, ← hpr]; exact has))
            have hd : decide (crv ≤ prv) = false := by rw [decide_eq_false_iff_not]; omega
            have hd2 : ¬ crv ≤ prv := by omega
            clear HBAD HOKK hhp hcp hp0 hpr hcp0 HM has
            refine wp_region_held_drew (S := fun w' => w'.rangeAt wr.heap.size 2 os ∧ w'.cell? ⟨w.heap.size, 1, none⟩ = some (.int .i64 rev) ∧ w'.cell? ⟨w.heap.size, 2, none⟩ = some (.int .i64 next) ∧ w'.cell? ⟨wr.heap.size, 1, none⟩ = some (.bool gone) ∧ w'.cell? ⟨wr.heap.size, 5, none⟩ = some (.int .i64 orv) ∧ w'.cell? ⟨wr.heap.size, 0, none⟩ = some (.int .i64 crv) ∧ w'.cell? ⟨w.heap.size, 3, none⟩ = some (.slice (some ⟨b, off, none⟩) n cap) ∧ w'.cell? ⟨b, off + p * 19, none⟩ = some (.int .i64 prv)) (by kernel_rfl) ⟨range_below C0.out (Below.drew (Below.refl _ _)), cell_below C1.out (Below.drew (Below.refl _ _)), cell_below C2.out (Below.drew (Below.refl _ _)), cell_below C3.out (Below.drew (Below.refl _ _)), cell_below C4.out (Below.drew (Below.refl _ _)), cell_below C5.out (Below.drew (Below.refl _ _)), cell_below C6.out (Below.drew (Below.refl _ _)), cell_below C7.out (Below.drew (Below.refl _ _))⟩ (fun hHeld => ?_)
            refine wpAnyH_take (i := 0) (oi := ⟨some 43, .fieldAddr _ (.tmp 4) 2, _, _, _, _⟩) (v := .pointer (some ⟨wr.heap.size, 2, none⟩)) rfl (by kernel_rfl) (by kernel_rfl) (by kernel_rfl) (fun _ _ _ h => h) (Or.inl ⟨by rfl, by intro w hSw; go_simp⟩) hHeld ?_
            simp only [Act.put, List.setIfInBounds_toArray, List.set_cons_zero, List.set_cons_succ]
            refine wpAnyH_take (i := 1) (oi := ⟨some 44, .load _ (.tmp 43), _, _, _, _⟩) (v := .agg os.toArray) rfl (by kernel_rfl) (by kernel_rfl) (by kernel_rfl) (fun _ _ _ h => h) (yieldsIf_load_row (by rfl) 138 _ rfl (wr.heap.size) 2 rfl os (fun w hS => hS.1) Tryz.rObj_impl_Obj HI1.out) hHeld ?_
            simp only [Act.put, List.setIfInBounds_toArray, List.set_cons_zero, List.set_cons_succ]
            refine wpAnyH_take (i := 2) (oi := ⟨some 45, .fieldAddr _ (.tmp 1) 1, _, _, _, _⟩) (v := .pointer (some ⟨w.heap.size, 1, none⟩)) rfl (by kernel_rfl) (by kernel_rfl) (by kernel_rfl) (fun _ _ _ h => h) (Or.inl ⟨by rfl, by intro w hSw; go_simp⟩) hHeld ?_
            simp only [Act.put, List.setIfInBounds_toArray, List.set_cons_zero, List.set_cons_succ]
            refine wpAnyH_take (i := 3) (oi := ⟨some 46, .load _ (.tmp 45), _, _, _, _⟩) (v := .int .i64 rev) rfl (by kernel_rfl) (by kernel_rfl) (by kernel_rfl) (fun _ _ _ h => h) (yieldsIf_load_cell (by rfl) _ _ rfl _ _ rfl _ (fun w hS => hS.2.1) Tryz.rObj_int) hHeld ?_
            simp only [Act.put, List.setIfInBounds_toArray, List.set_cons_zero, List.set_cons_succ]
            refine wpAnyH_take (i := 4) (oi := ⟨some 47, .fieldAddr _ (.tmp 1) 2, _, _, _, _⟩) (v := .pointer (some ⟨w.heap.size, 2, none⟩)) rfl (by kernel_rfl) (by kernel_rfl) (by kernel_rfl) (fun _ _ _ h => h) (Or.inl ⟨by rfl, by intro w hSw; go_simp⟩) hHeld ?_
            simp only [Act.put, List.setIfInBounds_toArray, List.set_cons_zero, List.set_cons_succ]
            refine wpAnyH_take (i := 5) (oi := ⟨some 48, .load _ (.tmp 47), _, _, _, _⟩) (v := .int .i64 next) rfl (by kernel_rfl) (by kernel_rfl) (by kernel_rfl) (fun _ _ _ h => h) (yieldsIf_load_cell (by rfl) _ _ rfl _ _ rfl _ (fun w hS => hS.2.2.1) Tryz.rObj_int) hHeld ?_
            simp only [Act.put, List.setIfInBounds_toArray, List.set_cons_zero, List.set_cons_succ]
            refine wpAnyH_take (i := 6) (oi := ⟨some 49, .fieldAddr _ (.tmp 4) 1, _, _, _, _⟩) (v := .pointer (some ⟨wr.heap.size, 1, none⟩)) rfl (by kernel_rfl) (by kernel_rfl) (by kernel_rfl) (fun _ _ _ h => h) (Or.inl ⟨by rfl, by intro w hSw; go_simp⟩) hHeld ?_
            simp only [Act.put, List.setIfInBounds_toArray, List.set_cons_zero, List.set_cons_succ]
            refine wpAnyH_take (i := 7) (oi := ⟨some 50, .load _ (.tmp 49), _, _, _, _⟩) (v := .bool gone) rfl (by kernel_rfl) (by kernel_rfl) (by kernel_rfl) (fun _ _ _ h => h) (yieldsIf_load_cell (by rfl) _ _ rfl _ _ rfl _ (fun w hS => hS.2.2.2.1) Tryz.rObj_bool) hHeld ?_
            simp only [Act.put, List.setIfInBounds_toArray, List.set_cons_zero, List.set_cons_succ]
            refine wpAnyH_ready (rs := [8]) (by kernel_rfl) (by simp) (AllReadyH.cons (o := ⟨some 51, .call { callee := .value (.func 168), args := #[.tmp 44, .tmp 46, .tmp 48, .tmp 50], argTypes := #[138, 3, 3, 4] }, _, _, _, _⟩) rfl (fun K hK => ?_) AllReadyH.nil)
            refine step_call_w (by rfl) 168 #[.tmp 44, .tmp 46, .tmp 48, .tmp 50] #[138, 3, 3, 4] rfl (callFunc_enter Tryz.func168 (by kernel_rfl) (by kernel_rfl)) #[.agg os.toArray, .int .i64 rev, .int .i64 next, .bool gone] (by simp [Act.eval]) (Hcon.out _ (Below.drew (Below.refl _ _))) ?_
            rintro e w2 ⟨rfl, hb2⟩
            refine ⟨.bool true, rfl, hK.out _ _ ⟨range_below C0.out hb2.out, cell_below C1.out hb2.out, cell_below C2.out hb2.out, cell_below C3.out hb2.out, cell_below C4.out hb2.out, cell_below C5.out hb2.out, cell_below C6.out hb2.out, cell_below C7.out hb2.out⟩ (fun hHeld => ?_)⟩
            clear hK K
            simp only [Act.put, List.setIfInBounds_toArray, List.set_cons_zero, List.set_cons_succ]
            refine wpAnyH_take (i := 9) (oi := ⟨some 52, .unOp .not _ (.tmp 51), _, _, _, _⟩) (v := .bool false) rfl (by kernel_rfl) (by kernel_rfl) (by kernel_rfl) (fun _ _ _ h => h) (Or.inl ⟨by rfl, by intro w hSw; go_simp⟩) hHeld ?_
            simp only [Act.put, List.setIfInBounds_toArray, List.set_cons_zero, List.set_cons_succ]
            refine wpAnyH_take (i := 10) (oi := ⟨some 53, .move (.tmp 52), _, _, _, _⟩) (v := .bool false) rfl (by kernel_rfl) (by kernel_rfl) (by kernel_rfl) (fun _ _ _ h => h) (Or.inl ⟨by rfl, by intro w hSw; go_simp⟩) hHeld ?_
            simp only [Act.put, List.setIfInBounds_toArray, List.set_cons_zero, List.set_cons_succ]
            refine wpAnyH_take (i := 11) (oi := ⟨some 54, .fieldAddr _ (.tmp 4) 2, _, _, _, _⟩) (v := .pointer (some ⟨wr.heap.size, 2, none⟩)) rfl (by kernel_rfl) (by kernel_rfl) (by kernel_rfl) (fun _ _ _ h => h) (Or.inl ⟨by rfl, by intro w hSw; go_simp⟩) hHeld ?_
            simp only [Act.put, List.setIfInBounds_toArray, List.set_cons_zero, List.set_cons_succ]
            refine wpAnyH_take (i := 12) (oi := ⟨some 55, .fieldAddr _ (.tmp 54) 3, _, _, _, _⟩) (v := .pointer (some ⟨wr.heap.size, 5, none⟩)) rfl (by kernel_rfl) (by kernel_rfl) (by kernel_rfl) (fun _ _ _ h => h) (Or.inl ⟨by rfl, by intro w hSw; go_simp⟩) hHeld ?_
            simp only [Act.put, List.setIfInBounds_toArray, List.set_cons_zero, List.set_cons_succ]
            refine wpAnyH_take (i := 13) (oi := ⟨some 56, .load _ (.tmp 55), _, _, _, _⟩) (v := .int .i64 orv) rfl (by kernel_rfl) (by kernel_rfl) (by kernel_rfl) (fun _ _ _ h => h) (yieldsIf_load_cell (by rfl) _ _ rfl _ _ rfl _ (fun w hS => hS.2.2.2.2.1) Tryz.rObj_int) hHeld ?_
            simp only [Act.put, List.setIfInBounds_toArray, List.set_cons_zero, List.set_cons_succ]
            refine wpAnyH_take (i := 14) (oi := ⟨some 57, .fieldAddr _ (.tmp 4) 0, _, _, _, _⟩) (v := .pointer (some ⟨wr.heap.size, 0, none⟩)) rfl (by kernel_rfl) (by kernel_rfl) (by kernel_rfl) (fun _ _ _ h => h) (Or.inl ⟨by rfl, by intro w hSw; go_simp⟩) hHeld ?_
            simp only [Act.put, List.setIfInBounds_toArray, List.set_cons_zero, List.set_cons_succ]
            refine wpAnyH_take (i := 15) (oi := ⟨some 58, .load _ (.tmp 57), _, _, _, _⟩) (v := .int .i64 crv) rfl (by kernel_rfl) (by kernel_rfl) (by kernel_rfl) (fun _ _ _ h => h) (yieldsIf_load_cell (by rfl) _ _ rfl _ _ rfl _ (fun w hS => hS.2.2.2.2.2.1) Tryz.rObj_int) hHeld ?_
            simp only [Act.put, List.setIfInBounds_toArray, List.set_cons_zero, List.set_cons_succ]
            refine wpAnyH_take (i := 16) (oi := ⟨some 59, .binOp .neq _ (.tmp 56) (.tmp 58) _, _, _, _, _⟩) (v := .bool false) rfl (by kernel_rfl) (by kernel_rfl) (by kernel_rfl) (fun _ _ _ h => h) (Or.inl ⟨by rfl, by intro w hSw; go_simp⟩) hHeld ?_
            simp only [Act.put, List.setIfInBounds_toArray, List.set_cons_zero, List.set_cons_succ]
            refine wpAnyH_take (i := 17) (oi := ⟨some 60, .pick (.tmp 53) (.const (.bool true)) (.tmp 59), _, _, _, _⟩) (v := .bool false) rfl (by kernel_rfl) (by kernel_rfl) (by kernel_rfl) (fun _ _ _ h => h) (Or.inl ⟨by rfl, by intro w hSw; go_simp⟩) hHeld ?_
            simp only [Act.put, List.setIfInBounds_toArray, List.set_cons_zero, List.set_cons_succ]
            refine wpAnyH_take (i := 18) (oi := ⟨some 61, .move (.tmp 60), _, _, _, _⟩) (v := .bool false) rfl (by kernel_rfl) (by kernel_rfl) (by kernel_rfl) (fun _ _ _ h => h) (Or.inl ⟨by rfl, by intro w hSw; go_simp⟩) hHeld ?_
            simp only [Act.put, List.setIfInBounds_toArray, List.set_cons_zero, List.set_cons_succ]
            refine wpAnyH_take (i := 19) (oi := ⟨some 62, .move (.tmp 3), _, _, _, _⟩) (v := .int .i64 ((p + 1 : Nat) : Int)) rfl (by kernel_rfl) (by kernel_rfl) (by kernel_rfl) (fun _ _ _ h => h) (Or.inl ⟨by rfl, by intro w hSw; go_simp⟩) hHeld ?_
            simp only [Act.put, List.setIfInBounds_toArray, List.set_cons_zero, List.set_cons_succ]
            refine wpAnyH_take (i := 20) (oi := ⟨some 63, .binOp .gtr _ (.tmp 62) (.const (.int .i64 0)) _, _, _, _, _⟩) (v := .bool true) rfl (by kernel_rfl) (by kernel_rfl) (by kernel_rfl) (fun _ _ _ h => h) (Or.inl ⟨by rfl, by intro w hSw; go_simp⟩) hHeld ?_
            simp only [Act.put, List.setIfInBounds_toArray, List.set_cons_zero, List.set_cons_succ]
            refine wpAnyH_take (i := 21) (oi := ⟨some 64, .move (.tmp 63), _, _, _, _⟩) (v := .bool true) rfl (by kernel_rfl) (by kernel_rfl) (by kernel_rfl) (fun _ _ _ h => h) (Or.inl ⟨by rfl, by intro w hSw; go_simp⟩) hHeld ?_
            simp only [Act.put, List.setIfInBounds_toArray, List.set_cons_zero, List.set_cons_succ]
            refine wpAnyH_take (i := 22) (oi := ⟨some 65, .fieldAddr _ (.tmp 1) 3, _, _, _, _⟩) (v := .pointer (some ⟨w.heap.size, 3, none⟩)) rfl (by kernel_rfl) (by kernel_rfl) (by kernel_rfl) (fun _ _ _ h => h) (Or.inl ⟨by rfl, by intro w hSw; go_simp⟩) hHeld ?_
            simp only [Act.put, List.setIfInBounds_toArray, List.set_cons_zero, List.set_cons_succ]
            refine wpAnyH_take (i := 23) (oi := ⟨some 66, .load _ (.tmp 65), _, _, _, _⟩) (v := .slice (some ⟨b, off, none⟩) n cap) rfl (by kernel_rfl) (by kernel_rfl) (by kernel_rfl) (fun _ _ _ h => h) (yieldsIf_load_cell (by rfl) _ _ rfl _ _ rfl _ (fun w hS => hS.2.2.2.2.2.2.1) Tryz.rBase_Limpl_Change) hHeld ?_
            simp only [Act.put, List.setIfInBounds_toArray, List.set_cons_zero, List.set_cons_succ]
            refine wpAnyH_take (i := 24) (oi := ⟨some 67, .move (.tmp 3), _, _, _, _⟩) (v := .int .i64 ((p + 1 : Nat) : Int)) rfl (by kernel_rfl) (by kernel_rfl) (by kernel_rfl) (fun _ _ _ h => h) (Or.inl ⟨by rfl, by intro w hSw; go_simp⟩) hHeld ?_
            simp only [Act.put, List.setIfInBounds_toArray, List.set_cons_zero, List.set_cons_succ]
            refine wpAnyH_take (i := 25) (oi := ⟨some 68, .binOp .sub _ (.tmp 67) (.const (.int .i64 1)) _, _, _, _, _⟩) (v := .int .i64 (p : Int)) rfl (by kernel_rfl) (by kernel_rfl) (by kernel_rfl) (fun _ _ _ h => h) (Or.inl ⟨by rfl, by intro w hSw; go_simp⟩) hHeld ?_
            simp only [Act.put, List.setIfInBounds_toArray, List.set_cons_zero, List.set_cons_succ]
            refine wpAnyH_take (i := 26) (oi := ⟨some 69, .indexAddr _ (.tmp 66) (.tmp 68), _, _, _, _⟩) (v := .pointer (some ⟨b, off + p * 19, none⟩)) rfl (by kernel_rfl) (by kernel_rfl) (by kernel_rfl) (fun _ _ _ h => h) (Or.inl ⟨by rfl, by intro w hSw; go_simp⟩) hHeld ?_
            simp only [Act.put, List.setIfInBounds_toArray, List.set_cons_zero, List.set_cons_succ]
            refine wpAnyH_take (i := 27) (oi := ⟨some 70, .fieldAddr _ (.tmp 69) 0, _, _, _, _⟩) (v := .pointer (some ⟨b, off + p * 19, none⟩)) rfl (by kernel_rfl) (by kernel_rfl) (by kernel_rfl) (fun _ _ _ h => h) (Or.inl ⟨by rfl, by intro w hSw; go_simp⟩) hHeld ?_
            simp only [Act.put, List.setIfInBounds_toArray, List.set_cons_zero, List.set_cons_succ]
            refine wpAnyH_take (i := 28) (oi := ⟨some 71, .load _ (.tmp 70), _, _, _, _⟩) (v := .int .i64 prv) rfl (by kernel_rfl) (by kernel_rfl) (by kernel_rfl) (fun _ _ _ h => h) (yieldsIf_load_cell (by rfl) _ _ rfl _ _ rfl _ (fun w hS => hS.2.2.2.2.2.2.2) Tryz.rObj_int) hHeld ?_
            simp only [Act.put, List.setIfInBounds_toArray, List.set_cons_zero, List.set_cons_succ]
            refine wpAnyH_take (i := 29) (oi := ⟨some 72, .fieldAddr _ (.tmp 4) 0, _, _, _, _⟩) (v := .pointer (some ⟨wr.heap.size, 0, none⟩)) rfl (by kernel_rfl) (by kernel_rfl) (by kernel_rfl) (fun _ _ _ h => h) (Or.inl ⟨by rfl, by intro w hSw; go_simp⟩) hHeld ?_
            simp only [Act.put, List.setIfInBounds_toArray, List.set_cons_zero, List.set_cons_succ]
            refine wpAnyH_take (i := 30) (oi := ⟨some 73, .load _ (.tmp 72), _, _, _, _⟩) (v := .int .i64 crv) rfl (by kernel_rfl) (by kernel_rfl) (by kernel_rfl) (fun _ _ _ h => h) (yieldsIf_load_cell (by rfl) _ _ rfl _ _ rfl _ (fun w hS => hS.2.2.2.2.2.1) Tryz.rObj_int) hHeld ?_
            simp only [Act.put, List.setIfInBounds_toArray, List.set_cons_zero, List.set_cons_succ]
            refine wpAnyH_take (i := 31) (oi := ⟨some 74, .binOp .geq _ (.tmp 71) (.tmp 73) _, _, _, _, _⟩) (v := .bool false) rfl (by kernel_rfl) (by kernel_rfl) (by kernel_rfl) (fun _ _ _ h => h) (Or.inl ⟨by rfl, by intro w hSw; go_simp⟩) hHeld ?_
            simp only [Act.put, List.setIfInBounds_toArray, List.set_cons_zero, List.set_cons_succ]
            refine wpAnyH_take (i := 32) (oi := ⟨some 75, .pick (.tmp 64) (.tmp 74) (.const (.bool false)), _, _, _, _⟩) (v := .bool false) rfl (by kernel_rfl) (by kernel_rfl) (by kernel_rfl) (fun _ _ _ h => h) (Or.inl ⟨by rfl, by intro w hSw; go_simp⟩) hHeld ?_
            simp only [Act.put, List.setIfInBounds_toArray, List.set_cons_zero, List.set_cons_succ]
            refine wpAnyH_take (i := 33) (oi := ⟨some 76, .pick (.tmp 61) (.const (.bool true)) (.tmp 75), _, _, _, _⟩) (v := .bool false) rfl (by kernel_rfl) (by kernel_rfl) (by kernel_rfl) (fun _ _ _ h => h) (Or.inl ⟨by rfl, by intro w hSw; go_simp⟩) hHeld ?_
            simp only [Act.put, List.setIfInBounds_toArray, List.set_cons_zero, List.set_cons_succ]
            refine wpAnyH_done (by kernel_rfl) ?_ _
            clear hHeld
            go_wp2
            go_roundw
            case rel => exact ⟨p + 1 + 1, by omega, by go_num, Hn, HOW.out _ hb2.out, HB1.out.trans (hb2.out.mono HB1.out.size)⟩
            case measure => (simp [intOf] <;> omega)
          · have Hn := uhide (HBAD.out (.inr (.inr ⟨by omega, by rw [Nat.add_sub_cancel, ← hpr]; omega⟩)))
            have hd : decide (crv ≤ prv) = true := by rw [decide_eq_true_eq]; omega
            have hd2 : crv ≤ prv := by omega
            clear HBAD HOKK hhp hcp hp0 hpr hcp0 HM has
            refine wp_region_held_drew (S := fun w' => w'.rangeAt wr.heap.size 2 os ∧ w'.cell? ⟨w.heap.size, 1, none⟩ = some (.int .i64 rev) ∧ w'.cell? ⟨w.heap.size, 2, none⟩ = some (.int .i64 next) ∧ w'.cell? ⟨wr.heap.size, 1, none⟩ = some (.bool gone) ∧ w'.cell? ⟨wr.heap.size, 5, none⟩ = some (.int .i64 orv) ∧ w'.cell? ⟨wr.heap.size, 0, none⟩ = some (.int .i64 crv) ∧ w'.cell? ⟨w.heap.size, 3, none⟩ = some (.slice (some ⟨b, off, none⟩) n cap) ∧ w'.cell? ⟨b, off + p * 19, none⟩ = some (.int .i64 prv)) (by kernel_rfl) ⟨range_below C0.out (Below.drew (Below.refl _ _)), cell_below C1.out (Below.drew (Below.refl _ _)), cell_below C2.out (Below.drew (Below.refl _ _)), cell_below C3.out (Below.drew (Below.refl _ _)), cell_below C4.out (Below.drew (Below.refl _ _)), cell_below C5.out (Below.drew (Below.refl _ _)), cell_below C6.out (Below.drew (Below.refl _ _)), cell_below C7.out (Below.drew (Below.refl _ _))⟩ (fun hHeld => ?_)
            refine wpAnyH_take (i := 0) (oi := ⟨some 43, .fieldAddr _ (.tmp 4) 2, _, _, _, _⟩) (v := .pointer (some ⟨wr.heap.size, 2, none⟩)) rfl (by kernel_rfl) (by kernel_rfl) (by kernel_rfl) (fun _ _ _ h => h) (Or.inl ⟨by rfl, by intro w hSw; go_simp⟩) hHeld ?_
            simp only [Act.put, List.setIfInBounds_toArray, List.set_cons_zero, List.set_cons_succ]
            refine wpAnyH_take (i := 1) (oi := ⟨some 44, .load _ (.tmp 43), _, _, _, _⟩) (v := .agg os.toArray) rfl (by kernel_rfl) (by kernel_rfl) (by kernel_rfl) (fun _ _ _ h => h) (yieldsIf_load_row (by rfl) 138 _ rfl (wr.heap.size) 2 rfl os (fun w hS => hS.1) Tryz.rObj_impl_Obj HI1.out) hHeld ?_
            simp only [Act.put, List.setIfInBounds_toArray, List.set_cons_zero, List.set_cons_succ]
            refine wpAnyH_take (i := 2) (oi := ⟨some 45, .fieldAddr _ (.tmp 1) 1, _, _, _, _⟩) (v := .pointer (some ⟨w.heap.size, 1, none⟩)) rfl (by kernel_rfl) (by kernel_rfl) (by kernel_rfl) (fun _ _ _ h => h) (Or.inl ⟨by rfl, by intro w hSw; go_simp⟩) hHeld ?_
            simp only [Act.put, List.setIfInBounds_toArray, List.set_cons_zero, List.set_cons_succ]
            refine wpAnyH_take (i := 3) (oi := ⟨some 46, .load _ (.tmp 45), _, _, _, _⟩) (v := .int .i64 rev) rfl (by kernel_rfl) (by kernel_rfl) (by kernel_rfl) (fun _ _ _ h => h) (yieldsIf_load_cell (by rfl) _ _ rfl _ _ rfl _ (fun w hS => hS.2.1) Tryz.rObj_int) hHeld ?_
            simp only [Act.put, List.setIfInBounds_toArray, List.set_cons_zero, List.set_cons_succ]
            refine wpAnyH_take (i := 4) (oi := ⟨some 47, .fieldAddr _ (.tmp 1) 2, _, _, _, _⟩) (v := .pointer (some ⟨w.heap.size, 2, none⟩)) rfl (by kernel_rfl) (by kernel_rfl) (by kernel_rfl) (fun _ _ _ h => h) (Or.inl ⟨by rfl, by intro w hSw; go_simp⟩) hHeld ?_
            simp only [Act.put, List.setIfInBounds_toArray, List.set_cons_zero, List.set_cons_succ]
            refine wpAnyH_take (i := 5) (oi := ⟨some 48, .load _ (.tmp 47), _, _, _, _⟩) (v := .int .i64 next) rfl (by kernel_rfl) (by kernel_rfl) (by kernel_rfl) (fun _ _ _ h => h) (yieldsIf_load_cell (by rfl) _ _ rfl _ _ rfl _ (fun w hS => hS.2.2.1) Tryz.rObj_int) hHeld ?_
            simp only [Act.put, List.setIfInBounds_toArray, List.set_cons_zero, List.set_cons_succ]
            refine wpAnyH_take (i := 6) (oi := ⟨some 49, .fieldAddr _ (.tmp 4) 1, _, _, _, _⟩) (v := .pointer (some ⟨wr.heap.size, 1, none⟩)) rfl (by kernel_rfl) (by kernel_rfl) (by kernel_rfl) (fun _ _ _ h => h) (Or.inl ⟨by rfl, by intro w hSw; go_simp⟩) hHeld ?_
            simp only [Act.put, List.setIfInBounds_toArray, List.set_cons_zero, List.set_cons_succ]
            refine wpAnyH_take (i := 7) (oi := ⟨some 50, .load _ (.tmp 49), _, _, _, _⟩) (v := .bool gone) rfl (by kernel_rfl) (by kernel_rfl) (by kernel_rfl) (fun _ _ _ h => h) (yieldsIf_load_cell (by rfl) _ _ rfl _ _ rfl _ (fun w hS => hS.2.2.2.1) Tryz.rObj_bool) hHeld ?_
            simp only [Act.put, List.setIfInBounds_toArray, List.set_cons_zero, List.set_cons_succ]
            refine wpAnyH_ready (rs := [8]) (by kernel_rfl) (by simp) (AllReadyH.cons (o := ⟨some 51, .call { callee := .value (.func 168), args := #[.tmp 44, .tmp 46, .tmp 48, .tmp 50], argTypes := #[138, 3, 3, 4] }, _, _, _, _⟩) rfl (fun K hK => ?_) AllReadyH.nil)
            refine step_call_w (by rfl) 168 #[.tmp 44, .tmp 46, .tmp 48, .tmp 50] #[138, 3, 3, 4] rfl (callFunc_enter Tryz.func168 (by kernel_rfl) (by kernel_rfl)) #[.agg os.toArray, .int .i64 rev, .int .i64 next, .bool gone] (by simp [Act.eval]) (Hcon.out _ (Below.drew (Below.refl _ _))) ?_
            rintro e w2 ⟨rfl, hb2⟩
            refine ⟨.bool true, rfl, hK.out _ _ ⟨range_below C0.out hb2.out, cell_below C1.out hb2.out, cell_below C2.out hb2.out, cell_below C3.out hb2.out, cell_below C4.out hb2.out, cell_below C5.out hb2.out, cell_below C6.out hb2.out, cell_below C7.out hb2.out⟩ (fun hHeld => ?_)⟩
            clear hK K
            simp only [Act.put, List.setIfInBounds_toArray, List.set_cons_zero, List.set_cons_succ]
            refine wpAnyH_take (i := 9) (oi := ⟨some 52, .unOp .not _ (.tmp 51), _, _, _, _⟩) (v := .bool false) rfl (by kernel_rfl) (by kernel_rfl) (by kernel_rfl) (fun _ _ _ h => h) (Or.inl ⟨by rfl, by intro w hSw; go_simp⟩) hHeld ?_
            simp only [Act.put, List.setIfInBounds_toArray, List.set_cons_zero, List.set_cons_succ]
            refine wpAnyH_take (i := 10) (oi := ⟨some 53, .move (.tmp 52), _, _, _, _⟩) (v := .bool false) rfl (by kernel_rfl) (by kernel_rfl) (by kernel_rfl) (fun _ _ _ h => h) (Or.inl ⟨by rfl, by intro w hSw; go_simp⟩) hHeld ?_
            simp only [Act.put, List.setIfInBounds_toArray, List.set_cons_zero, List.set_cons_succ]
            refine wpAnyH_take (i := 11) (oi := ⟨some 54, .fieldAddr _ (.tmp 4) 2, _, _, _, _⟩) (v := .pointer (some ⟨wr.heap.size, 2, none⟩)) rfl (by kernel_rfl) (by kernel_rfl) (by kernel_rfl) (fun _ _ _ h => h) (Or.inl ⟨by rfl, by intro w hSw; go_simp⟩) hHeld ?_
            simp only [Act.put, List.setIfInBounds_toArray, List.set_cons_zero, List.set_cons_succ]
            refine wpAnyH_take (i := 12) (oi := ⟨some 55, .fieldAddr _ (.tmp 54) 3, _, _, _, _⟩) (v := .pointer (some ⟨wr.heap.size, 5, none⟩)) rfl (by kernel_rfl) (by kernel_rfl) (by kernel_rfl) (fun _ _ _ h => h) (Or.inl ⟨by rfl, by intro w hSw; go_simp⟩) hHeld ?_
            simp only [Act.put, List.setIfInBounds_toArray, List.set_cons_zero, List.set_cons_succ]
            refine wpAnyH_take (i := 13) (oi := ⟨some 56, .load _ (.tmp 55), _, _, _, _⟩) (v := .int .i64 orv) rfl (by kernel_rfl) (by kernel_rfl) (by kernel_rfl) (fun _ _ _ h => h) (yieldsIf_load_cell (by rfl) _ _ rfl _ _ rfl _ (fun w hS => hS.2.2.2.2.1) Tryz.rObj_int) hHeld ?_
            simp only [Act.put, List.setIfInBounds_toArray, List.set_cons_zero, List.set_cons_succ]
            refine wpAnyH_take (i := 14) (oi := ⟨some 57, .fieldAddr _ (.tmp 4) 0, _, _, _, _⟩) (v := .pointer (some ⟨wr.heap.size, 0, none⟩)) rfl (by kernel_rfl) (by kernel_rfl) (by kernel_rfl) (fun _ _ _ h => h) (Or.inl ⟨by rfl, by intro w hSw; go_simp⟩) hHeld ?_
            simp only [Act.put, List.setIfInBounds_toArray, List.set_cons_zero, List.set_cons_succ]
            refine wpAnyH_take (i := 15) (oi := ⟨some 58, .load _ (.tmp 57), _, _, _, _⟩) (v := .int .i64 crv) rfl (by kernel_rfl) (by kernel_rfl) (by kernel_rfl) (fun _ _ _ h => h) (yieldsIf_load_cell (by rfl) _ _ rfl _ _ rfl _ (fun w hS => hS.2.2.2.2.2.1) Tryz.rObj_int) hHeld ?_
            simp only [Act.put, List.setIfInBounds_toArray, List.set_cons_zero, List.set_cons_succ]
            refine wpAnyH_take (i := 16) (oi := ⟨some 59, .binOp .neq _ (.tmp 56) (.tmp 58) _, _, _, _, _⟩) (v := .bool false) rfl (by kernel_rfl) (by kernel_rfl) (by kernel_rfl) (fun _ _ _ h => h) (Or.inl ⟨by rfl, by intro w hSw; go_simp⟩) hHeld ?_
            simp only [Act.put, List.setIfInBounds_toArray, List.set_cons_zero, List.set_cons_succ]
            refine wpAnyH_take (i := 17) (oi := ⟨some 60, .pick (.tmp 53) (.const (.bool true)) (.tmp 59), _, _, _, _⟩) (v := .bool false) rfl (by kernel_rfl) (by kernel_rfl) (by kernel_rfl) (fun _ _ _ h => h) (Or.inl ⟨by rfl, by intro w hSw; go_simp⟩) hHeld ?_
            simp only [Act.put, List.setIfInBounds_toArray, List.set_cons_zero, List.set_cons_succ]
            refine wpAnyH_take (i := 18) (oi := ⟨some 61, .move (.tmp 60), _, _, _, _⟩) (v := .bool false) rfl (by kernel_rfl) (by kernel_rfl) (by kernel_rfl) (fun _ _ _ h => h) (Or.inl ⟨by rfl, by intro w hSw; go_simp⟩) hHeld ?_
            simp only [Act.put, List.setIfInBounds_toArray, List.set_cons_zero, List.set_cons_succ]
            refine wpAnyH_take (i := 19) (oi := ⟨some 62, .move (.tmp 3), _, _, _, _⟩) (v := .int .i64 ((p + 1 : Nat) : Int)) rfl (by kernel_rfl) (by kernel_rfl) (by kernel_rfl) (fun _ _ _ h => h) (Or.inl ⟨by rfl, by intro w hSw; go_simp⟩) hHeld ?_
            simp only [Act.put, List.setIfInBounds_toArray, List.set_cons_zero, List.set_cons_succ]
            refine wpAnyH_take (i := 20) (oi := ⟨some 63, .binOp .gtr _ (.tmp 62) (.const (.int .i64 0)) _, _, _, _, _⟩) (v := .bool true) rfl (by kernel_rfl) (by kernel_rfl) (by kernel_rfl) (fun _ _ _ h => h) (Or.inl ⟨by rfl, by intro w hSw; go_simp⟩) hHeld ?_
            simp only [Act.put, List.setIfInBounds_toArray, List.set_cons_zero, List.set_cons_succ]
            refine wpAnyH_take (i := 21) (oi := ⟨some 64, .move (.tmp 63), _, _, _, _⟩) (v := .bool true) rfl (by kernel_rfl) (by kernel_rfl) (by kernel_rfl) (fun _ _ _ h => h) (Or.inl ⟨by rfl, by intro w hSw; go_simp⟩) hHeld ?_
            simp only [Act.put, List.setIfInBounds_toArray, List.set_cons_zero, List.set_cons_succ]
            refine wpAnyH_take (i := 22) (oi := ⟨some 65, .fieldAddr _ (.tmp 1) 3, _, _, _, _⟩) (v := .pointer (some ⟨w.heap.size, 3, none⟩)) rfl (by kernel_rfl) (by kernel_rfl) (by kernel_rfl) (fun _ _ _ h => h) (Or.inl ⟨by rfl, by intro w hSw; go_simp⟩) hHeld ?_
            simp only [Act.put, List.setIfInBounds_toArray, List.set_cons_zero, List.set_cons_succ]
            refine wpAnyH_take (i := 23) (oi := ⟨some 66, .load _ (.tmp 65), _, _, _, _⟩) (v := .slice (some ⟨b, off, none⟩) n cap) rfl (by kernel_rfl) (by kernel_rfl) (by kernel_rfl) (fun _ _ _ h => h) (yieldsIf_load_cell (by rfl) _ _ rfl _ _ rfl _ (fun w hS => hS.2.2.2.2.2.2.1) Tryz.rBase_Limpl_Change) hHeld ?_
            simp only [Act.put, List.setIfInBounds_toArray, List.set_cons_zero, List.set_cons_succ]
            refine wpAnyH_take (i := 24) (oi := ⟨some 67, .move (.tmp 3), _, _, _, _⟩) (v := .int .i64 ((p + 1 : Nat) : Int)) rfl (by kernel_rfl) (by kernel_rfl) (by kernel_rfl) (fun _ _ _ h => h) (Or.inl ⟨by rfl, by intro w hSw; go_simp⟩) hHeld ?_
            simp only [Act.put, List.setIfInBounds_toArray, List.set_cons_zero, List.set_cons_succ]
            refine wpAnyH_take (i := 25) (oi := ⟨some 68, .binOp .sub _ (.tmp 67) (.const (.int .i64 1)) _, _, _, _, _⟩) (v := .int .i64 (p : Int)) rfl (by kernel_rfl) (by kernel_rfl) (by kernel_rfl) (fun _ _ _ h => h) (Or.inl ⟨by rfl, by intro w hSw; go_simp⟩) hHeld ?_
            simp only [Act.put, List.setIfInBounds_toArray, List.set_cons_zero, List.set_cons_succ]
            refine wpAnyH_take (i := 26) (oi := ⟨some 69, .indexAddr _ (.tmp 66) (.tmp 68), _, _, _, _⟩) (v := .pointer (some ⟨b, off + p * 19, none⟩)) rfl (by kernel_rfl) (by kernel_rfl) (by kernel_rfl) (fun _ _ _ h => h) (Or.inl ⟨by rfl, by intro w hSw; go_simp⟩) hHeld ?_
            simp only [Act.put, List.setIfInBounds_toArray, List.set_cons_zero, List.set_cons_succ]
            refine wpAnyH_take (i := 27) (oi := ⟨some 70, .fieldAddr _ (.tmp 69) 0, _, _, _, _⟩) (v := .pointer (some ⟨b, off + p * 19, none⟩)) rfl (by kernel_rfl) (by kernel_rfl) (by kernel_rfl) (fun _ _ _ h => h) (Or.inl ⟨by rfl, by intro w hSw; go_simp⟩) hHeld ?_
            simp only [Act.put, List.setIfInBounds_toArray, List.set_cons_zero, List.set_cons_succ]
            refine wpAnyH_take (i := 28) (oi := ⟨some 71, .load _ (.tmp 70), _, _, _, _⟩) (v := .int .i64 prv) rfl (by kernel_rfl) (by kernel_rfl) (by kernel_rfl) (fun _ _ _ h => h) (yieldsIf_load_cell (by rfl) _ _ rfl _ _ rfl _ (fun w hS => hS.2.2.2.2.2.2.2) Tryz.rObj_int) hHeld ?_
            simp only [Act.put, List.setIfInBounds_toArray, List.set_cons_zero, List.set_cons_succ]
            refine wpAnyH_take (i := 29) (oi := ⟨some 72, .fieldAddr _ (.tmp 4) 0, _, _, _, _⟩) (v := .pointer (some ⟨wr.heap.size, 0, none⟩)) rfl (by kernel_rfl) (by kernel_rfl) (by kernel_rfl) (fun _ _ _ h => h) (Or.inl ⟨by rfl, by intro w hSw; go_simp⟩) hHeld ?_
            simp only [Act.put, List.setIfInBounds_toArray, List.set_cons_zero, List.set_cons_succ]
            refine wpAnyH_take (i := 30) (oi := ⟨some 73, .load _ (.tmp 72), _, _, _, _⟩) (v := .int .i64 crv) rfl (by kernel_rfl) (by kernel_rfl) (by kernel_rfl) (fun _ _ _ h => h) (yieldsIf_load_cell (by rfl) _ _ rfl _ _ rfl _ (fun w hS => hS.2.2.2.2.2.1) Tryz.rObj_int) hHeld ?_
            simp only [Act.put, List.setIfInBounds_toArray, List.set_cons_zero, List.set_cons_succ]
            refine wpAnyH_take (i := 31) (oi := ⟨some 74, .binOp .geq _ (.tmp 71) (.tmp 73) _, _, _, _, _⟩) (v := .bool true) rfl (by kernel_rfl) (by kernel_rfl) (by kernel_rfl) (fun _ _ _ h => h) (Or.inl ⟨by rfl, by intro w hSw; go_simp⟩) hHeld ?_
            simp only [Act.put, List.setIfInBounds_toArray, List.set_cons_zero, List.set_cons_succ]
            refine wpAnyH_take (i := 32) (oi := ⟨some 75, .pick (.tmp 64) (.tmp 74) (.const (.bool false)), _, _, _, _⟩) (v := .bool true) rfl (by kernel_rfl) (by kernel_rfl) (by kernel_rfl) (fun _ _ _ h => h) (Or.inl ⟨by rfl, by intro w hSw; go_simp⟩) hHeld ?_
            simp only [Act.put, List.setIfInBounds_toArray, List.set_cons_zero, List.set_cons_succ]
            refine wpAnyH_take (i := 33) (oi := ⟨some 76, .pick (.tmp 61) (.const (.bool true)) (.tmp 75), _, _, _, _⟩) (v := .bool true) rfl (by kernel_rfl) (by kernel_rfl) (by kernel_rfl) (fun _ _ _ h => h) (Or.inl ⟨by rfl, by intro w hSw; go_simp⟩) hHeld ?_
            simp only [Act.put, List.setIfInBounds_toArray, List.set_cons_zero, List.set_cons_succ]
            refine wpAnyH_done (by kernel_rfl) ?_ _
            clear hHeld
            go_wp2
            go_ret
            exact ⟨ret_bool (by rw [Hn.out]; simp), HB1.out.trans (hb2.out.mono HB1.out.size)⟩
      · have e : q = n := by omega
        subst e
        have Hv : Hid (logB cs q rev next = true) := logB_end Ho.out
        clear Ho Hx Ht
        go_wp2
        go_ret
        exact ⟨ret_bool (by rw [Hv.out]; simp [H40.out]), hbw.out⟩
end Go.Proofs.YtdnodaoeflbfkaaGreat
/- Bases: the program's look at the changes of one. -/
namespace Go.Proofs.YtdnodaoeflbfkaaGreat
open Go.RowKit Go.BigFrame
set_option linter.unusedVariables false
set_option linter.unusedSimpArgs false

set_option maxRecDepth 40000 in
set_option maxHeartbeats 6400000 in
theorem iLogOk_of {lo hi : Nat} (n : Nat) (cs : UD) (rev next : Int) (v0 v3 : Value) (w : World) (g3 : tyS 19 n cs 9) (s3 : uS w lo hi 19 n cs v3) (hn0 : -9223372036854775807 ≤ next) (hn1 : next ≤ 9223372036854775807) :
    Calls Tryz.prog 174 #[.agg #[v0, .int .i64 rev, .int .i64 next, v3]] w fun e w' => e = .returned (.bool (logB cs n rev next)) ∧ Below w.heap.size w w' := by
  obtain ⟨a3, cap, rfl, s3c⟩ := s3
  have Hx : Hid (uS w lo hi 19 n cs (.slice a3 n cap)) := ⟨a3, cap, rfl, s3c⟩
  have Ht := uhide g3
  have hmx := g3.2.2.1
  unfold maxLen at hmx
  have HN := uhide (And.intro hn0 hn1)
  have OA : Hid (objU (w.alloc (.cells #[v0, .int .i64 rev, .int .i64 next, .slice a3 n cap] 69)) w.heap.size 69 [v0, .int .i64 rev, .int .i64 next, .slice a3 n cap]) := objU.new2 _ _ rfl
  have BA : Hid (Below w.heap.size w (w.alloc (.cells #[v0, .int .i64 rev, .int .i64 next, .slice a3 n cap] 69))) := (Below.refl _ _).alloc (Nat.le_refl _) _
  have hwr : IntKind.i64.wrap (next - 1) = next - 1 := uwrap64 _ (by omega) (by omega)
  have hwr2 : wrap64 (next - 1) = next - 1 := by unfold wrap64; omega
  clear g3 s3c hn0 hn1
  go_enter Tryz.func174, Tryz.ntmps174
  go_wp2_with (first
    | ((with_reducible refine wpList_load_oneG ?qqg22 67 ?qqx22 ?qqo22 w.heap.size 3 ?qqh22 (.slice a3 n cap) Tryz.rBase_Limpl_Change (OA.out.cell 3 _ rfl) ?_); (case qqg22 => rfl); (case qqo22 => rfl); (case qqh22 => simp [Act.eval, Act.put]))
    )
  go_loopw [8] (fun i wr => ∃ (q : Nat), q ≤ n ∧ i = .int .i64 q ∧ Hid (∀ j, j < q → okL cs rev next j) ∧ Hid (objU wr w.heap.size 69 [v0, .int .i64 rev, .int .i64 next, .slice a3 n cap]) ∧ Hid (Below w.heap.size w wr)) (fun i _ => n - (intOf i).toNat)
  case atStart => exact ⟨0, Nat.zero_le _, rfl, fun j hj => by omega, OA, BA⟩
  case round =>
    obtain ⟨q, hq, rfl, Ho, OW, hbw⟩ := hrel
    by_cases hlt : q < n
    · obtain ⟨b, off, rfl, hbb, hm⟩ := (Hx.out.below hbw.out).cells (by omega)
      have htr := Ht.out.row hlt
      obtain ⟨xs, hh, hcl⟩ := (hm.row 19 q).hand
      obtain ⟨hc0, hc1, os, hxs, hto, hho⟩ := change_cells htr hh
      have hoc := (obj_cells hto hho).2.2.2.1
      have hol : os.length = 17 := by rw [hho.len, tyL.len hto]; rfl
      have hxl : xs.length = 19 := by rw [hxs]; simp [hol]
      have one := one_cell htr hh
      have ONE := uhide one
      have HIX : Hid ((Tryz.prog.info? 140).map (·.size) = some xs.length) := by show _ = _; rw [hxl]; exact Tryz.zChange_impl_Change
      have HI1 : Hid ((Tryz.prog.info? 138).map (·.size) = some os.length) := by show _ = _; rw [hol]; exact Tryz.zObj_impl_Obj
      have RX : Hid (wr.rangeAt b (off + q * 19) xs) := hcl
      have TH : Hid ((wr.alloc (.cells ([.int .i64 0, .bool false, .int .i64 0, .string ⟨#[]⟩, .int .i64 0, .int .i64 0, .int .i64 0, .bool false, .slice none 0 0, .int .i64 0, .string ⟨#[]⟩, .int .i64 0, .slice none 0 0, .slice none 0 0, .int .i64 0, .string ⟨#[]⟩, .int .i64 0, .slice none 0 0, .slice none 0 0] : List Value).toArray 140)).there wr.heap.size 0 xs.length) := by rw [hxl]; exact (objU.new2 _ _ rfl).there 0 19 (by decide)
      have HOX : Hid (∀ wy, wy = (wr.alloc (.cells ([.int .i64 0, .bool false, .int .i64 0, .string ⟨#[]⟩, .int .i64 0, .int .i64 0, .int .i64 0, .bool false, .slice none 0 0, .int .i64 0, .string ⟨#[]⟩, .int .i64 0, .slice none 0 0, .slice none 0 0, .int .i64 0, .string ⟨#[]⟩, .int .i64 0, .slice none 0 0, .slice none 0 0] : List Value).toArray 140)).setCells wr.heap.size 0 xs → objU wy wr.heap.size 140 xs ∧ objU wy w.heap.size 69 [v0, .int .i64 rev, .int .i64 next, .slice (some ⟨b, off, none⟩) n cap] ∧ Below wr.heap.size wr wy) := fun wy e => by
        subst e
        have h1 := objU.setCells (t := 140) xs ([.int .i64 0, .bool false, .int .i64 0, .string ⟨#[]⟩, .int .i64 0, .int .i64 0, .int .i64 0, .bool false, .slice none 0 0, .int .i64 0, .string ⟨#[]⟩, .int .i64 0, .slice none 0 0, .slice none 0 0, .int .i64 0, .string ⟨#[]⟩, .int .i64 0, .slice none 0 0, .slice none 0 0]) [] [] _ (objU.new2 (w := wr) _ _ rfl) (by rw [hxl]; rfl)
        refine ⟨by simpa using h1, (OW.out.old _).outS (OutS.setCells _ _ _) (by have := OW.out.lt; simp; omega), ?_⟩
        exact ((Below.refl _ _).alloc (Nat.le_refl _) _).trans ((OutS.setCells _ _ _).below (fun t ht => by simp at ht; omega) (by simp))
      have hq0 : (0 : Int) ≤ (q : Int) := Int.natCast_nonneg _
      have hqn : (q : Int) < (n : Int) := by omega
      clear hcl one
      have hlo := hxs
      obtain ⟨gone, hgo⟩ : ∃ g, g = goneU (rowU cs 19 q) := ⟨_, rfl⟩
      obtain ⟨crv, hcr⟩ : ∃ g, g = kindU (rowU cs 19 q) := ⟨_, rfl⟩
      obtain ⟨orv, hor⟩ : ∃ g, g = revU (chO (rowU cs 19 q)) := ⟨_, rfl⟩
      obtain ⟨ob, hob⟩ : ∃ g, g = objB (chO (rowU cs 19 q)) rev next := ⟨_, rfl⟩
      obtain ⟨en, hen⟩ : ∃ g, g = endsB (chO (rowU cs 19 q)) := ⟨_, rfl⟩
      have HCO : Hid (∀ wx, Below wr.heap.size wr wx → Calls Tryz.prog 216 #[.agg os.toArray, .int .i64 rev, .int .i64 (next - 1)] wx fun e w' => e = .returned (.bool ob) ∧ Hid (Below wx.heap.size wx w')) := fun wx hb => (hob ▸ objOk_any (lo := lo) (hi := hi) _ os rev next wx hto (hho.below hb) HN.out.1 HN.out.2).mono fun e w' h => ⟨h.1, h.2⟩
      have HCE : Hid (∀ wx, Below wr.heap.size wr wx → Calls Tryz.prog 133 #[.agg os.toArray] wx fun e w' => e = .returned (.bool en) ∧ Hid (Below wx.heap.size wx w')) := fun wx hb => (hen ▸ iends_any (lo := lo) (hi := hi) _ os wx hto (hho.below hb)).mono fun e w' h => ⟨h.1, h.2⟩
      have hx0 : xs[0]? = some (.int .i64 crv) := by rw [hcr]; exact hc0
      have hx1 : xs[1]? = some (.bool gone) := by rw [hgo]; exact hc1
      have hx5 : xs[5]? = some (.int .i64 orv) := by rw [hxs, hor]; simpa using hoc
      have hxo : ∀ i v, os[i]? = some v → xs[2 + i]? = some v := fun i v h => by rw [hxs, show 2 + i = i + 1 + 1 by omega]; simpa using h
      have HBAD : Hid ((ob = false ∨ orv ≠ crv ∨ (gone = false ∧ en = true) ∨ (0 < q ∧ ¬ kindU (rowU cs 19 (q - 1)) < crv)) → logB cs n rev next = false) := fun h => logB_bad hlt (fun g => by
        rcases h with h | h | ⟨h1, h2⟩ | ⟨h1, h2⟩
        · have := g.1; rw [← hob, h] at this; simp at this
        · exact h (by rw [hor, hcr]; exact g.2.1)
        · have := g.1; rw [← hgo, ← hen, h1, h2] at this; simp at this
        · exact h2 (by rw [hcr]; exact g.2.2 h1))
      have HOKK : Hid (ob = true → orv = crv → (gone = true ∨ en = false) → (0 < q → kindU (rowU cs 19 (q - 1)) < crv) → ∀ j, j < q + 1 → okL cs rev next j) := fun h1 h2 h4 h3 j hj => by
        by_cases e : j = q
        · subst e
          exact ⟨by rw [← hgo, ← hob, ← hen, h1]; rcases h4 with h4 | h4 <;> rw [h4] <;> simp, by rw [← hor, ← hcr]; exact h2, fun h => by rw [← hcr]; exact h3 h⟩
        · exact Ho.out j (by omega)
      have X0 := uhide hx0
      have X1 := uhide hx1
      have X5 := uhide hx5
      have XO := uhide hxo
      have HM := uhide hm
      clear hc0 hc1 hxs hlo hto hho hoc hol hxl hh hx0 hx1 hx5 hxo hgo hcr hor hob hen htr Ho OW hm
      go_wp2_with (first
        | ((with_reducible refine wpList_load_row2 ?qqg80 140 ?qqx80 ?qqo80 b (off + q * 19) ?qqh80 xs Tryz.rChange_impl_Change HIX.out RX.out ?_); (case qqg80 => rfl); (case qqo80 => rfl); (case qqh80 => simp [Act.eval, Act.put]))
        | ((with_reducible refine wpList_store_cells ?qqg81 140 ?qqx81 ?qqy81 ?qqo81 ?qqd81 wr.heap.size 0 ?qqh81 (.agg xs.toArray) ?qqv81 xs cells_agg ONE.out HIX.out TH.out ?_); (case qqg81 => rfl); (case qqo81 => rfl); (case qqd81 => rfl); (case qqh81 => simp [Act.eval, Act.put]); (case qqv81 => simp [Act.eval, Act.put]); intro wy ey; have HY := uhide (HOX.out wy ey); clear ey; have C0 : Hid (wy.rangeAt wr.heap.size 2 os) := HY.out.1.range 2 os XO.out; have C1 : Hid (wy.cell? ⟨w.heap.size, 1, none⟩ = some (.int .i64 rev)) := HY.out.2.1.cell 1 _ rfl; have C2 : Hid (wy.cell? ⟨w.heap.size, 2, none⟩ = some (.int .i64 next)) := HY.out.2.1.cell 2 _ rfl; have C3 : Hid (wy.cell? ⟨wr.heap.size, 1, none⟩ = some (.bool gone)) := HY.out.1.cell 1 _ X1.out; have C4 : Hid (wy.cell? ⟨wr.heap.size, 5, none⟩ = some (.int .i64 orv)) := HY.out.1.cell 5 _ X5.out; have C5 : Hid (wy.cell? ⟨wr.heap.size, 0, none⟩ = some (.int .i64 crv)) := HY.out.1.cell 0 _ X0.out; have C6 : Hid (wy.cell? ⟨w.heap.size, 3, none⟩ = some (.slice (some ⟨b, off, none⟩) n cap)) := HY.out.2.1.cell 3 _ rfl)
          | ((with_reducible refine wpList_load_rowG ?qqg82 138 ?qqx82 ?qqo82 wr.heap.size 2 ?qqh82 os Tryz.rObj_impl_Obj HI1.out C0.out ?_); (case qqg82 => rfl); (case qqo82 => rfl); (case qqh82 => simp [Act.eval, Act.put]))
          | ((with_reducible refine wpList_load_oneG ?qqg83 3 ?qqx83 ?qqo83 wr.heap.size 5 ?qqh83 (.int .i64 orv) Tryz.rObj_int C4.out ?_); (case qqg83 => rfl); (case qqo83 => rfl); (case qqh83 => simp [Act.eval, Act.put]))
          | ((with_reducible refine wpList_load_oneG ?qqg84 3 ?qqx84 ?qqo84 wr.heap.size 0 ?qqh84 (.int .i64 crv) Tryz.rObj_int C5.out ?_); (case qqg84 => rfl); (case qqo84 => rfl); (case qqh84 => simp [Act.eval, Act.put]))
          | ((with_reducible refine wpList_load_oneG ?qqg85 4 ?qqx85 ?qqo85 wr.heap.size 1 ?qqh85 (.bool gone) Tryz.rObj_bool C3.out ?_); (case qqg85 => rfl); (case qqo85 => rfl); (case qqh85 => simp [Act.eval, Act.put]))
          | ((with_reducible refine wpList_load_oneG ?qqg86 3 ?qqx86 ?qqo86 w.heap.size 1 ?qqh86 (.int .i64 rev) Tryz.rObj_int C1.out ?_); (case qqg86 => rfl); (case qqo86 => rfl); (case qqh86 => simp [Act.eval, Act.put]))
          | ((with_reducible refine wpList_load_oneG ?qqg87 3 ?qqx87 ?qqo87 w.heap.size 2 ?qqh87 (.int .i64 next) Tryz.rObj_int C2.out ?_); (case qqg87 => rfl); (case qqo87 => rfl); (case qqh87 => simp [Act.eval, Act.put]))
          | ((with_reducible refine wpList_load_rowG ?qqg88 138 ?qqx88 ?qqo88 wr.heap.size 2 ?qqh88 os Tryz.rObj_impl_Obj HI1.out C0.out ?_); (case qqg88 => rfl); (case qqo88 => rfl); (case qqh88 => simp [Act.eval, Act.put]))
          | ((with_reducible refine wpList_load_oneG ?qqg89 3 ?qqx89 ?qqo89 wr.heap.size 5 ?qqh89 (.int .i64 orv) Tryz.rObj_int C4.out ?_); (case qqg89 => rfl); (case qqo89 => rfl); (case qqh89 => simp [Act.eval, Act.put]))
          | ((with_reducible refine wpList_load_oneG ?qqg90 3 ?qqx90 ?qqo90 wr.heap.size 0 ?qqh90 (.int .i64 crv) Tryz.rObj_int C5.out ?_); (case qqg90 => rfl); (case qqo90 => rfl); (case qqh90 => simp [Act.eval, Act.put]))
          | ((with_reducible refine wpList_load_oneG ?qqg91 4 ?qqx91 ?qqo91 wr.heap.size 1 ?qqh91 (.bool gone) Tryz.rObj_bool C3.out ?_); (case qqg91 => rfl); (case qqo91 => rfl); (case qqh91 => simp [Act.eval, Act.put]))
          | ((with_reducible refine wpList_load_oneG ?qqg92 3 ?qqx92 ?qqo92 w.heap.size 1 ?qqh92 (.int .i64 rev) Tryz.rObj_int C1.out ?_); (case qqg92 => rfl); (case qqo92 => rfl); (case qqh92 => simp [Act.eval, Act.put]))
          | ((with_reducible refine wpList_load_oneG ?qqg93 3 ?qqx93 ?qqo93 w.heap.size 2 ?qqh93 (.int .i64 next) Tryz.rObj_int C2.out ?_); (case qqg93 => rfl); (case qqo93 => rfl); (case qqh93 => simp [Act.eval, Act.put]))
        )
      obtain ⟨hox, hob2, hbel⟩ := HY.out
      have HB1 : Hid (Below w.heap.size w wy) := hbw.out.trans (hbel.mono hbw.out.size)
      have HBEL := uhide hbel
      have HOW : Hid (∀ w', Below wy.heap.size wy w' → objU w' w.heap.size 69 [v0, .int .i64 rev, .int .i64 next, .slice (some ⟨b, off, none⟩) n cap]) := fun w' h => hob2.below h
      have HC1 : Hid (∀ wx, Below wy.heap.size wy wx → Calls Tryz.prog 216 #[.agg os.toArray, .int .i64 rev, .int .i64 (next - 1)] wx fun e w' => e = .returned (.bool ob) ∧ Hid (Below wy.heap.size wy w')) := fun wx hb => (HCO.out wx (hbel.trans (hb.mono hbel.size))).mono fun e w' h => ⟨h.1, hb.trans (h.2.out.mono hb.size)⟩
      have HC2 : Hid (∀ wx, Below wy.heap.size wy wx → Calls Tryz.prog 133 #[.agg os.toArray] wx fun e w' => e = .returned (.bool en) ∧ Hid (Below wy.heap.size wy w')) := fun wx hb => (HCE.out wx (hbel.trans (hb.mono hbel.size))).mono fun e w' h => ⟨h.1, hb.trans (h.2.out.mono hb.size)⟩
      clear hox hob2 hbel HY HOX HCO HCE TH RX ONE HIX X0 X1 X5 XO
      refine (HC1.out _ (Below.refl _ _)).mono ?_
      rintro e w2 ⟨rfl, hb2⟩
      have C0b : Hid (w2.rangeAt wr.heap.size 2 os) := range_below C0.out hb2.out
      have C1b : Hid (w2.cell? ⟨w.heap.size, 1, none⟩ = some (.int .i64 rev)) := cell_below C1.out hb2.out
      have C2b : Hid (w2.cell? ⟨w.heap.size, 2, none⟩ = some (.int .i64 next)) := cell_below C2.out hb2.out
      have C3b : Hid (w2.cell? ⟨wr.heap.size, 1, none⟩ = some (.bool gone)) := cell_below C3.out hb2.out
      have C4b : Hid (w2.cell? ⟨wr.heap.size, 5, none⟩ = some (.int .i64 orv)) := cell_below C4.out hb2.out
      have C5b : Hid (w2.cell? ⟨wr.heap.size, 0, none⟩ = some (.int .i64 crv)) := cell_below C5.out hb2.out
      have C6b : Hid (w2.cell? ⟨w.heap.size, 3, none⟩ = some (.slice (some ⟨b, off, none⟩) n cap)) := cell_below C6.out hb2.out
      cases ob with
      | false =>
        have Hn := uhide (HBAD.out (.inl rfl))
        clear HBAD HOKK
        go_wp2
        go_ret
        exact ⟨ret_bool Hn.out.symm, HB1.out.trans (hb2.out.mono HB1.out.size)⟩
      | true =>
      by_cases hsame : orv = crv
      rotate_left
      · have Hn := uhide (HBAD.out (.inr (.inl hsame)))
        have hne : (orv != crv) = true := by simpa using hsame
        clear HBAD HOKK hsame
        go_wp2_with (first
          | ((with_reducible refine wpList_load_rowG ?qqg125 138 ?qqx125 ?qqo125 wr.heap.size 2 ?qqh125 os Tryz.rObj_impl_Obj HI1.out C0b.out ?_); (case qqg125 => rfl); (case qqo125 => rfl); (case qqh125 => simp [Act.eval, Act.put]))
          | ((with_reducible refine wpList_load_oneG ?qqg126 3 ?qqx126 ?qqo126 wr.heap.size 5 ?qqh126 (.int .i64 orv) Tryz.rObj_int C4b.out ?_); (case qqg126 => rfl); (case qqo126 => rfl); (case qqh126 => simp [Act.eval, Act.put]))
          | ((with_reducible refine wpList_load_oneG ?qqg127 3 ?qqx127 ?qqo127 wr.heap.size 0 ?qqh127 (.int .i64 crv) Tryz.rObj_int C5b.out ?_); (case qqg127 => rfl); (case qqo127 => rfl); (case qqh127 => simp [Act.eval, Act.put]))
          | ((with_reducible refine wpList_load_oneG ?qqg128 4 ?qqx128 ?qqo128 wr.heap.size 1 ?qqh128 (.bool gone) Tryz.rObj_bool C3b.out ?_); (case qqg128 => rfl); (case qqo128 => rfl); (case qqh128 => simp [Act.eval, Act.put]))
          | ((with_reducible refine wpList_load_oneG ?qqg129 3 ?qqx129 ?qqo129 w.heap.size 1 ?qqh129 (.int .i64 rev) Tryz.rObj_int C1b.out ?_); (case qqg129 => rfl); (case qqo129 => rfl); (case qqh129 => simp [Act.eval, Act.put]))
          | ((with_reducible refine wpList_load_oneG ?qqg130 3 ?qqx130 ?qqo130 w.heap.size 2 ?qqh130 (.int .i64 next) Tryz.rObj_int C2b.out ?_); (case qqg130 => rfl); (case qqo130 => rfl); (case qqh130 => simp [Act.eval, Act.put]))
          | ((with_reducible refine wpList_load_rowG ?qqg131 138 ?qqx131 ?qqo131 wr.heap.size 2 ?qqh131 os Tryz.rObj_impl_Obj HI1.out C0b.out ?_); (case qqg131 => rfl); (case qqo131 => rfl); (case qqh131 => simp [Act.eval, Act.put]))
          | ((with_reducible refine wpList_load_oneG ?qqg132 3 ?qqx132 ?qqo132 wr.heap.size 5 ?qqh132 (.int .i64 orv) Tryz.rObj_int C4b.out ?_); (case qqg132 => rfl); (case qqo132 => rfl); (case qqh132 => simp [Act.eval, Act.put]))
          | ((with_reducible refine wpList_load_oneG ?qqg133 3 ?qqx133 ?qqo133 wr.heap.size 0 ?qqh133 (.int .i64 crv) Tryz.rObj_int C5b.out ?_); (case qqg133 => rfl); (case qqo133 => rfl); (case qqh133 => simp [Act.eval, Act.put]))
          | ((with_reducible refine wpList_load_oneG ?qqg134 4 ?qqx134 ?qqo134 wr.heap.size 1 ?qqh134 (.bool gone) Tryz.rObj_bool C3b.out ?_); (case qqg134 => rfl); (case qqo134 => rfl); (case qqh134 => simp [Act.eval, Act.put]))
          | ((with_reducible refine wpList_load_oneG ?qqg135 3 ?qqx135 ?qqo135 w.heap.size 1 ?qqh135 (.int .i64 rev) Tryz.rObj_int C1b.out ?_); (case qqg135 => rfl); (case qqo135 => rfl); (case qqh135 => simp [Act.eval, Act.put]))
          | ((with_reducible refine wpList_load_oneG ?qqg136 3 ?qqx136 ?qqo136 w.heap.size 2 ?qqh136 (.int .i64 next) Tryz.rObj_int C2b.out ?_); (case qqg136 => rfl); (case qqo136 => rfl); (case qqh136 => simp [Act.eval, Act.put]))
          )
        go_ret
        exact ⟨ret_bool Hn.out.symm, HB1.out.trans (hb2.out.mono HB1.out.size)⟩
      have hne : (orv != crv) = false := by simp [hsame]
      have HSM := uhide hsame
      clear hsame
      cases gone with
      | true =>
        rcases Nat.eq_zero_or_pos q with hz | hz
        · subst hz
          have Hn := uhide (HOKK.out (by first | rfl | trivial) HSM.out (by first | exact .inl rfl | trivial | simp) (fun h => by omega))
          clear HBAD HOKK
          go_wp2_with (first
            | ((with_reducible refine wpList_load_rowG ?qqg150 138 ?qqx150 ?qqo150 wr.heap.size 2 ?qqh150 os Tryz.rObj_impl_Obj HI1.out C0b.out ?_); (case qqg150 => rfl); (case qqo150 => rfl); (case qqh150 => simp [Act.eval, Act.put]))
            | ((with_reducible refine wpList_load_oneG ?qqg151 3 ?qqx151 ?qqo151 wr.heap.size 5 ?qqh151 (.int .i64 orv) Tryz.rObj_int C4b.out ?_); (case qqg151 => rfl); (case qqo151 => rfl); (case qqh151 => simp [Act.eval, Act.put]))
            | ((with_reducible refine wpList_load_oneG ?qqg152 3 ?qqx152 ?qqo152 wr.heap.size 0 ?qqh152 (.int .i64 crv) Tryz.rObj_int C5b.out ?_); (case qqg152 => rfl); (case qqo152 => rfl); (case qqh152 => simp [Act.eval, Act.put]))
            | ((with_reducible refine wpList_load_oneG ?qqg153 4 ?qqx153 ?qqo153 wr.heap.size 1 ?qqh153 (.bool true) Tryz.rObj_bool C3b.out ?_); (case qqg153 => rfl); (case qqo153 => rfl); (case qqh153 => simp [Act.eval, Act.put]))
            | ((with_reducible refine wpList_load_oneG ?qqg154 3 ?qqx154 ?qqo154 w.heap.size 1 ?qqh154 (.int .i64 rev) Tryz.rObj_int C1b.out ?_); (case qqg154 => rfl); (case qqo154 => rfl); (case qqh154 => simp [Act.eval, Act.put]))
            | ((with_reducible refine wpList_load_oneG ?qqg155 3 ?qqx155 ?qqo155 w.heap.size 2 ?qqh155 (.int .i64 next) Tryz.rObj_int C2b.out ?_); (case qqg155 => rfl); (case qqo155 => rfl); (case qqh155 => simp [Act.eval, Act.put]))
            | ((with_reducible refine wpList_load_rowG ?qqg156 138 ?qqx156 ?qqo156 wr.heap.size 2 ?qqh156 os Tryz.rObj_impl_Obj HI1.out C0b.out ?_); (case qqg156 => rfl); (case qqo156 => rfl); (case qqh156 => simp [Act.eval, Act.put]))
            | ((with_reducible refine wpList_load_oneG ?qqg157 3 ?qqx157 ?qqo157 wr.heap.size 5 ?qqh157 (.int .i64 orv) Tryz.rObj_int C4b.out ?_); (case qqg157 => rfl); (case qqo157 => rfl); (case qqh157 => simp [Act.eval, Act.put]))
            | ((with_reducible refine wpList_load_oneG ?qqg158 3 ?qqx158 ?qqo158 wr.heap.size 0 ?qqh158 (.int .i64 crv) Tryz.rObj_int C5b.out ?_); (case qqg158 => rfl); (case qqo158 => rfl); (case qqh158 => simp [Act.eval, Act.put]))
            | ((with_reducible refine wpList_load_oneG ?qqg159 4 ?qqx159 ?qqo159 wr.heap.size 1 ?qqh159 (.bool true) Tryz.rObj_bool C3b.out ?_); (case qqg159 => rfl); (case qqo159 => rfl); (case qqh159 => simp [Act.eval, Act.put]))
            | ((with_reducible refine wpList_load_oneG ?qqg160 3 ?qqx160 ?qqo160 w.heap.size 1 ?qqh160 (.int .i64 rev) Tryz.rObj_int C1b.out ?_); (case qqg160 => rfl); (case qqo160 => rfl); (case qqh160 => simp [Act.eval, Act.put]))
            | ((with_reducible refine wpList_load_oneG ?qqg161 3 ?qqx161 ?qqo161 w.heap.size 2 ?qqh161 (.int .i64 next) Tryz.rObj_int C2b.out ?_); (case qqg161 => rfl); (case qqo161 => rfl); (case qqh161 => simp [Act.eval, Act.put]))
            )
          go_quiet (fail)
          go_wp2
          go_roundw
          case rel => exact ⟨0 + 1, by omega, by go_num, Hn, HOW.out _ (below_drewN hb2.out _), below_drewN (HB1.out.trans (hb2.out.mono HB1.out.size)) _⟩
          case measure => (simp [intOf] <;> omega)
        · obtain ⟨p, rfl⟩ : ∃ p, q = p + 1 := ⟨q - 1, by omega⟩
          obtain ⟨ps, hhp, hcp⟩ := (HM.out.row 19 p).hand
          obtain ⟨hp0, _⟩ := change_cells (Ht.out.row (show p < n by omega)) hhp
          obtain ⟨prv, hpr⟩ : ∃ g, g = kindU (rowU cs 19 p) := ⟨_, rfl⟩
          have hcp0 := hcp 0 _ hp0
          have C7 : Hid (wy.cell? ⟨b, off + p * 19, none⟩ = some (.int .i64 prv)) := by rw [hpr]; exact (HBEL.out.cell (p := ⟨b, off + p * 19, none⟩) hbb).trans hcp0
          have c7 := cell_below C7.out hb2.out
          have c6 := C6b.out
          have c5 := C5b.out
          have hpp0 : (0 : Int) ≤ (p : Int) := Int.natCast_nonneg _
          have hppn : (p : Int) < (n : Int) := by omega
          have hpp1 : (0 : Int) < (p : Int) + 1 := by omega
          have hwp : IntKind.i64.wrap (p : Int) = (p : Int) := by rw [IntKind.wrap_i64]; omega
          by_cases has : prv < crv
          · have Hn := uhide (HOKK.out (by first | rfl | trivial) HSM.out (by first | exact .inl rfl | trivial | simp) (fun _ => by rw [Nat.add_sub_cancel, ← hpr]; exact has))
            have hd : decide (crv ≤ prv) = false := by rw [decide_eq_false_iff_not]; omega
            have hd2 : ¬ crv ≤ prv := by omega
            clear HBAD HOKK hhp hcp hp0 hpr hcp0 HM has
            go_wp2_with (first
              | ((with_reducible refine wpList_load_rowG ?qqg187 138 ?qqx187 ?qqo187 wr.heap.size 2 ?qqh187 os Tryz.rObj_impl_Obj HI1.out C0b.out ?_); (case qqg187 => rfl); (case qqo187 => rfl); (case qqh187 => simp [Act.eval, Act.put]))
              | ((with_reducible refine wpList_load_oneG ?qqg188 3 ?qqx188 ?qqo188 wr.heap.size 5 ?qqh188 (.int .i64 orv) Tryz.rObj_int C4b.out ?_); (case qqg188 => rfl); (case qqo188 => rfl); (case qqh188 => simp [Act.eval, Act.put]))
              | ((with_reducible refine wpList_load_oneG ?qqg189 3 ?qqx189 ?qqo189 wr.heap.size 0 ?qqh189 (.int .i64 crv) Tryz.rObj_int C5b.out ?_); (case qqg189 => rfl); (case qqo189 => rfl); (case qqh189 => simp [Act.eval, Act.put]))
              | ((with_reducible refine wpList_load_oneG ?qqg190 4 ?qqx190 ?qqo190 wr.heap.size 1 ?qqh190 (.bool true) Tryz.rObj_bool C3b.out ?_); (case qqg190 => rfl); (case qqo190 => rfl); (case qqh190 => simp [Act.eval, Act.put]))
              | ((with_reducible refine wpList_load_oneG ?qqg191 3 ?qqx191 ?qqo191 w.heap.size 1 ?qqh191 (.int .i64 rev) Tryz.rObj_int C1b.out ?_); (case qqg191 => rfl); (case qqo191 => rfl); (case qqh191 => simp [Act.eval, Act.put]))
              | ((with_reducible refine wpList_load_oneG ?qqg192 3 ?qqx192 ?qqo192 w.heap.size 2 ?qqh192 (.int .i64 next) Tryz.rObj_int C2b.out ?_); (case qqg192 => rfl); (case qqo192 => rfl); (case qqh192 => simp [Act.eval, Act.put]))
              | ((with_reducible refine wpList_load_rowG ?qqg193 138 ?qqx193 ?qqo193 wr.heap.size 2 ?qqh193 os Tryz.rObj_impl_Obj HI1.out C0b.out ?_); (case qqg193 => rfl); (case qqo193 => rfl); (case qqh193 => simp [Act.eval, Act.put]))
              | ((with_reducible refine wpList_load_oneG ?qqg194 3 ?qqx194 ?qqo194 wr.heap.size 5 ?qqh194 (.int .i64 orv) Tryz.rObj_int C4b.out ?_); (case qqg194 => rfl); (case qqo194 => rfl); (case qqh194 => simp [Act.eval, Act.put]))
              | ((with_reducible refine wpList_load_oneG ?qqg195 3 ?qqx195 ?qqo195 wr.heap.size 0 ?qqh195 (.int .i64 crv) Tryz.rObj_int C5b.out ?_); (case qqg195 => rfl); (case qqo195 => rfl); (case qqh195 => simp [Act.eval, Act.put]))
              | ((with_reducible refine wpList_load_oneG ?qqg196 4 ?qqx196 ?qqo196 wr.heap.size 1 ?qqh196 (.bool true) Tryz.rObj_bool C3b.out ?_); (case qqg196 => rfl); (case qqo196 => rfl); (case qqh196 => simp [Act.eval, Act.put]))
              | ((with_reducible refine wpList_load_oneG ?qqg197 3 ?qqx197 ?qqo197 w.heap.size 1 ?qqh197 (.int .i64 rev) Tryz.rObj_int C1b.out ?_); (case qqg197 => rfl); (case qqo197 => rfl); (case qqh197 => simp [Act.eval, Act.put]))
              | ((with_reducible refine wpList_load_oneG ?qqg198 3 ?qqx198 ?qqo198 w.heap.size 2 ?qqh198 (.int .i64 next) Tryz.rObj_int C2b.out ?_); (case qqg198 => rfl); (case qqo198 => rfl); (case qqh198 => simp [Act.eval, Act.put]))
              )
            go_quiet (fail)
            go_wp2
            go_roundw
            case rel => exact ⟨p + 1 + 1, by omega, by go_num, Hn, HOW.out _ (below_drewN hb2.out _), below_drewN (HB1.out.trans (hb2.out.mono HB1.out.size)) _⟩
            case measure => (simp [intOf] <;> omega)
          · have Hn := uhide (HBAD.out (.inr (.inr (.inr ⟨by omega, by rw [Nat.add_sub_cancel, ← hpr]; omega⟩))))
            have hd : decide (crv ≤ prv) = true := by rw [decide_eq_true_eq]; omega
            have hd2 : crv ≤ prv := by omega
            clear HBAD HOKK hhp hcp hp0 hpr hcp0 HM has
            go_wp2_with (first
              | ((with_reducible refine wpList_load_rowG ?qqg210 138 ?qqx210 ?qqo210 wr.heap.size 2 ?qqh210 os Tryz.rObj_impl_Obj HI1.out C0b.out ?_); (case qqg210 => rfl); (case qqo210 => rfl); (case qqh210 => simp [Act.eval, Act.put]))
              | ((with_reducible refine wpList_load_oneG ?qqg211 3 ?qqx211 ?qqo211 wr.heap.size 5 ?qqh211 (.int .i64 orv) Tryz.rObj_int C4b.out ?_); (case qqg211 => rfl); (case qqo211 => rfl); (case qqh211 => simp [Act.eval, Act.put]))
              | ((with_reducible refine wpList_load_oneG ?qqg212 3 ?qqx212 ?qqo212 wr.heap.size 0 ?qqh212 (.int .i64 crv) Tryz.rObj_int C5b.out ?_); (case qqg212 => rfl); (case qqo212 => rfl); (case qqh212 => simp [Act.eval, Act.put]))
              | ((with_reducible refine wpList_load_oneG ?qqg213 4 ?qqx213 ?qqo213 wr.heap.size 1 ?qqh213 (.bool true) Tryz.rObj_bool C3b.out ?_); (case qqg213 => rfl); (case qqo213 => rfl); (case qqh213 => simp [Act.eval, Act.put]))
              | ((with_reducible refine wpList_load_oneG ?qqg214 3 ?qqx214 ?qqo214 w.heap.size 1 ?qqh214 (.int .i64 rev) Tryz.rObj_int C1b.out ?_); (case qqg214 => rfl); (case qqo214 => rfl); (case qqh214 => simp [Act.eval, Act.put]))
              | ((with_reducible refine wpList_load_oneG ?qqg215 3 ?qqx215 ?qqo215 w.heap.size 2 ?qqh215 (.int .i64 next) Tryz.rObj_int C2b.out ?_); (case qqg215 => rfl); (case qqo215 => rfl); (case qqh215 => simp [Act.eval, Act.put]))
              | ((with_reducible refine wpList_load_rowG ?qqg216 138 ?qqx216 ?qqo216 wr.heap.size 2 ?qqh216 os Tryz.rObj_impl_Obj HI1.out C0b.out ?_); (case qqg216 => rfl); (case qqo216 => rfl); (case qqh216 => simp [Act.eval, Act.put]))
              | ((with_reducible refine wpList_load_oneG ?qqg217 3 ?qqx217 ?qqo217 wr.heap.size 5 ?qqh217 (.int .i64 orv) Tryz.rObj_int C4b.out ?_); (case qqg217 => rfl); (case qqo217 => rfl); (case qqh217 => simp [Act.eval, Act.put]))
              | ((with_reducible refine wpList_load_oneG ?qqg218 3 ?qqx218 ?qqo218 wr.heap.size 0 ?qqh218 (.int .i64 crv) Tryz.rObj_int C5b.out ?_); (case qqg218 => rfl); (case qqo218 => rfl); (case qqh218 => simp [Act.eval, Act.put]))
              | ((with_reducible refine wpList_load_oneG ?qqg219 4 ?qqx219 ?qqo219 wr.heap.size 1 ?qqh219 (.bool true) Tryz.rObj_bool C3b.out ?_); (case qqg219 => rfl); (case qqo219 => rfl); (case qqh219 => simp [Act.eval, Act.put]))
              | ((with_reducible refine wpList_load_oneG ?qqg220 3 ?qqx220 ?qqo220 w.heap.size 1 ?qqh220 (.int .i64 rev) Tryz.rObj_int C1b.out ?_); (case qqg220 => rfl); (case qqo220 => rfl); (case qqh220 => simp [Act.eval, Act.put]))
              | ((with_reducible refine wpList_load_oneG ?qqg221 3 ?qqx221 ?qqo221 w.heap.size 2 ?qqh221 (.int .i64 next) Tryz.rObj_int C2b.out ?_); (case qqg221 => rfl); (case qqo221 => rfl); (case qqh221 => simp [Act.eval, Act.put]))
              )
            go_quiet (fail)
            go_wp2
            go_ret
            exact ⟨ret_bool Hn.out.symm, below_drewN (HB1.out.trans (hb2.out.mono HB1.out.size)) _⟩
      | false =>
        go_wp2_with (first
          | ((with_reducible refine wpList_load_rowG ?qqg229 138 ?qqx229 ?qqo229 wr.heap.size 2 ?qqh229 os Tryz.rObj_impl_Obj HI1.out C0b.out ?_); (case qqg229 => rfl); (case qqo229 => rfl); (case qqh229 => simp [Act.eval, Act.put]))
          | ((with_reducible refine wpList_load_oneG ?qqg230 3 ?qqx230 ?qqo230 wr.heap.size 5 ?qqh230 (.int .i64 orv) Tryz.rObj_int C4b.out ?_); (case qqg230 => rfl); (case qqo230 => rfl); (case qqh230 => simp [Act.eval, Act.put]))
          | ((with_reducible refine wpList_load_oneG ?qqg231 3 ?qqx231 ?qqo231 wr.heap.size 0 ?qqh231 (.int .i64 crv) Tryz.rObj_int C5b.out ?_); (case qqg231 => rfl); (case qqo231 => rfl); (case qqh231 => simp [Act.eval, Act.put]))
          | ((with_reducible refine wpList_load_oneG ?qqg232 4 ?qqx232 ?qqo232 wr.heap.size 1 ?qqh232 (.bool false) Tryz.rObj_bool C3b.out ?_); (case qqg232 => rfl); (case qqo232 => rfl); (case qqh232 => simp [Act.eval, Act.put]))
          | ((with_reducible refine wpList_load_oneG ?qqg233 3 ?qqx233 ?qqo233 w.heap.size 1 ?qqh233 (.int .i64 rev) Tryz.rObj_int C1b.out ?_); (case qqg233 => rfl); (case qqo233 => rfl); (case qqh233 => simp [Act.eval, Act.put]))
          | ((with_reducible refine wpList_load_oneG ?qqg234 3 ?qqx234 ?qqo234 w.heap.size 2 ?qqh234 (.int .i64 next) Tryz.rObj_int C2b.out ?_); (case qqg234 => rfl); (case qqo234 => rfl); (case qqh234 => simp [Act.eval, Act.put]))
          | ((with_reducible refine wpList_load_rowG ?qqg235 138 ?qqx235 ?qqo235 wr.heap.size 2 ?qqh235 os Tryz.rObj_impl_Obj HI1.out C0b.out ?_); (case qqg235 => rfl); (case qqo235 => rfl); (case qqh235 => simp [Act.eval, Act.put]))
          | ((with_reducible refine wpList_load_oneG ?qqg236 3 ?qqx236 ?qqo236 wr.heap.size 5 ?qqh236 (.int .i64 orv) Tryz.rObj_int C4b.out ?_); (case qqg236 => rfl); (case qqo236 => rfl); (case qqh236 => simp [Act.eval, Act.put]))
          | ((with_reducible refine wpList_load_oneG ?qqg237 3 ?qqx237 ?qqo237 wr.heap.size 0 ?qqh237 (.int .i64 crv) Tryz.rObj_int C5b.out ?_); (case qqg237 => rfl); (case qqo237 => rfl); (case qqh237 => simp [Act.eval, Act.put]))
          | ((with_reducible refine wpList_load_oneG ?qqg238 4 ?qqx238 ?qqo238 wr.heap.size 1 ?qqh238 (.bool false) Tryz.rObj_bool C3b.out ?_); (case qqg238 => rfl); (case qqo238 => rfl); (case qqh238 => simp [Act.eval, Act.put]))
          | ((with_reducible refine wpList_load_oneG ?qqg239 3 ?qqx239 ?qqo239 w.heap.size 1 ?qqh239 (.int .i64 rev) Tryz.rObj_int C1b.out ?_); (case qqg239 => rfl); (case qqo239 => rfl); (case qqh239 => simp [Act.eval, Act.put]))
          | ((with_reducible refine wpList_load_oneG ?qqg240 3 ?qqx240 ?qqo240 w.heap.size 2 ?qqh240 (.int .i64 next) Tryz.rObj_int C2b.out ?_); (case qqg240 => rfl); (case qqo240 => rfl); (case qqh240 => simp [Act.eval, Act.put]))
          )
        refine (HC2.out _ hb2.out).mono ?_
        rintro e w4 ⟨rfl, hb4⟩
        have C0c : Hid (w4.rangeAt wr.heap.size 2 os) := range_below C0.out hb4.out
        have C1c : Hid (w4.cell? ⟨w.heap.size, 1, none⟩ = some (.int .i64 rev)) := cell_below C1.out hb4.out
        have C2c : Hid (w4.cell? ⟨w.heap.size, 2, none⟩ = some (.int .i64 next)) := cell_below C2.out hb4.out
        have C3c : Hid (w4.cell? ⟨wr.heap.size, 1, none⟩ = some (.bool false)) := cell_below C3.out hb4.out
        have C4c : Hid (w4.cell? ⟨wr.heap.size, 5, none⟩ = some (.int .i64 orv)) := cell_below C4.out hb4.out
        have C5c : Hid (w4.cell? ⟨wr.heap.size, 0, none⟩ = some (.int .i64 crv)) := cell_below C5.out hb4.out
        have C6c : Hid (w4.cell? ⟨w.heap.size, 3, none⟩ = some (.slice (some ⟨b, off, none⟩) n cap)) := cell_below C6.out hb4.out
        cases en with
        | true =>
          have Hn := uhide (HBAD.out (.inr (.inr (.inl (by first | exact ⟨rfl, rfl⟩ | trivial | simp)))))
          clear HBAD HOKK
          go_wp2
          go_ret
          exact ⟨ret_bool Hn.out.symm, HB1.out.trans (hb4.out.mono HB1.out.size)⟩
        | false =>
          rcases Nat.eq_zero_or_pos q with hz | hz
          · subst hz
            have Hn := uhide (HOKK.out (by first | rfl | trivial) HSM.out (by first | exact .inr rfl | trivial | simp) (fun h => by omega))
            clear HBAD HOKK
            go_wp2
            go_quiet (fail)
            go_wp2
            go_roundw
            case rel => exact ⟨0 + 1, by omega, by go_num, Hn, HOW.out _ (below_drewN hb4.out _), below_drewN (HB1.out.trans (hb4.out.mono HB1.out.size)) _⟩
            case measure => (simp [intOf] <;> omega)
          · obtain ⟨p, rfl⟩ : ∃ p, q = p + 1 := ⟨q - 1, by omega⟩
            obtain ⟨ps, hhp, hcp⟩ := (HM.out.row 19 p).hand
            obtain ⟨hp0, _⟩ := change_cells (Ht.out.row (show p < n by omega)) hhp
            obtain ⟨prv, hpr⟩ : ∃ g, g = kindU (rowU cs 19 p) := ⟨_, rfl⟩
            have hcp0 := hcp 0 _ hp0
            have C7 : Hid (wy.cell? ⟨b, off + p * 19, none⟩ = some (.int .i64 prv)) := by rw [hpr]; exact (HBEL.out.cell (p := ⟨b, off + p * 19, none⟩) hbb).trans hcp0
            have c7 := cell_below C7.out hb4.out
            have c6 := C6c.out
            have c5 := C5c.out
            have hpp0 : (0 : Int) ≤ (p : Int) := Int.natCast_nonneg _
            have hppn : (p : Int) < (n : Int) := by omega
            have hpp1 : (0 : Int) < (p : Int) + 1 := by omega
            have hwp : IntKind.i64.wrap (p : Int) = (p : Int) := by rw [IntKind.wrap_i64]; omega
            by_cases has : prv < crv
            · have Hn := uhide (HOKK.out (by first | rfl | trivial) HSM.out (by first | exact .inr rfl | trivial | simp) (fun _ => by rw [Nat.add_sub_cancel, ← hpr]; exact has))
              have hd : decide (crv ≤ prv) = false := by rw [decide_eq_false_iff_not]; omega
              have hd2 : ¬ crv ≤ prv := by omega
              clear HBAD HOKK hhp hcp hp0 hpr hcp0 HM has
              go_wp2
              go_quiet (fail)
              go_wp2
              go_roundw
              case rel => exact ⟨p + 1 + 1, by omega, by go_num, Hn, HOW.out _ (below_drewN hb4.out _), below_drewN (HB1.out.trans (hb4.out.mono HB1.out.size)) _⟩
              case measure => (simp [intOf] <;> omega)
            · have Hn := uhide (HBAD.out (.inr (.inr (.inr ⟨by omega, by rw [Nat.add_sub_cancel, ← hpr]; omega⟩))))
              have hd : decide (crv ≤ prv) = true := by rw [decide_eq_true_eq]; omega
              have hd2 : crv ≤ prv := by omega
              clear HBAD HOKK hhp hcp hp0 hpr hcp0 HM has
              go_wp2
              go_quiet (fail)
              go_wp2
              go_ret
              exact ⟨ret_bool Hn.out.symm, below_drewN (HB1.out.trans (hb4.out.mono HB1.out.size)) _⟩
    · have e : q = n := by omega
      subst e
      have Hv : Hid (logB cs q rev next = true) := logB_end Ho.out
      clear Ho Hx Ht
      go_wp2
      go_ret
      exact ⟨ret_bool (by rw [Hv.out]), hbw.out⟩
end Go.Proofs.YtdnodaoeflbfkaaGreat
