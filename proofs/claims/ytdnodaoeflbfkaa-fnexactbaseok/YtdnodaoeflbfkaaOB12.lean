/- Bases: the program's look at one. -/
import Derived.Test.YtdnodaoeflbfkaaOB9
import Derived.Test.YtdnodaoeflbfkaaOB11b
import Derived.Test.YtdnodaoeflbfkaaUFBase
namespace Go.Proofs.Ytdnodaoeflbfkaa
open Go.RowKit Go.BigFrame
set_option linter.unusedVariables false
set_option linter.unusedSimpArgs false
theorem within_anyB (n m : Int) (w : World) : Calls Try.prog 71 #[.int .i64 n, .int .i64 m] w fun e w' => e = .returned (.bool (inB n 0 m)) ∧ w' = w := by
  go_enter Try.func71, Try.ntmps71
  go_wp2
  all_goals go_ret
  all_goals exact ⟨ret_bool (by rw [Bool.eq_iff_iff]; simp [inB]; omega), rfl⟩
set_option maxRecDepth 40000 in
set_option maxHeartbeats 6400000 in
theorem iBaseOk_of {lo hi : Nat} (n0 : Nat) (c0 : UD) (rev next : Int) (n : Nat) (cs : UD) (v0 v3 : Value) (w : World) (g0 : tyS 17 n0 c0 8) (g3 : tyS 19 n cs 9) (s0 : uS w lo hi 17 n0 c0 v0) (s3 : uS w lo hi 19 n cs v3) :
    Calls Try.prog 31 #[.agg #[v0, .int .i64 rev, .int .i64 next, v3]] w fun e w' => e = .returned (.bool (baseB n0 c0 rev next n cs)) ∧ Below w.heap.size w w' := by
  have S0 := uhide s0
  have S3 := uhide s3
  obtain ⟨a0, cp0, rfl, s0c⟩ := s0
  obtain ⟨a3, cp3, rfl, s3c⟩ := s3
  have hmx := g3.2.2.1
  have hmy := g0.2.2.1
  unfold maxLen at hmx hmy
  obtain ⟨k0, hk0⟩ : ∃ k, k = inB rev 0 1000000 := ⟨_, rfl⟩
  obtain ⟨k1, hk1⟩ : ∃ k, k = inB next 1 1000000 := ⟨_, rfl⟩
  obtain ⟨k2, hk2⟩ : ∃ k, k = objsB c0 n0 rev next := ⟨_, rfl⟩
  obtain ⟨k3, hk3⟩ : ∃ k, k = logB cs n rev next := ⟨_, rfl⟩
  have HK0 : Hid (∀ wx : World, Below w.heap.size w wx → Calls Try.prog 71 #[.int .i64 rev, .int .i64 1000000] wx fun e w' => e = .returned (.bool k0) ∧ Below wx.heap.size wx w') := fun wx hb => hk0 ▸ (within_anyB _ _ wx).mono fun e w' h => ⟨h.1, h.2 ▸ Below.refl _ _⟩
  have HK1 : Hid (∀ wx : World, Below w.heap.size w wx → Calls Try.prog 91 #[.int .i64 next, .int .i64 1000000] wx fun e w' => e = .returned (.bool k1) ∧ Below wx.heap.size wx w') := fun wx hb => hk1 ▸ (fromOne_any _ _ wx).mono fun e w' h => ⟨h.1, h.2 ▸ Below.refl _ _⟩
  have HN : Hid (k1 = true → -9223372036854775807 ≤ next ∧ next ≤ 9223372036854775807) := fun h => by
    rw [hk1] at h
    unfold inB at h
    simp at h
    omega
  have HK2 : Hid (k1 = true → ∀ wx : World, Below w.heap.size w wx → Calls Try.prog 92 #[.slice a0 n0 cp0, .int .i64 rev, .int .i64 (next - 1)] wx fun e w' => e = .returned (.bool k2) ∧ Below wx.heap.size wx w')   := fun h wx hb => hk2 ▸ objsOk_any n0 c0 _ rev next wx g0 (S0.out.below hb) (HN.out h).1 (HN.out h).2
  have HK3 : Hid (k1 = true → ∀ wx : World, Below w.heap.size w wx → Calls Try.prog 93 #[.agg #[.slice a0 n0 cp0, .int .i64 rev, .int .i64 next, .slice a3 n cp3]] wx fun e w' => e = .returned (.bool k3) ∧ Below wx.heap.size wx w') := fun h wx hb => hk3 ▸ iLogOk_of n cs rev next _ _ wx g3 (S3.out.below hb) (HN.out h).1 (HN.out h).2
  have OA : Hid (objU (w.alloc (.cells #[.slice a0 n0 cp0, .int .i64 rev, .int .i64 next, .slice a3 n cp3] 67)) w.heap.size 67 [.slice a0 n0 cp0, .int .i64 rev, .int .i64 next, .slice a3 n cp3]) := objU.new2 _ _ rfl
  have BA : Hid (Below w.heap.size w (w.alloc (.cells #[.slice a0 n0 cp0, .int .i64 rev, .int .i64 next, .slice a3 n cp3] 67))) := (Below.refl _ _).alloc (Nat.le_refl _) _
  have ZB : Hid ((Try.prog.info? 67).map (·.size) = some ([.slice a0 n0 cp0, .int .i64 rev, .int .i64 next, .slice a3 n cp3] : List Value).length) := Try.zBase_impl_Base
  have RG : Hid (∀ wx : World, objU wx w.heap.size 67 [.slice a0 n0 cp0, .int .i64 rev, .int .i64 next, .slice a3 n cp3] → wx.rangeAt w.heap.size 0 [.slice a0 n0 cp0, .int .i64 rev, .int .i64 next, .slice a3 n cp3]) := fun wx h => h.range 0 _ (fun j v e => by rw [Nat.zero_add]; exact e)
  unfold baseB
  rw [← hk0, ← hk1, ← hk2, ← hk3]
  clear hk0 hk1 hk2 hk3 s0c g0 g3 s3c S0 S3
  by_cases h40 : n ≤ 40
  rotate_left
  · have d4 : decide ((40 : Int) < (n : Int)) = true := by rw [decide_eq_true_eq]; omega
    have H40 := uhide h40
    clear h40
    go_enter Try.func31, Try.ntmps31
    go_wp2_with (first
      | ((with_reducible refine wpList_load_oneG ?qqg52 3 ?qqx52 ?qqo52 w.heap.size 1 ?qqh52 (.int .i64 rev) Try.rBase_int (OA.out.cell 1 _ rfl) ?_); (case qqg52 => rfl); (case qqo52 => rfl); (case qqh52 => simp [Act.eval, Act.put]))
      | ((with_reducible refine wpList_load_oneG ?qqg54 65 ?qqx54 ?qqo54 w.heap.size 3 ?qqh54 (.slice a3 n cp3) Try.rBase_Limpl_Change (OA.out.cell 3 _ rfl) ?_); (case qqg54 => rfl); (case qqo54 => rfl); (case qqh54 => simp [Act.eval, Act.put]))
      )
    go_ret
    exact ⟨ret_bool (by simp [H40.out]), BA.out⟩
  have d4 : decide ((40 : Int) < (n : Int)) = false := by rw [decide_eq_false_iff_not]; omega
  have H40 := uhide h40
  clear h40
  cases k0 with
  | false =>
    go_enter Try.func31, Try.ntmps31
    go_wp2_with (first
      | ((with_reducible refine wpList_load_oneG ?qqg75 3 ?qqx75 ?qqo75 w.heap.size 1 ?qqh75 (.int .i64 rev) Try.rBase_int (OA.out.cell 1 _ rfl) ?_); (case qqg75 => rfl); (case qqo75 => rfl); (case qqh75 => simp [Act.eval, Act.put]))
      | ((with_reducible refine wpList_load_oneG ?qqg77 65 ?qqx77 ?qqo77 w.heap.size 3 ?qqh77 (.slice a3 n cp3) Try.rBase_Limpl_Change (OA.out.cell 3 _ rfl) ?_); (case qqg77 => rfl); (case qqo77 => rfl); (case qqh77 => simp [Act.eval, Act.put]))
      )
    refine (HK0.out _ BA.out).mono ?_
    rintro e w0 ⟨rfl, hb0⟩
    have O0 := uhide (OA.out.below hb0)
    have B0 : Hid (Below w.heap.size w w0) := BA.out.trans (hb0.mono BA.out.size)
    clear hb0
    go_wp2_with (first
      | ((with_reducible refine wpList_load_oneG ?qqg96 3 ?qqx96 ?qqo96 w.heap.size 2 ?qqh96 (.int .i64 next) Try.rBase_int (O0.out.cell 2 _ rfl) ?_); (case qqg96 => rfl); (case qqo96 => rfl); (case qqh96 => simp [Act.eval, Act.put]))
      )
    go_ret
    exact ⟨ret_bool (by simp [H40.out]), B0.out⟩
  | true =>
  cases k1 with
  | false =>
    go_enter Try.func31, Try.ntmps31
    go_wp2_with (first
      | ((with_reducible refine wpList_load_oneG ?qqg116 3 ?qqx116 ?qqo116 w.heap.size 1 ?qqh116 (.int .i64 rev) Try.rBase_int (OA.out.cell 1 _ rfl) ?_); (case qqg116 => rfl); (case qqo116 => rfl); (case qqh116 => simp [Act.eval, Act.put]))
      | ((with_reducible refine wpList_load_oneG ?qqg118 65 ?qqx118 ?qqo118 w.heap.size 3 ?qqh118 (.slice a3 n cp3) Try.rBase_Limpl_Change (OA.out.cell 3 _ rfl) ?_); (case qqg118 => rfl); (case qqo118 => rfl); (case qqh118 => simp [Act.eval, Act.put]))
      )
    refine (HK0.out _ BA.out).mono ?_
    rintro e w0 ⟨rfl, hb0⟩
    have O0 := uhide (OA.out.below hb0)
    have B0 : Hid (Below w.heap.size w w0) := BA.out.trans (hb0.mono BA.out.size)
    clear hb0
    go_wp2_with (first
      | ((with_reducible refine wpList_load_oneG ?qqg137 3 ?qqx137 ?qqo137 w.heap.size 2 ?qqh137 (.int .i64 next) Try.rBase_int (O0.out.cell 2 _ rfl) ?_); (case qqg137 => rfl); (case qqo137 => rfl); (case qqh137 => simp [Act.eval, Act.put]))
      )
    refine (HK1.out _ B0.out).mono ?_
    rintro e w1 ⟨rfl, hb1⟩
    have O1 := uhide (O0.out.below hb1)
    have B1 : Hid (Below w.heap.size w w1) := B0.out.trans (hb1.mono B0.out.size)
    clear hb1
    go_wp2_with (first
      | ((with_reducible refine wpList_load_oneG ?qqg155 64 ?qqx155 ?qqo155 w.heap.size 0 ?qqh155 (.slice a0 n0 cp0) Try.rBase_Limpl_Obj (O1.out.cell 0 _ rfl) ?_); (case qqg155 => rfl); (case qqo155 => rfl); (case qqh155 => simp [Act.eval, Act.put]))
      | ((with_reducible refine wpList_load_oneG ?qqg156 3 ?qqx156 ?qqo156 w.heap.size 1 ?qqh156 (.int .i64 rev) Try.rBase_int (O1.out.cell 1 _ rfl) ?_); (case qqg156 => rfl); (case qqo156 => rfl); (case qqh156 => simp [Act.eval, Act.put]))
      | ((with_reducible refine wpList_load_oneG ?qqg157 3 ?qqx157 ?qqo157 w.heap.size 2 ?qqh157 (.int .i64 next) Try.rBase_int (O1.out.cell 2 _ rfl) ?_); (case qqg157 => rfl); (case qqo157 => rfl); (case qqh157 => simp [Act.eval, Act.put]))
      )
    go_ret
    exact ⟨ret_bool (by simp [H40.out]), B1.out⟩
  | true =>
  have hwr : IntKind.i64.wrap (next - 1) = next - 1 := uwrap64 _ (by have := HN.out rfl; omega) (by have := HN.out rfl; omega)
  have hwr2 : wrap64 (next - 1) = next - 1 := by have := HN.out rfl; unfold wrap64; omega
  cases k2 with
  | false =>
    go_enter Try.func31, Try.ntmps31
    go_wp2_with (first
      | ((with_reducible refine wpList_load_oneG ?qqg179 3 ?qqx179 ?qqo179 w.heap.size 1 ?qqh179 (.int .i64 rev) Try.rBase_int (OA.out.cell 1 _ rfl) ?_); (case qqg179 => rfl); (case qqo179 => rfl); (case qqh179 => simp [Act.eval, Act.put]))
      | ((with_reducible refine wpList_load_oneG ?qqg181 65 ?qqx181 ?qqo181 w.heap.size 3 ?qqh181 (.slice a3 n cp3) Try.rBase_Limpl_Change (OA.out.cell 3 _ rfl) ?_); (case qqg181 => rfl); (case qqo181 => rfl); (case qqh181 => simp [Act.eval, Act.put]))
      )
    refine (HK0.out _ BA.out).mono ?_
    rintro e w0 ⟨rfl, hb0⟩
    have O0 := uhide (OA.out.below hb0)
    have B0 : Hid (Below w.heap.size w w0) := BA.out.trans (hb0.mono BA.out.size)
    clear hb0
    go_wp2_with (first
      | ((with_reducible refine wpList_load_oneG ?qqg200 3 ?qqx200 ?qqo200 w.heap.size 2 ?qqh200 (.int .i64 next) Try.rBase_int (O0.out.cell 2 _ rfl) ?_); (case qqg200 => rfl); (case qqo200 => rfl); (case qqh200 => simp [Act.eval, Act.put]))
      )
    refine (HK1.out _ B0.out).mono ?_
    rintro e w1 ⟨rfl, hb1⟩
    have O1 := uhide (O0.out.below hb1)
    have B1 : Hid (Below w.heap.size w w1) := B0.out.trans (hb1.mono B0.out.size)
    clear hb1
    go_wp2_with (first
      | ((with_reducible refine wpList_load_oneG ?qqg218 64 ?qqx218 ?qqo218 w.heap.size 0 ?qqh218 (.slice a0 n0 cp0) Try.rBase_Limpl_Obj (O1.out.cell 0 _ rfl) ?_); (case qqg218 => rfl); (case qqo218 => rfl); (case qqh218 => simp [Act.eval, Act.put]))
      | ((with_reducible refine wpList_load_oneG ?qqg219 3 ?qqx219 ?qqo219 w.heap.size 1 ?qqh219 (.int .i64 rev) Try.rBase_int (O1.out.cell 1 _ rfl) ?_); (case qqg219 => rfl); (case qqo219 => rfl); (case qqh219 => simp [Act.eval, Act.put]))
      | ((with_reducible refine wpList_load_oneG ?qqg220 3 ?qqx220 ?qqo220 w.heap.size 2 ?qqh220 (.int .i64 next) Try.rBase_int (O1.out.cell 2 _ rfl) ?_); (case qqg220 => rfl); (case qqo220 => rfl); (case qqh220 => simp [Act.eval, Act.put]))
      )
    refine (HK2.out (by first | rfl | trivial) _ B1.out).mono ?_
    rintro e w2 ⟨rfl, hb2⟩
    have O2 := uhide (O1.out.below hb2)
    have B2 : Hid (Below w.heap.size w w2) := B1.out.trans (hb2.mono B1.out.size)
    clear hb2
    go_wp2_with (first
      | ((with_reducible refine wpList_load_rowG ?qqg250 67 ?qqx250 ?qqo250 w.heap.size 0 ?qqh250 [.slice a0 n0 cp0, .int .i64 rev, .int .i64 next, .slice a3 n cp3] Try.rBase_impl_Base ZB.out (RG.out _ O2.out) ?_); (case qqg250 => rfl); (case qqo250 => rfl); (case qqh250 => simp [Act.eval, Act.put]))
      )
    go_ret
    exact ⟨ret_bool (by simp [H40.out]), B2.out⟩
  | true =>
  cases k3 with
  | false =>
    go_enter Try.func31, Try.ntmps31
    go_wp2_with (first
      | ((with_reducible refine wpList_load_oneG ?qqg260 3 ?qqx260 ?qqo260 w.heap.size 1 ?qqh260 (.int .i64 rev) Try.rBase_int (OA.out.cell 1 _ rfl) ?_); (case qqg260 => rfl); (case qqo260 => rfl); (case qqh260 => simp [Act.eval, Act.put]))
      | ((with_reducible refine wpList_load_oneG ?qqg262 65 ?qqx262 ?qqo262 w.heap.size 3 ?qqh262 (.slice a3 n cp3) Try.rBase_Limpl_Change (OA.out.cell 3 _ rfl) ?_); (case qqg262 => rfl); (case qqo262 => rfl); (case qqh262 => simp [Act.eval, Act.put]))
      )
    refine (HK0.out _ BA.out).mono ?_
    rintro e w0 ⟨rfl, hb0⟩
    have O0 := uhide (OA.out.below hb0)
    have B0 : Hid (Below w.heap.size w w0) := BA.out.trans (hb0.mono BA.out.size)
    clear hb0
    go_wp2_with (first
      | ((with_reducible refine wpList_load_oneG ?qqg281 3 ?qqx281 ?qqo281 w.heap.size 2 ?qqh281 (.int .i64 next) Try.rBase_int (O0.out.cell 2 _ rfl) ?_); (case qqg281 => rfl); (case qqo281 => rfl); (case qqh281 => simp [Act.eval, Act.put]))
      )
    refine (HK1.out _ B0.out).mono ?_
    rintro e w1 ⟨rfl, hb1⟩
    have O1 := uhide (O0.out.below hb1)
    have B1 : Hid (Below w.heap.size w w1) := B0.out.trans (hb1.mono B0.out.size)
    clear hb1
    go_wp2_with (first
      | ((with_reducible refine wpList_load_oneG ?qqg299 64 ?qqx299 ?qqo299 w.heap.size 0 ?qqh299 (.slice a0 n0 cp0) Try.rBase_Limpl_Obj (O1.out.cell 0 _ rfl) ?_); (case qqg299 => rfl); (case qqo299 => rfl); (case qqh299 => simp [Act.eval, Act.put]))
      | ((with_reducible refine wpList_load_oneG ?qqg300 3 ?qqx300 ?qqo300 w.heap.size 1 ?qqh300 (.int .i64 rev) Try.rBase_int (O1.out.cell 1 _ rfl) ?_); (case qqg300 => rfl); (case qqo300 => rfl); (case qqh300 => simp [Act.eval, Act.put]))
      | ((with_reducible refine wpList_load_oneG ?qqg301 3 ?qqx301 ?qqo301 w.heap.size 2 ?qqh301 (.int .i64 next) Try.rBase_int (O1.out.cell 2 _ rfl) ?_); (case qqg301 => rfl); (case qqo301 => rfl); (case qqh301 => simp [Act.eval, Act.put]))
      )
    refine (HK2.out (by first | rfl | trivial) _ B1.out).mono ?_
    rintro e w2 ⟨rfl, hb2⟩
    have O2 := uhide (O1.out.below hb2)
    have B2 : Hid (Below w.heap.size w w2) := B1.out.trans (hb2.mono B1.out.size)
    clear hb2
    go_wp2_with (first
      | ((with_reducible refine wpList_load_rowG ?qqg331 67 ?qqx331 ?qqo331 w.heap.size 0 ?qqh331 [.slice a0 n0 cp0, .int .i64 rev, .int .i64 next, .slice a3 n cp3] Try.rBase_impl_Base ZB.out (RG.out _ O2.out) ?_); (case qqg331 => rfl); (case qqo331 => rfl); (case qqh331 => simp [Act.eval, Act.put]))
      )
    refine (HK3.out (by first | rfl | trivial) _ B2.out).mono ?_
    rintro e w3 ⟨rfl, hb3⟩
    have O3 := uhide (O2.out.below hb3)
    have B3 : Hid (Below w.heap.size w w3) := B2.out.trans (hb3.mono B2.out.size)
    clear hb3
    go_wp2
    go_ret
    exact ⟨ret_bool (by simp [H40.out]), B3.out⟩
  | true =>
  go_enter Try.func31, Try.ntmps31
  go_wp2_with (first
    | ((with_reducible refine wpList_load_oneG ?qqg359 3 ?qqx359 ?qqo359 w.heap.size 1 ?qqh359 (.int .i64 rev) Try.rBase_int (OA.out.cell 1 _ rfl) ?_); (case qqg359 => rfl); (case qqo359 => rfl); (case qqh359 => simp [Act.eval, Act.put]))
    | ((with_reducible refine wpList_load_oneG ?qqg361 65 ?qqx361 ?qqo361 w.heap.size 3 ?qqh361 (.slice a3 n cp3) Try.rBase_Limpl_Change (OA.out.cell 3 _ rfl) ?_); (case qqg361 => rfl); (case qqo361 => rfl); (case qqh361 => simp [Act.eval, Act.put]))
    )
  refine (HK0.out _ BA.out).mono ?_
  rintro e w0 ⟨rfl, hb0⟩
  have O0 := uhide (OA.out.below hb0)
  have B0 : Hid (Below w.heap.size w w0) := BA.out.trans (hb0.mono BA.out.size)
  clear hb0
  go_wp2_with (first
    | ((with_reducible refine wpList_load_oneG ?qqg380 3 ?qqx380 ?qqo380 w.heap.size 2 ?qqh380 (.int .i64 next) Try.rBase_int (O0.out.cell 2 _ rfl) ?_); (case qqg380 => rfl); (case qqo380 => rfl); (case qqh380 => simp [Act.eval, Act.put]))
    )
  refine (HK1.out _ B0.out).mono ?_
  rintro e w1 ⟨rfl, hb1⟩
  have O1 := uhide (O0.out.below hb1)
  have B1 : Hid (Below w.heap.size w w1) := B0.out.trans (hb1.mono B0.out.size)
  clear hb1
  go_wp2_with (first
    | ((with_reducible refine wpList_load_oneG ?qqg398 64 ?qqx398 ?qqo398 w.heap.size 0 ?qqh398 (.slice a0 n0 cp0) Try.rBase_Limpl_Obj (O1.out.cell 0 _ rfl) ?_); (case qqg398 => rfl); (case qqo398 => rfl); (case qqh398 => simp [Act.eval, Act.put]))
    | ((with_reducible refine wpList_load_oneG ?qqg399 3 ?qqx399 ?qqo399 w.heap.size 1 ?qqh399 (.int .i64 rev) Try.rBase_int (O1.out.cell 1 _ rfl) ?_); (case qqg399 => rfl); (case qqo399 => rfl); (case qqh399 => simp [Act.eval, Act.put]))
    | ((with_reducible refine wpList_load_oneG ?qqg400 3 ?qqx400 ?qqo400 w.heap.size 2 ?qqh400 (.int .i64 next) Try.rBase_int (O1.out.cell 2 _ rfl) ?_); (case qqg400 => rfl); (case qqo400 => rfl); (case qqh400 => simp [Act.eval, Act.put]))
    )
  refine (HK2.out (by first | rfl | trivial) _ B1.out).mono ?_
  rintro e w2 ⟨rfl, hb2⟩
  have O2 := uhide (O1.out.below hb2)
  have B2 : Hid (Below w.heap.size w w2) := B1.out.trans (hb2.mono B1.out.size)
  clear hb2
  go_wp2_with (first
    | ((with_reducible refine wpList_load_rowG ?qqg430 67 ?qqx430 ?qqo430 w.heap.size 0 ?qqh430 [.slice a0 n0 cp0, .int .i64 rev, .int .i64 next, .slice a3 n cp3] Try.rBase_impl_Base ZB.out (RG.out _ O2.out) ?_); (case qqg430 => rfl); (case qqo430 => rfl); (case qqh430 => simp [Act.eval, Act.put]))
    )
  refine (HK3.out (by first | rfl | trivial) _ B2.out).mono ?_
  rintro e w3 ⟨rfl, hb3⟩
  have O3 := uhide (O2.out.below hb3)
  have B3 : Hid (Below w.heap.size w w3) := B2.out.trans (hb3.mono B2.out.size)
  clear hb3
  go_wp2
  go_ret
  exact ⟨ret_bool (by simp [H40.out]), B3.out⟩
end Go.Proofs.Ytdnodaoeflbfkaa
