import Derived.Test.YtlbpfcchaobgjaaAmts2
namespace Go.Proofs.Ytlbpfcchaobgjaa
open Go.RowKit Go.BigFrame
set_option linter.unusedVariables false
/-- three numbers in a block of their own, not frozen -/
structure Has3 (w : World) (b : Nat) (x y z : Int) : Prop where
  c0 : w.cell? ⟨b, 0, none⟩ = some (.int .i64 x)
  c1 : w.cell? ⟨b, 1, none⟩ = some (.int .i64 y)
  c2 : w.cell? ⟨b, 2, none⟩ = some (.int .i64 z)
  f0 : w.frozen? ⟨b, 0, none⟩ = false
  f1 : w.frozen? ⟨b, 1, none⟩ = false
  f2 : w.frozen? ⟨b, 2, none⟩ = false
theorem Has3.lt {w : World} {b : Nat} {x y z : Int} (h : Has3 w b x y z) : b < w.heap.size := World.block_lt_of_cell? _ _ h.c0
theorem Has3.later {w w' : World} {b : Nat} {x y z : Int} (h : Has3 w b x y z) (hb : Below w.heap.size w w') : Has3 w' b x y z :=
  ⟨(hb.cell (p := ⟨b, 0, none⟩) h.lt).trans h.c0, (hb.cell (p := ⟨b, 1, none⟩) h.lt).trans h.c1, (hb.cell (p := ⟨b, 2, none⟩) h.lt).trans h.c2,
   (World.frozen?_of_block (w := w) (a := ⟨b, 0, none⟩) (hb.block b h.lt)).trans h.f0, (World.frozen?_of_block (w := w) (a := ⟨b, 1, none⟩) (hb.block b h.lt)).trans h.f1, (World.frozen?_of_block (w := w) (a := ⟨b, 2, none⟩) (hb.block b h.lt)).trans h.f2⟩
def amZ (a b c : Int) (x y z : Int) : Bool := amB a b c && (amB x y z && amB (a + x) (b + y) (c + z))
def addV (a b c x y z : Int) : Value := if amZ a b c x y z then .tuple #[.agg #[.int .i64 (a + x), .int .i64 (b + y), .int .i64 (c + z)], .bool true] else .tuple #[.agg #[.int .i64 0, .int .i64 0, .int .i64 0], .bool false]
theorem amB_bd {a b c : Int} (h : amB a b c = true) : (0 ≤ a ∧ a ≤ 1000000000000000) ∧ (0 ≤ b ∧ b ≤ 1000000000000000) ∧ (0 ≤ c ∧ c ≤ 1000000000000000) := by
  unfold amB inB at h
  simp only [Bool.and_eq_true, decide_eq_true_eq] at h
  exact h
theorem addV_no {a b c x y z : Int} (h : amZ a b c x y z = false) : addV a b c x y z = .tuple #[.agg #[.int .i64 0, .int .i64 0, .int .i64 0], .bool false] := by unfold addV; rw [h]; rfl
theorem addV_yes {a b c x y z : Int} (h : amZ a b c x y z = true) : addV a b c x y z = .tuple #[.agg #[.int .i64 (a + x), .int .i64 (b + y), .int .i64 (c + z)], .bool true] := by unfold addV; rw [h]; rfl
theorem below_three {w w1 : World} {o0 o1 o2 : Obj} (h : Below (((w.alloc o0).alloc o1).alloc o2).heap.size (((w.alloc o0).alloc o1).alloc o2) w1) : Below w.heap.size w w1 := ((((Below.refl w.heap.size w).alloc (Nat.le_refl _) _).alloc (by simp) _).alloc (by simp; omega) _).trans (h.mono (by simp; omega))
set_option maxRecDepth 100000 in
set_option maxHeartbeats 3200000 in
theorem sadd_any (a b c x y z : Int) (w : World) :
    Calls Try.prog 22 #[.agg #[.int .i64 a, .int .i64 b, .int .i64 c], .agg #[.int .i64 x, .int .i64 y, .int .i64 z]] w fun e w' => e = .returned (addV a b c x y z) ∧ Below w.heap.size w w' := by
  have ha := fun wx => sam_any a b c wx
  have hx := fun wx => sam_any x y z wx
  have hs := fun wx => sam_any (a + x) (b + y) (c + z) wx
  cases h0 : amB a b c
  · rw [h0] at ha
    have Ha := hide ha
    have HV : Hid (addV a b c x y z = _) := addV_no (by unfold amZ; rw [h0]; rfl)
    clear ha hx hs
    generalize addV a b c x y z = V at *
    go_enter Try.func22, Try.ntmps22
    go_wp2_with fail
    refine (Ha.out _).mono ?_
    rintro e w1 ⟨rfl, hb1⟩
    have T1 := hide (below_three hb1)
    obtain ⟨z0, z1, z2, y0, y1, y2⟩ : Has3 w1 (w.heap.size + 1 + 1) 0 0 0 := Has3.later (w := (((w.alloc (.cells #[.int .i64 a, .int .i64 b, .int .i64 c] 36)).alloc (.cells #[.int .i64 x, .int .i64 y, .int .i64 z] 36)).alloc (.cells #[.int .i64 0, .int .i64 0, .int .i64 0] 36))) (by constructor <;> simp [go_sem]) hb1
    clear hb1
    go_wp2_with fail
    rw [HV.out]
    exact bodyPost_ret (by simp [results, Try.results22, go_sem, z0, z1, z2]) rfl ⟨rfl, ((T1.out.setCell (by simp; omega) _).setCell (by simp; omega) _).setCell (by simp; omega) _⟩
  cases h1 : amB x y z
  · rw [h0] at ha
    rw [h1] at hx
    have Ha := hide ha
    have Hx := hide hx
    have HV : Hid (addV a b c x y z = _) := addV_no (by unfold amZ; rw [h0, h1]; rfl)
    clear ha hx hs
    generalize addV a b c x y z = V at *
    go_enter Try.func22, Try.ntmps22
    go_wp2_with fail
    refine (Ha.out _).mono ?_
    rintro e w1 ⟨rfl, hb1⟩
    have T1 := hide (below_three hb1)
    have Z1 : Hid (Has3 w1 (w.heap.size + 1 + 1) 0 0 0) := Has3.later (w := (((w.alloc (.cells #[.int .i64 a, .int .i64 b, .int .i64 c] 36)).alloc (.cells #[.int .i64 x, .int .i64 y, .int .i64 z] 36)).alloc (.cells #[.int .i64 0, .int .i64 0, .int .i64 0] 36))) (by constructor <;> simp [go_sem]) hb1
    obtain ⟨x0, x1, x2, -, -, -⟩ : Has3 w1 (w.heap.size + 1) x y z := Has3.later (w := (((w.alloc (.cells #[.int .i64 a, .int .i64 b, .int .i64 c] 36)).alloc (.cells #[.int .i64 x, .int .i64 y, .int .i64 z] 36)).alloc (.cells #[.int .i64 0, .int .i64 0, .int .i64 0] 36))) (by constructor <;> simp [go_sem]) hb1
    clear hb1
    go_wp2_with fail
    refine (Hx.out _).mono ?_
    rintro e w2 ⟨rfl, hb2⟩
    have T2 := hide (T1.out.trans (hb2.mono T1.out.size))
    obtain ⟨z0, z1, z2, y0, y1, y2⟩ := Z1.out.later hb2
    clear hb2 T1 Z1 x0 x1 x2
    go_wp2_with fail
    rw [HV.out]
    exact bodyPost_ret (by simp [results, Try.results22, go_sem, z0, z1, z2]) rfl ⟨rfl, ((T2.out.setCell (by simp; omega) _).setCell (by simp; omega) _).setCell (by simp; omega) _⟩
  obtain ⟨ba, bb, bc⟩ := amB_bd h0
  obtain ⟨bx, by', bz⟩ := amB_bd h1
  have e0 : wrap64 (a + x) = a + x := by simp only [wrap64]; omega
  have e1 : wrap64 (b + y) = b + y := by simp only [wrap64]; omega
  have e2 : wrap64 (c + z) = c + z := by simp only [wrap64]; omega
  rw [h0] at ha
  rw [h1] at hx
  have Ha := hide ha
  have Hx := hide hx
  clear ha hx
  cases h2 : amB (a + x) (b + y) (c + z)
  · rw [h2] at hs
    have Hs := hide hs
    have HV : Hid (addV a b c x y z = _) := addV_no (by unfold amZ; rw [h0, h1, h2]; rfl)
    clear hs h0 h1 h2 ba bb bc bx by' bz
    generalize addV a b c x y z = V at *
    go_enter Try.func22, Try.ntmps22
    go_wp2_with fail
    refine (Ha.out _).mono ?_
    rintro e w1 ⟨rfl, hb1⟩
    have T1 := hide (below_three hb1)
    have Z1 : Hid (Has3 w1 (w.heap.size + 1 + 1) 0 0 0) := Has3.later (w := (((w.alloc (.cells #[.int .i64 a, .int .i64 b, .int .i64 c] 36)).alloc (.cells #[.int .i64 x, .int .i64 y, .int .i64 z] 36)).alloc (.cells #[.int .i64 0, .int .i64 0, .int .i64 0] 36))) (by constructor <;> simp [go_sem]) hb1
    have A1 : Hid (Has3 w1 w.heap.size a b c) := Has3.later (w := (((w.alloc (.cells #[.int .i64 a, .int .i64 b, .int .i64 c] 36)).alloc (.cells #[.int .i64 x, .int .i64 y, .int .i64 z] 36)).alloc (.cells #[.int .i64 0, .int .i64 0, .int .i64 0] 36))) (by constructor <;> simp [go_sem]) hb1
    have X1 : Hid (Has3 w1 (w.heap.size + 1) x y z) := Has3.later (w := (((w.alloc (.cells #[.int .i64 a, .int .i64 b, .int .i64 c] 36)).alloc (.cells #[.int .i64 x, .int .i64 y, .int .i64 z] 36)).alloc (.cells #[.int .i64 0, .int .i64 0, .int .i64 0] 36))) (by constructor <;> simp [go_sem]) hb1
    have x0 := X1.out.c0
    have x1 := X1.out.c1
    have x2 := X1.out.c2
    clear hb1
    go_wp2_with fail
    refine (Hx.out _).mono ?_
    rintro e w2 ⟨rfl, hb2⟩
    have T2 := hide (T1.out.trans (hb2.mono T1.out.size))
    have Z2 := hide (Z1.out.later hb2)
    obtain ⟨a0, a1, a2, -, -, -⟩ := A1.out.later hb2
    clear x0 x1 x2
    obtain ⟨x0, x1, x2, -, -, -⟩ := X1.out.later hb2
    clear hb2 T1 Z1 A1 X1
    go_wp2_with fail
    refine (Hs.out _).mono ?_
    rintro e w3 ⟨rfl, hb3⟩
    have hg : Below w2.heap.size w2 w3 := ((Below.refl _ _).alloc (Nat.le_refl _) _).trans (hb3.mono (by simp))
    have T3 := hide (T2.out.trans (hg.mono T2.out.size))
    obtain ⟨z0, z1, z2, y0, y1, y2⟩ := Z2.out.later hg
    clear hb3 hg a0 a1 a2 x0 x1 x2 Z2 T2
    go_wp2_with fail
    rw [HV.out]
    exact bodyPost_ret (by simp [results, Try.results22, go_sem, z0, z1, z2]) rfl ⟨rfl, ((T3.out.setCell (by simp; omega) _).setCell (by simp; omega) _).setCell (by simp; omega) _⟩
  · rw [h2] at hs
    have Hs := hide hs
    have HV : Hid (addV a b c x y z = _) := addV_yes (by unfold amZ; rw [h0, h1, h2]; rfl)
    clear hs h0 h1 h2 ba bb bc bx by' bz
    generalize addV a b c x y z = V at *
    go_enter Try.func22, Try.ntmps22
    go_wp2_with fail
    refine (Ha.out _).mono ?_
    rintro e w1 ⟨rfl, hb1⟩
    have T1 := hide (below_three hb1)
    have Z1 : Hid (Has3 w1 (w.heap.size + 1 + 1) 0 0 0) := Has3.later (w := (((w.alloc (.cells #[.int .i64 a, .int .i64 b, .int .i64 c] 36)).alloc (.cells #[.int .i64 x, .int .i64 y, .int .i64 z] 36)).alloc (.cells #[.int .i64 0, .int .i64 0, .int .i64 0] 36))) (by constructor <;> simp [go_sem]) hb1
    have A1 : Hid (Has3 w1 w.heap.size a b c) := Has3.later (w := (((w.alloc (.cells #[.int .i64 a, .int .i64 b, .int .i64 c] 36)).alloc (.cells #[.int .i64 x, .int .i64 y, .int .i64 z] 36)).alloc (.cells #[.int .i64 0, .int .i64 0, .int .i64 0] 36))) (by constructor <;> simp [go_sem]) hb1
    have X1 : Hid (Has3 w1 (w.heap.size + 1) x y z) := Has3.later (w := (((w.alloc (.cells #[.int .i64 a, .int .i64 b, .int .i64 c] 36)).alloc (.cells #[.int .i64 x, .int .i64 y, .int .i64 z] 36)).alloc (.cells #[.int .i64 0, .int .i64 0, .int .i64 0] 36))) (by constructor <;> simp [go_sem]) hb1
    have x0 := X1.out.c0
    have x1 := X1.out.c1
    have x2 := X1.out.c2
    clear hb1
    go_wp2_with fail
    refine (Hx.out _).mono ?_
    rintro e w2 ⟨rfl, hb2⟩
    have T2 := hide (T1.out.trans (hb2.mono T1.out.size))
    have Z2 := hide (Z1.out.later hb2)
    obtain ⟨a0, a1, a2, -, -, -⟩ := A1.out.later hb2
    clear x0 x1 x2
    obtain ⟨x0, x1, x2, -, -, -⟩ := X1.out.later hb2
    clear hb2 T1 Z1 A1 X1
    go_wp2_with fail
    refine (Hs.out _).mono ?_
    rintro e w3 ⟨rfl, hb3⟩
    have hg : Below w2.heap.size w2 w3 := ((Below.refl _ _).alloc (Nat.le_refl _) _).trans (hb3.mono (by simp))
    have T3 := hide (T2.out.trans (hg.mono T2.out.size))
    obtain ⟨z0, z1, z2, y0, y1, y2⟩ := Z2.out.later hg
    obtain ⟨s0, s1, s2, -, -, -⟩ : Has3 w3 w2.heap.size (a + x) (b + y) (c + z) := Has3.later (w := w2.alloc (.cells #[.int .i64 (a + x), .int .i64 (b + y), .int .i64 (c + z)] 36)) (by constructor <;> simp [go_sem]) hb3
    clear hb3 hg a0 a1 a2 x0 x1 x2 Z2 T2
    go_wp2_with fail
    rw [HV.out]
    exact bodyPost_ret (by simp [results, Try.results22, go_sem, z0, z1, z2]) rfl ⟨rfl, ((T3.out.setCell (by simp; omega) _).setCell (by simp; omega) _).setCell (by simp; omega) _⟩
set_option maxRecDepth 100000 in
set_option maxHeartbeats 3200000 in
theorem iadd_any (a b c x y z : Int) (w : World) :
    Calls Try.prog 20 #[.agg #[.int .i64 a, .int .i64 b, .int .i64 c], .agg #[.int .i64 x, .int .i64 y, .int .i64 z]] w fun e w' => e = .returned (addV a b c x y z) ∧ Below w.heap.size w w' := by
  have ha := fun wx => iam_any a b c wx
  have hx := fun wx => iam_any x y z wx
  have hs := fun wx => iam_any (a + x) (b + y) (c + z) wx
  cases h0 : amB a b c
  · rw [h0] at ha
    have Ha := hide ha
    have HV : Hid (addV a b c x y z = _) := addV_no (by unfold amZ; rw [h0]; rfl)
    clear ha hx hs
    generalize addV a b c x y z = V at *
    go_enter Try.func20, Try.ntmps20
    go_wp2_with fail
    refine (Ha.out _).mono ?_
    rintro e w1 ⟨rfl, hb1⟩
    have T1 := hide (below_three hb1)
    obtain ⟨z0, z1, z2, y0, y1, y2⟩ : Has3 w1 (w.heap.size + 1 + 1) 0 0 0 := Has3.later (w := (((w.alloc (.cells #[.int .i64 a, .int .i64 b, .int .i64 c] 36)).alloc (.cells #[.int .i64 x, .int .i64 y, .int .i64 z] 36)).alloc (.cells #[.int .i64 0, .int .i64 0, .int .i64 0] 36))) (by constructor <;> simp [go_sem]) hb1
    clear hb1
    go_wp2_with fail
    rw [HV.out]
    exact bodyPost_ret (by simp [results, Try.results20, go_sem, z0, z1, z2]) rfl ⟨rfl, ((T1.out.setCell (by simp; omega) _).setCell (by simp; omega) _).setCell (by simp; omega) _⟩
  cases h1 : amB x y z
  · rw [h0] at ha
    rw [h1] at hx
    have Ha := hide ha
    have Hx := hide hx
    have HV : Hid (addV a b c x y z = _) := addV_no (by unfold amZ; rw [h0, h1]; rfl)
    clear ha hx hs
    generalize addV a b c x y z = V at *
    go_enter Try.func20, Try.ntmps20
    go_wp2_with fail
    refine (Ha.out _).mono ?_
    rintro e w1 ⟨rfl, hb1⟩
    have T1 := hide (below_three hb1)
    have Z1 : Hid (Has3 w1 (w.heap.size + 1 + 1) 0 0 0) := Has3.later (w := (((w.alloc (.cells #[.int .i64 a, .int .i64 b, .int .i64 c] 36)).alloc (.cells #[.int .i64 x, .int .i64 y, .int .i64 z] 36)).alloc (.cells #[.int .i64 0, .int .i64 0, .int .i64 0] 36))) (by constructor <;> simp [go_sem]) hb1
    obtain ⟨x0, x1, x2, -, -, -⟩ : Has3 w1 (w.heap.size + 1) x y z := Has3.later (w := (((w.alloc (.cells #[.int .i64 a, .int .i64 b, .int .i64 c] 36)).alloc (.cells #[.int .i64 x, .int .i64 y, .int .i64 z] 36)).alloc (.cells #[.int .i64 0, .int .i64 0, .int .i64 0] 36))) (by constructor <;> simp [go_sem]) hb1
    clear hb1
    go_wp2_with fail
    refine (Hx.out _).mono ?_
    rintro e w2 ⟨rfl, hb2⟩
    have T2 := hide (T1.out.trans (hb2.mono T1.out.size))
    obtain ⟨z0, z1, z2, y0, y1, y2⟩ := Z1.out.later hb2
    clear hb2 T1 Z1 x0 x1 x2
    go_wp2_with fail
    rw [HV.out]
    exact bodyPost_ret (by simp [results, Try.results20, go_sem, z0, z1, z2]) rfl ⟨rfl, ((T2.out.setCell (by simp; omega) _).setCell (by simp; omega) _).setCell (by simp; omega) _⟩
  obtain ⟨ba, bb, bc⟩ := amB_bd h0
  obtain ⟨bx, by', bz⟩ := amB_bd h1
  have e0 : wrap64 (a + x) = a + x := by simp only [wrap64]; omega
  have e1 : wrap64 (b + y) = b + y := by simp only [wrap64]; omega
  have e2 : wrap64 (c + z) = c + z := by simp only [wrap64]; omega
  rw [h0] at ha
  rw [h1] at hx
  have Ha := hide ha
  have Hx := hide hx
  clear ha hx
  cases h2 : amB (a + x) (b + y) (c + z)
  · rw [h2] at hs
    have Hs := hide hs
    have HV : Hid (addV a b c x y z = _) := addV_no (by unfold amZ; rw [h0, h1, h2]; rfl)
    clear hs h0 h1 h2 ba bb bc bx by' bz
    generalize addV a b c x y z = V at *
    go_enter Try.func20, Try.ntmps20
    go_wp2_with fail
    refine (Ha.out _).mono ?_
    rintro e w1 ⟨rfl, hb1⟩
    have T1 := hide (below_three hb1)
    have Z1 : Hid (Has3 w1 (w.heap.size + 1 + 1) 0 0 0) := Has3.later (w := (((w.alloc (.cells #[.int .i64 a, .int .i64 b, .int .i64 c] 36)).alloc (.cells #[.int .i64 x, .int .i64 y, .int .i64 z] 36)).alloc (.cells #[.int .i64 0, .int .i64 0, .int .i64 0] 36))) (by constructor <;> simp [go_sem]) hb1
    have A1 : Hid (Has3 w1 w.heap.size a b c) := Has3.later (w := (((w.alloc (.cells #[.int .i64 a, .int .i64 b, .int .i64 c] 36)).alloc (.cells #[.int .i64 x, .int .i64 y, .int .i64 z] 36)).alloc (.cells #[.int .i64 0, .int .i64 0, .int .i64 0] 36))) (by constructor <;> simp [go_sem]) hb1
    have X1 : Hid (Has3 w1 (w.heap.size + 1) x y z) := Has3.later (w := (((w.alloc (.cells #[.int .i64 a, .int .i64 b, .int .i64 c] 36)).alloc (.cells #[.int .i64 x, .int .i64 y, .int .i64 z] 36)).alloc (.cells #[.int .i64 0, .int .i64 0, .int .i64 0] 36))) (by constructor <;> simp [go_sem]) hb1
    have x0 := X1.out.c0
    have x1 := X1.out.c1
    have x2 := X1.out.c2
    clear hb1
    go_wp2_with fail
    refine (Hx.out _).mono ?_
    rintro e w2 ⟨rfl, hb2⟩
    have T2 := hide (T1.out.trans (hb2.mono T1.out.size))
    have Z2 := hide (Z1.out.later hb2)
    obtain ⟨a0, a1, a2, g0, g1, g2⟩ := A1.out.later hb2
    clear x0 x1 x2
    obtain ⟨x0, x1, x2, -, -, -⟩ := X1.out.later hb2
    clear hb2 T1 Z1 A1 X1
    go_wp2_with fail
    refine wp_loop_rounds 4 ?_
    rw [rounds_succ]; go_wp2
    go_region
    go_wp2
    rw [rounds_succ]; go_wp2
    go_region
    go_wp2
    rw [rounds_succ]; go_wp2
    go_region
    go_wp2
    rw [rounds_succ]; go_wp2_with fail
    refine (Hs.out _).mono ?_
    rintro e w3 ⟨rfl, hb3⟩
    have Z3 : Has3 ((((((w2.setCell ⟨w.heap.size, 0, none⟩ (.int .i64 (a + x))).setCell ⟨w.heap.size, 1, none⟩ (.int .i64 (b + y))).setCell ⟨w.heap.size, 2, none⟩ (.int .i64 (c + z))).drew).drew).drew) (w.heap.size + 1 + 1) 0 0 0 := by constructor <;> simp [go_sem, Z2.out.c0, Z2.out.c1, Z2.out.c2, Z2.out.f0, Z2.out.f1, Z2.out.f2]
    have T3' : Below w.heap.size w ((((((w2.setCell ⟨w.heap.size, 0, none⟩ (.int .i64 (a + x))).setCell ⟨w.heap.size, 1, none⟩ (.int .i64 (b + y))).setCell ⟨w.heap.size, 2, none⟩ (.int .i64 (c + z))).drew).drew).drew) := Below.drew (Below.drew (Below.drew (((T2.out.setCell (by simp) _).setCell (by simp) _).setCell (by simp) _)))
    have T3 := hide (T3'.trans (hb3.mono T3'.size))
    obtain ⟨z0, z1, z2, y0, y1, y2⟩ := Z3.later hb3
    clear hb3 a0 a1 a2 x0 x1 x2 g0 g1 g2 Z2 T2 Z3 T3'
    go_wp2_with fail
    rw [HV.out]
    exact bodyPost_ret (by simp [results, Try.results20, go_sem, z0, z1, z2]) rfl ⟨rfl, ((T3.out.setCell (by simp; omega) _).setCell (by simp; omega) _).setCell (by simp; omega) _⟩
  · rw [h2] at hs
    have Hs := hide hs
    have HV : Hid (addV a b c x y z = _) := addV_yes (by unfold amZ; rw [h0, h1, h2]; rfl)
    clear hs h0 h1 h2 ba bb bc bx by' bz
    generalize addV a b c x y z = V at *
    go_enter Try.func20, Try.ntmps20
    go_wp2_with fail
    refine (Ha.out _).mono ?_
    rintro e w1 ⟨rfl, hb1⟩
    have T1 := hide (below_three hb1)
    have Z1 : Hid (Has3 w1 (w.heap.size + 1 + 1) 0 0 0) := Has3.later (w := (((w.alloc (.cells #[.int .i64 a, .int .i64 b, .int .i64 c] 36)).alloc (.cells #[.int .i64 x, .int .i64 y, .int .i64 z] 36)).alloc (.cells #[.int .i64 0, .int .i64 0, .int .i64 0] 36))) (by constructor <;> simp [go_sem]) hb1
    have A1 : Hid (Has3 w1 w.heap.size a b c) := Has3.later (w := (((w.alloc (.cells #[.int .i64 a, .int .i64 b, .int .i64 c] 36)).alloc (.cells #[.int .i64 x, .int .i64 y, .int .i64 z] 36)).alloc (.cells #[.int .i64 0, .int .i64 0, .int .i64 0] 36))) (by constructor <;> simp [go_sem]) hb1
    have X1 : Hid (Has3 w1 (w.heap.size + 1) x y z) := Has3.later (w := (((w.alloc (.cells #[.int .i64 a, .int .i64 b, .int .i64 c] 36)).alloc (.cells #[.int .i64 x, .int .i64 y, .int .i64 z] 36)).alloc (.cells #[.int .i64 0, .int .i64 0, .int .i64 0] 36))) (by constructor <;> simp [go_sem]) hb1
    have x0 := X1.out.c0
    have x1 := X1.out.c1
    have x2 := X1.out.c2
    clear hb1
    go_wp2_with fail
    refine (Hx.out _).mono ?_
    rintro e w2 ⟨rfl, hb2⟩
    have T2 := hide (T1.out.trans (hb2.mono T1.out.size))
    have Z2 := hide (Z1.out.later hb2)
    obtain ⟨a0, a1, a2, g0, g1, g2⟩ := A1.out.later hb2
    clear x0 x1 x2
    obtain ⟨x0, x1, x2, -, -, -⟩ := X1.out.later hb2
    clear hb2 T1 Z1 A1 X1
    go_wp2_with fail
    refine wp_loop_rounds 4 ?_
    rw [rounds_succ]; go_wp2
    go_region
    go_wp2
    rw [rounds_succ]; go_wp2
    go_region
    go_wp2
    rw [rounds_succ]; go_wp2
    go_region
    go_wp2
    rw [rounds_succ]; go_wp2_with fail
    refine (Hs.out _).mono ?_
    rintro e w3 ⟨rfl, hb3⟩
    have Z3 : Has3 ((((((w2.setCell ⟨w.heap.size, 0, none⟩ (.int .i64 (a + x))).setCell ⟨w.heap.size, 1, none⟩ (.int .i64 (b + y))).setCell ⟨w.heap.size, 2, none⟩ (.int .i64 (c + z))).drew).drew).drew) (w.heap.size + 1 + 1) 0 0 0 := by constructor <;> simp [go_sem, Z2.out.c0, Z2.out.c1, Z2.out.c2, Z2.out.f0, Z2.out.f1, Z2.out.f2]
    have S3 : Has3 ((((((w2.setCell ⟨w.heap.size, 0, none⟩ (.int .i64 (a + x))).setCell ⟨w.heap.size, 1, none⟩ (.int .i64 (b + y))).setCell ⟨w.heap.size, 2, none⟩ (.int .i64 (c + z))).drew).drew).drew) w.heap.size (a + x) (b + y) (c + z) := by constructor <;> simp [go_sem, a0, a1, a2, g0, g1, g2]
    have T3' : Below w.heap.size w ((((((w2.setCell ⟨w.heap.size, 0, none⟩ (.int .i64 (a + x))).setCell ⟨w.heap.size, 1, none⟩ (.int .i64 (b + y))).setCell ⟨w.heap.size, 2, none⟩ (.int .i64 (c + z))).drew).drew).drew) := Below.drew (Below.drew (Below.drew (((T2.out.setCell (by simp) _).setCell (by simp) _).setCell (by simp) _)))
    have T3 := hide (T3'.trans (hb3.mono T3'.size))
    obtain ⟨z0, z1, z2, y0, y1, y2⟩ := Z3.later hb3
    obtain ⟨s0, s1, s2, -, -, -⟩ := S3.later hb3
    clear S3 hb3 a0 a1 a2 x0 x1 x2 g0 g1 g2 Z2 T2 Z3 T3'
    go_wp2_with fail
    rw [HV.out]
    exact bodyPost_ret (by simp [results, Try.results20, go_sem, z0, z1, z2]) rfl ⟨rfl, ((T3.out.setCell (by simp; omega) _).setCell (by simp; omega) _).setCell (by simp; omega) _⟩
end Go.Proofs.Ytlbpfcchaobgjaa
