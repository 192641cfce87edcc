/- Data as cells: the helpers of the laws over Queue. -/
import Derived.Test.YtldabidmacghgaaULeaf
import Derived.Test.YtldabidmacghgaaULd
import Derived.Test.YtldabidmacghgaaUFQueue
import Derived.Test.YtldabidmacghgaaUTItem
namespace Go.Proofs.Ytldabidmacghgaa
open Go.RowKit Go.BigFrame
set_option linter.unusedVariables false
set_option linter.unusedSimpArgs false

set_option maxRecDepth 20000 in
set_option maxHeartbeats 800000 in
theorem uheldQueue_any {lo hi : Nat} (d : UD) (k0 : Nat) (xs : List Value) (w : World) (ht : tyL d (uE 13)) (hk0 : 1 ≤ k0) (hk1 : k0 + cntT d ≤ 100000000) (hx : uH w lo hi (mkT d k0) xs) :
    Calls Try.prog 27 #[.agg xs.toArray, .int .i64 k0] w fun e w' => e = .returned (.int .i64 (k0 + cntT d : Nat)) ∧ Below w.heap.size w w' := by
  obtain ⟨n0, c0, n1, c1, n2, c2, z3, rfl, g0, g1, g2, g3⟩ := partsQueue ht
  obtain ⟨v0, _, rfl, s0, ⟨v1, _, rfl, s1, ⟨v2, _, rfl, s2, ⟨_, rfl, rfl⟩⟩⟩⟩ := hx
  obtain ⟨a0, p0, rfl, t0⟩ := s0
  obtain ⟨a1, p1, rfl, t1⟩ := s1
  obtain ⟨a2, p2, rfl, t2⟩ := s2
  simp only [cntT] at hk1
  have HC0 : Hid (∀ (wx : World) (x : Int), Below w.heap.size w wx → x = ((k0 : Nat) : Int) → Calls Try.prog 58 #[.slice a0 n0 p0, .int .i64 x] wx fun e w' => e = .returned (.int .i64 ((k0 + cnt c0) : Nat)) ∧ Below wx.heap.size wx w') := fun wx x hb hx => by rw [hx]; exact uheldItemS_any (lo := lo) (hi := hi) n0 k0 c0 _ wx g0 (by omega) (by omega) ((show uS w lo hi 3 n0 (mk c0 k0) (.slice a0 n0 p0) from ⟨_, _, rfl, t0⟩).below hb)
  have HC1 : Hid (∀ (wx : World) (x : Int), Below w.heap.size w wx → x = (((k0 + cnt c0) : Nat) : Int) → Calls Try.prog 58 #[.slice a1 n1 p1, .int .i64 x] wx fun e w' => e = .returned (.int .i64 (((k0 + cnt c0) + cnt c1) : Nat)) ∧ Below wx.heap.size wx w') := fun wx x hb hx => by rw [hx]; exact uheldItemS_any (lo := lo) (hi := hi) n1 (k0 + cnt c0) c1 _ wx g1 (by omega) (by omega) ((show uS w lo hi 3 n1 (mk c1 (k0 + cnt c0)) (.slice a1 n1 p1) from ⟨_, _, rfl, t1⟩).below hb)
  have HC2 : Hid (∀ (wx : World) (x : Int), Below w.heap.size w wx → x = ((((k0 + cnt c0) + cnt c1) : Nat) : Int) → Calls Try.prog 59 #[.slice a2 n2 p2, .int .i64 x] wx fun e w' => e = .returned (.int .i64 ((((k0 + cnt c0) + cnt c1) + cnt c2) : Nat)) ∧ Below wx.heap.size wx w') := fun wx x hb hx => by rw [hx]; exact uheldStringS_any (lo := lo) (hi := hi) n2 ((k0 + cnt c0) + cnt c1) c2 _ wx g2 (by omega) (by omega) ((show uS w lo hi 1 n2 (mk c2 ((k0 + cnt c0) + cnt c1)) (.slice a2 n2 p2) from ⟨_, _, rfl, t2⟩).below hb)
  have HE : Hid (((((k0 + cnt c0) + cnt c1) + cnt c2) : Nat) = k0 + cntT (.l 3 n0 c0 (.l 3 n1 c1 (.l 1 n2 c2 (.p (.int .i64 z3) .nil))))) := by show _ = _; simp only [cntT]; omega
  generalize k0 + cntT (.l 3 n0 c0 (.l 3 n1 c1 (.l 1 n2 c2 (.p (.int .i64 z3) .nil)))) = R at *
  have HA : Hid (∀ o, Below w.heap.size w (w.alloc o)) := fun o => (Below.refl _ _).alloc (Nat.le_refl _) _
  clear g0 g1 g2 g3 t0 t1 t2
  generalize cnt c0 = m0 at *
  generalize cnt c1 = m1 at *
  generalize cnt c2 = m2 at *
  go_enter Try.func27, Try.ntmps27
  go_wp2_with fail
  refine (HC0.out _ _ (HA.out _) (by omega)).mono ?_
  rintro e w1 ⟨rfl, hb1⟩
  have b1 : w1.cell? ⟨w.heap.size, 1, none⟩ = some (.slice a1 n1 p1) := (hb1.cell (p := ⟨w.heap.size, 1, none⟩) (by simp <;> omega)).trans (by simp [go_sem])
  have b2 : w1.cell? ⟨w.heap.size, 2, none⟩ = some (.slice a2 n2 p2) := (hb1.cell (p := ⟨w.heap.size, 2, none⟩) (by simp <;> omega)).trans (by simp [go_sem])
  have b3 : w1.cell? ⟨w.heap.size, 3, none⟩ = some (.int .i64 z3) := (hb1.cell (p := ⟨w.heap.size, 3, none⟩) (by simp <;> omega)).trans (by simp [go_sem])
  have B1 : Hid (Below w.heap.size w w1) := (HA.out _).trans (hb1.mono (by simp <;> omega))
  clear hb1
  go_wp2_with fail
  refine (HC1.out _ _ B1.out (by omega)).mono ?_
  rintro e w2 ⟨rfl, hb2⟩
  replace b2 : w2.cell? ⟨w.heap.size, 2, none⟩ = some (.slice a2 n2 p2) := (hb2.cell (p := ⟨w.heap.size, 2, none⟩) (World.block_lt_of_cell? _ _ b2)).trans b2
  replace b3 : w2.cell? ⟨w.heap.size, 3, none⟩ = some (.int .i64 z3) := (hb2.cell (p := ⟨w.heap.size, 3, none⟩) (World.block_lt_of_cell? _ _ b3)).trans b3
  have B2 : Hid (Below w.heap.size w w2) := B1.out.trans (hb2.mono B1.out.size)
  clear hb2
  go_wp2_with fail
  refine (HC2.out _ _ B2.out (by omega)).mono ?_
  rintro e w3 ⟨rfl, hb3⟩
  replace b3 : w3.cell? ⟨w.heap.size, 3, none⟩ = some (.int .i64 z3) := (hb3.cell (p := ⟨w.heap.size, 3, none⟩) (World.block_lt_of_cell? _ _ b3)).trans b3
  have B3 : Hid (Below w.heap.size w w3) := B2.out.trans (hb3.mono B2.out.size)
  clear hb3
  go_wp2
  go_ret
  exact ⟨ret_intU (by have := HE.out; omega), B3.out⟩
end Go.Proofs.Ytldabidmacghgaa
