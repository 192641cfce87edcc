/- Data as cells: the helpers of the laws over Queue. -/
import Derived.Test.YtldabidmacghgaaULeaf
import Derived.Test.YtldabidmacghgaaULd
import Derived.Test.YtldabidmacghgaaUFQueue
import Derived.Test.YtldabidmacghgaaUTItem
namespace Go.Proofs.Ytldabidmacghgaa
open Go.RowKit Go.BigFrame
set_option linter.unusedVariables false
set_option linter.unusedSimpArgs false

set_option maxRecDepth 20000 in
set_option maxHeartbeats 800000 in
theorem umarkQueue_any (d : UD) (k0 : Nat) (xs : List Value) (S : List Nat) (w : World) (ht : tyL d (uE 13)) (hnd : S.Nodup) (hk0 : 1 ≤ k0) (hk1 : k0 + cntT d ≤ 100000000) (hx : oH w d xs S) :
    Calls Try.prog 26 #[.agg xs.toArray, .int .i64 k0] w fun e w' => e = .returned (.int .i64 (k0 + cntT d : Nat)) ∧ oH w' (mkT d k0) xs S ∧ OutS S w w' := by
  obtain ⟨n0, c0, n1, c1, n2, c2, z3, rfl, g0, g1, g2, g3⟩ := partsQueue ht
  have hx' := hx
  obtain ⟨v0, _, _, _, rfl, _, _, ⟨_, _, o0, _⟩, ⟨v1, _, _, _, rfl, _, _, ⟨_, _, o1, _⟩, ⟨v2, _, _, _, rfl, _, _, ⟨_, _, o2, _⟩, ⟨_, rfl, ⟨rfl, _⟩⟩⟩⟩⟩ := hx'
  obtain ⟨a0, p0, rfl⟩ := uowns_slice o0
  clear o0
  obtain ⟨a1, p1, rfl⟩ := uowns_slice o1
  clear o1
  obtain ⟨a2, p2, rfl⟩ := uowns_slice o2
  clear o2
  simp only [cntT] at hk1
  have hlt := hx.lt
  have HC0 : Hid (∀ (wx : World) (x : Int), oH wx (.l 3 n0 c0 (.l 3 n1 c1 (.l 1 n2 c2 (.p (.int .i64 z3) .nil)))) [.slice a0 n0 p0, .slice a1 n1 p1, .slice a2 n2 p2, .int .i64 z3] S → x = ((k0 : Nat) : Int) → Calls Try.prog 56 #[.slice a0 n0 p0, .int .i64 x] wx fun e w' => e = .returned (.int .i64 ((k0 + cnt c0) : Nat)) ∧ oH w' (.l 3 n0 (mk c0 k0) (.l 3 n1 c1 (.l 1 n2 c2 (.p (.int .i64 z3) .nil)))) [.slice a0 n0 p0, .slice a1 n1 p1, .slice a2 n2 p2, .int .i64 z3] S ∧ OutS S wx w') := by
    intro wx x h hxx
    rw [hxx]
    obtain ⟨c', T, q1, q2, q3, q4, q5⟩ := h.part hnd 0 3 n0 c0 rfl
    cases q1
    exact (umarkItemS_any n0 k0 c0 _ T wx g0 q3 (by omega) (by omega) q2).mono fun e w' h => ⟨h.1, q5 w' _ h.2.2 h.2.1, h.2.2.mono q4⟩
  have HC1 : Hid (∀ (wx : World) (x : Int), oH wx (.l 3 n0 (mk c0 k0) (.l 3 n1 c1 (.l 1 n2 c2 (.p (.int .i64 z3) .nil)))) [.slice a0 n0 p0, .slice a1 n1 p1, .slice a2 n2 p2, .int .i64 z3] S → x = (((k0 + cnt c0) : Nat) : Int) → Calls Try.prog 56 #[.slice a1 n1 p1, .int .i64 x] wx fun e w' => e = .returned (.int .i64 (((k0 + cnt c0) + cnt c1) : Nat)) ∧ oH w' (.l 3 n0 (mk c0 k0) (.l 3 n1 (mk c1 (k0 + cnt c0)) (.l 1 n2 c2 (.p (.int .i64 z3) .nil)))) [.slice a0 n0 p0, .slice a1 n1 p1, .slice a2 n2 p2, .int .i64 z3] S ∧ OutS S wx w') := by
    intro wx x h hxx
    rw [hxx]
    obtain ⟨c', T, q1, q2, q3, q4, q5⟩ := h.part hnd 1 3 n1 c1 rfl
    cases q1
    exact (umarkItemS_any n1 (k0 + cnt c0) c1 _ T wx g1 q3 (by omega) (by omega) q2).mono fun e w' h => ⟨h.1, q5 w' _ h.2.2 h.2.1, h.2.2.mono q4⟩
  have HC2 : Hid (∀ (wx : World) (x : Int), oH wx (.l 3 n0 (mk c0 k0) (.l 3 n1 (mk c1 (k0 + cnt c0)) (.l 1 n2 c2 (.p (.int .i64 z3) .nil)))) [.slice a0 n0 p0, .slice a1 n1 p1, .slice a2 n2 p2, .int .i64 z3] S → x = ((((k0 + cnt c0) + cnt c1) : Nat) : Int) → Calls Try.prog 57 #[.slice a2 n2 p2, .int .i64 x] wx fun e w' => e = .returned (.int .i64 ((((k0 + cnt c0) + cnt c1) + cnt c2) : Nat)) ∧ oH w' (.l 3 n0 (mk c0 k0) (.l 3 n1 (mk c1 (k0 + cnt c0)) (.l 1 n2 (mk c2 ((k0 + cnt c0) + cnt c1)) (.p (.int .i64 z3) .nil)))) [.slice a0 n0 p0, .slice a1 n1 p1, .slice a2 n2 p2, .int .i64 z3] S ∧ OutS S wx w') := by
    intro wx x h hxx
    rw [hxx]
    obtain ⟨c', T, q1, q2, q3, q4, q5⟩ := h.part hnd 2 1 n2 c2 rfl
    cases q1
    exact (umarkStringS_any n2 ((k0 + cnt c0) + cnt c1) c2 _ T wx g2 q3 (by omega) (by omega) q2).mono fun e w' h => ⟨h.1, q5 w' _ h.2.2 h.2.1, h.2.2.mono q4⟩
  have HE : Hid (((((k0 + cnt c0) + cnt c1) + cnt c2) : Nat) = k0 + cntT (.l 3 n0 c0 (.l 3 n1 c1 (.l 1 n2 c2 (.p (.int .i64 z3) .nil))))) := by show _ = _; simp only [cntT]; omega
  have HF : Hid (∀ wx, oH wx (.l 3 n0 (mk c0 k0) (.l 3 n1 (mk c1 (k0 + cnt c0)) (.l 1 n2 (mk c2 ((k0 + cnt c0) + cnt c1)) (.p (.int .i64 z3) .nil)))) [.slice a0 n0 p0, .slice a1 n1 p1, .slice a2 n2 p2, .int .i64 z3] S → oH wx (mkT (.l 3 n0 c0 (.l 3 n1 c1 (.l 1 n2 c2 (.p (.int .i64 z3) .nil)))) k0) [.slice a0 n0 p0, .slice a1 n1 p1, .slice a2 n2 p2, .int .i64 z3] S) := fun wx h => h
  generalize k0 + cntT (.l 3 n0 c0 (.l 3 n1 c1 (.l 1 n2 c2 (.p (.int .i64 z3) .nil)))) = R at *
  have H0 : Hid (∀ o, oH (w.alloc o) (.l 3 n0 c0 (.l 3 n1 c1 (.l 1 n2 c2 (.p (.int .i64 z3) .nil)))) [.slice a0 n0 p0, .slice a1 n1 p1, .slice a2 n2 p2, .int .i64 z3] S) := fun o => hx.below ((Below.refl _ _).alloc (Nat.le_refl _) _)
  have HS : Hid (w.heap.size ∉ S) := fun h => by have := hlt _ h; omega
  have HO : Hid (∀ o w', OutS S (w.alloc o) w' → OutS S w w') := fun o w' h => (OutS.of_below ((Below.refl _ _).alloc (Nat.le_refl _) _)).trans h
  clear ht hx hlt hnd g0 g1 g2 g3
  go_enter Try.func26, Try.ntmps26
  go_wp2_with fail
  refine (HC0.out _ _ (H0.out _) (by omega)).mono ?_
  rintro e w1 ⟨rfl, h1, ho1⟩
  have b1 : w1.cell? ⟨w.heap.size, 1, none⟩ = some (.slice a1 n1 p1) := (ho1.cell (p := ⟨w.heap.size, 1, none⟩) (by simp) HS.out).trans (by simp [go_sem])
  have b2 : w1.cell? ⟨w.heap.size, 2, none⟩ = some (.slice a2 n2 p2) := (ho1.cell (p := ⟨w.heap.size, 2, none⟩) (by simp) HS.out).trans (by simp [go_sem])
  have b3 : w1.cell? ⟨w.heap.size, 3, none⟩ = some (.int .i64 z3) := (ho1.cell (p := ⟨w.heap.size, 3, none⟩) (by simp) HS.out).trans (by simp [go_sem])
  have I1 := uhide h1
  have B1 : Hid (OutS S w w1) := HO.out _ _ ho1
  clear h1 ho1
  go_wp2_with fail
  refine (HC1.out _ _ I1.out (by omega)).mono ?_
  rintro e w2 ⟨rfl, h2, ho2⟩
  replace b2 : w2.cell? ⟨w.heap.size, 2, none⟩ = some (.slice a2 n2 p2) := (ho2.cell (p := ⟨w.heap.size, 2, none⟩) (World.block_lt_of_cell? _ _ b2) HS.out).trans b2
  replace b3 : w2.cell? ⟨w.heap.size, 3, none⟩ = some (.int .i64 z3) := (ho2.cell (p := ⟨w.heap.size, 3, none⟩) (World.block_lt_of_cell? _ _ b3) HS.out).trans b3
  have I2 := uhide h2
  have B2 : Hid (OutS S w w2) := B1.out.trans ho2
  clear h2 ho2
  go_wp2_with fail
  refine (HC2.out _ _ I2.out (by omega)).mono ?_
  rintro e w3 ⟨rfl, h3, ho3⟩
  replace b3 : w3.cell? ⟨w.heap.size, 3, none⟩ = some (.int .i64 z3) := (ho3.cell (p := ⟨w.heap.size, 3, none⟩) (World.block_lt_of_cell? _ _ b3) HS.out).trans b3
  have I3 := uhide h3
  have B3 : Hid (OutS S w w3) := B2.out.trans ho3
  clear h3 ho3
  go_wp2
  go_ret
  exact ⟨ret_intU (by have := HE.out; omega), HF.out _ I3.out, B3.out⟩
end Go.Proofs.Ytldabidmacghgaa
