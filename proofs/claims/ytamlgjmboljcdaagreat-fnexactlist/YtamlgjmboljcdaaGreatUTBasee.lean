/- Data as cells: the helpers of the laws over Base. -/
import Derived.Test.YtamlgjmboljcdaaGreatULeaf
import Derived.Test.YtamlgjmboljcdaaGreatULd
import Derived.Test.YtamlgjmboljcdaaGreatUFBase
import Derived.Test.YtamlgjmboljcdaaGreatUTObje
import Derived.Test.YtamlgjmboljcdaaGreatUTChangee
namespace Go.Proofs.YtamlgjmboljcdaaGreat
open Go.RowKit Go.BigFrame
set_option linter.unusedVariables false

set_option maxRecDepth 20000 in
set_option maxHeartbeats 800000 in
theorem umarkBase_any (d : UD) (k0 : Nat) (xs : List Value) (S : List Nat) (w : World) (ht : tyL d (uE 10)) (hnd : S.Nodup) (hk0 : 1 ≤ k0) (hk1 : k0 + cntT d ≤ 100000000) (hx : oH w d xs S) :
    Calls Tryz.prog 44 #[.agg xs.toArray, .int .i64 k0] w fun e w' => e = .returned (.int .i64 (k0 + cntT d : Nat)) ∧ oH w' (mkT d k0) xs S ∧ OutS S w w' := by
  obtain ⟨n0, c0, z1, z2, n3, c3, rfl, g0, g1, g2, g3⟩ := partsBase ht
  have hx' := hx
  obtain ⟨v0, _, _, _, rfl, _, _, ⟨_, _, o0, _⟩, ⟨_, rfl, ⟨_, rfl, ⟨v3, _, _, _, rfl, _, _, ⟨_, _, o3, _⟩, ⟨rfl, _⟩⟩⟩⟩⟩ := hx'
  obtain ⟨a0, p0, rfl⟩ := uowns_slice o0
  clear o0
  obtain ⟨a3, p3, rfl⟩ := uowns_slice o3
  clear o3
  simp only [cntT] at hk1
  have hlt := hx.lt
  have HC0 : Hid (∀ (wx : World) (x : Int), oH wx (.l 17 n0 c0 (.p (.int .i64 z1) (.p (.int .i64 z2) (.l 19 n3 c3 .nil)))) [.slice a0 n0 p0, .int .i64 z1, .int .i64 z2, .slice a3 n3 p3] S → x = ((k0 : Nat) : Int) → Calls Tryz.prog 119 #[.slice a0 n0 p0, .int .i64 x] wx fun e w' => e = .returned (.int .i64 ((k0 + cnt c0) : Nat)) ∧ oH w' (.l 17 n0 (mk c0 k0) (.p (.int .i64 z1) (.p (.int .i64 z2) (.l 19 n3 c3 .nil)))) [.slice a0 n0 p0, .int .i64 z1, .int .i64 z2, .slice a3 n3 p3] S ∧ OutS S wx w') := by
    intro wx x h hxx
    rw [hxx]
    obtain ⟨c', T, q1, q2, q3, q4, q5⟩ := h.part hnd 0 17 n0 c0 rfl
    cases q1
    exact (umarkObjS_any n0 k0 c0 _ T wx g0 q3 (by omega) (by omega) q2).mono fun e w' h => ⟨h.1, q5 w' _ h.2.2 h.2.1, h.2.2.mono q4⟩
  have HC1 : Hid (∀ (wx : World) (x : Int), oH wx (.l 17 n0 (mk c0 k0) (.p (.int .i64 z1) (.p (.int .i64 z2) (.l 19 n3 c3 .nil)))) [.slice a0 n0 p0, .int .i64 z1, .int .i64 z2, .slice a3 n3 p3] S → x = (((k0 + cnt c0) : Nat) : Int) → Calls Tryz.prog 52 #[.slice a3 n3 p3, .int .i64 x] wx fun e w' => e = .returned (.int .i64 (((k0 + cnt c0) + cnt c3) : Nat)) ∧ oH w' (.l 17 n0 (mk c0 k0) (.p (.int .i64 z1) (.p (.int .i64 z2) (.l 19 n3 (mk c3 (k0 + cnt c0)) .nil)))) [.slice a0 n0 p0, .int .i64 z1, .int .i64 z2, .slice a3 n3 p3] S ∧ OutS S wx w') := by
    intro wx x h hxx
    rw [hxx]
    obtain ⟨c', T, q1, q2, q3, q4, q5⟩ := h.part hnd 3 19 n3 c3 rfl
    cases q1
    exact (umarkChangeS_any n3 (k0 + cnt c0) c3 _ T wx g3 q3 (by omega) (by omega) q2).mono fun e w' h => ⟨h.1, q5 w' _ h.2.2 h.2.1, h.2.2.mono q4⟩
  have HE : Hid ((((k0 + cnt c0) + cnt c3) : Nat) = k0 + cntT (.l 17 n0 c0 (.p (.int .i64 z1) (.p (.int .i64 z2) (.l 19 n3 c3 .nil))))) := by show _ = _; simp only [cntT]; omega
  have HF : Hid (∀ wx, oH wx (.l 17 n0 (mk c0 k0) (.p (.int .i64 z1) (.p (.int .i64 z2) (.l 19 n3 (mk c3 (k0 + cnt c0)) .nil)))) [.slice a0 n0 p0, .int .i64 z1, .int .i64 z2, .slice a3 n3 p3] S → oH wx (mkT (.l 17 n0 c0 (.p (.int .i64 z1) (.p (.int .i64 z2) (.l 19 n3 c3 .nil)))) k0) [.slice a0 n0 p0, .int .i64 z1, .int .i64 z2, .slice a3 n3 p3] S) := fun wx h => h
  generalize k0 + cntT (.l 17 n0 c0 (.p (.int .i64 z1) (.p (.int .i64 z2) (.l 19 n3 c3 .nil)))) = R at *
  have H0 : Hid (∀ o, oH (w.alloc o) (.l 17 n0 c0 (.p (.int .i64 z1) (.p (.int .i64 z2) (.l 19 n3 c3 .nil)))) [.slice a0 n0 p0, .int .i64 z1, .int .i64 z2, .slice a3 n3 p3] S) := fun o => hx.below ((Below.refl _ _).alloc (Nat.le_refl _) _)
  have HS : Hid (w.heap.size ∉ S) := fun h => by have := hlt _ h; omega
  have HO : Hid (∀ o w', OutS S (w.alloc o) w' → OutS S w w') := fun o w' h => (OutS.of_below ((Below.refl _ _).alloc (Nat.le_refl _) _)).trans h
  clear ht hx hlt hnd g0 g1 g2 g3
  go_enter Tryz.func44, Tryz.ntmps44
  go_wp2_with fail
  refine (HC0.out _ _ (H0.out _) (by omega)).mono ?_
  rintro e w1 ⟨rfl, h1, ho1⟩
  have b1 : w1.cell? ⟨w.heap.size, 1, none⟩ = some (.int .i64 z1) := (ho1.cell (p := ⟨w.heap.size, 1, none⟩) (by simp) HS.out).trans (by simp [go_sem])
  have b2 : w1.cell? ⟨w.heap.size, 2, none⟩ = some (.int .i64 z2) := (ho1.cell (p := ⟨w.heap.size, 2, none⟩) (by simp) HS.out).trans (by simp [go_sem])
  have b3 : w1.cell? ⟨w.heap.size, 3, none⟩ = some (.slice a3 n3 p3) := (ho1.cell (p := ⟨w.heap.size, 3, none⟩) (by simp) HS.out).trans (by simp [go_sem])
  have I1 := uhide h1
  have B1 : Hid (OutS S w w1) := HO.out _ _ ho1
  clear h1 ho1
  go_wp2_with fail
  refine (HC1.out _ _ I1.out (by omega)).mono ?_
  rintro e w2 ⟨rfl, h2, ho2⟩
  have I2 := uhide h2
  have B2 : Hid (OutS S w w2) := B1.out.trans ho2
  clear h2 ho2
  go_wp2
  go_ret
  exact ⟨ret_intU (by have := HE.out; omega), HF.out _ I2.out, B2.out⟩
end Go.Proofs.YtamlgjmboljcdaaGreat
