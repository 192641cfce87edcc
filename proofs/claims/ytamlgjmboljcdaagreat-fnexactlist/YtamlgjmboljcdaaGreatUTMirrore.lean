/- Data as cells: the helpers of the laws over Mirror. -/
import Derived.Test.YtamlgjmboljcdaaGreatULeaf
import Derived.Test.YtamlgjmboljcdaaGreatULd
import Derived.Test.YtamlgjmboljcdaaGreatUFMirror
import Derived.Test.YtamlgjmboljcdaaGreatUTObje
namespace Go.Proofs.YtamlgjmboljcdaaGreat
open Go.RowKit Go.BigFrame
set_option linter.unusedVariables false

set_option maxRecDepth 20000 in
set_option maxHeartbeats 800000 in
theorem umarkMirror_any (d : UD) (k0 : Nat) (xs : List Value) (S : List Nat) (w : World) (ht : tyL d (uE 11)) (hnd : S.Nodup) (hk0 : 1 ≤ k0) (hk1 : k0 + cntT d ≤ 100000000) (hx : oH w d xs S) :
    Calls Tryz.prog 59 #[.agg xs.toArray, .int .i64 k0] w fun e w' => e = .returned (.int .i64 (k0 + cntT d : Nat)) ∧ oH w' (mkT d k0) xs S ∧ OutS S w w' := by
  obtain ⟨z0, n1, c1, rfl, g0, g1⟩ := partsMirror ht
  have hx' := hx
  obtain ⟨_, rfl, ⟨v1, _, _, _, rfl, _, _, ⟨_, _, o1, _⟩, ⟨rfl, _⟩⟩⟩ := hx'
  obtain ⟨a1, p1, rfl⟩ := uowns_slice o1
  clear o1
  simp only [cntT] at hk1
  have hlt := hx.lt
  have HC0 : Hid (∀ (wx : World) (x : Int), oH wx (.p (.int .i64 z0) (.l 17 n1 c1 .nil)) [.int .i64 z0, .slice a1 n1 p1] S → x = ((k0 : Nat) : Int) → Calls Tryz.prog 119 #[.slice a1 n1 p1, .int .i64 x] wx fun e w' => e = .returned (.int .i64 ((k0 + cnt c1) : Nat)) ∧ oH w' (.p (.int .i64 z0) (.l 17 n1 (mk c1 k0) .nil)) [.int .i64 z0, .slice a1 n1 p1] S ∧ OutS S wx w') := by
    intro wx x h hxx
    rw [hxx]
    obtain ⟨c', T, q1, q2, q3, q4, q5⟩ := h.part hnd 1 17 n1 c1 rfl
    cases q1
    exact (umarkObjS_any n1 k0 c1 _ T wx g1 q3 (by omega) (by omega) q2).mono fun e w' h => ⟨h.1, q5 w' _ h.2.2 h.2.1, h.2.2.mono q4⟩
  have HE : Hid (((k0 + cnt c1) : Nat) = k0 + cntT (.p (.int .i64 z0) (.l 17 n1 c1 .nil))) := by show _ = _; simp only [cntT]; omega
  have HF : Hid (∀ wx, oH wx (.p (.int .i64 z0) (.l 17 n1 (mk c1 k0) .nil)) [.int .i64 z0, .slice a1 n1 p1] S → oH wx (mkT (.p (.int .i64 z0) (.l 17 n1 c1 .nil)) k0) [.int .i64 z0, .slice a1 n1 p1] S) := fun wx h => h
  generalize k0 + cntT (.p (.int .i64 z0) (.l 17 n1 c1 .nil)) = R at *
  have H0 : Hid (∀ o, oH (w.alloc o) (.p (.int .i64 z0) (.l 17 n1 c1 .nil)) [.int .i64 z0, .slice a1 n1 p1] S) := fun o => hx.below ((Below.refl _ _).alloc (Nat.le_refl _) _)
  have HS : Hid (w.heap.size ∉ S) := fun h => by have := hlt _ h; omega
  have HO : Hid (∀ o w', OutS S (w.alloc o) w' → OutS S w w') := fun o w' h => (OutS.of_below ((Below.refl _ _).alloc (Nat.le_refl _) _)).trans h
  clear ht hx hlt hnd g0 g1
  go_enter Tryz.func59, Tryz.ntmps59
  go_wp2_with fail
  refine (HC0.out _ _ (H0.out _) (by omega)).mono ?_
  rintro e w1 ⟨rfl, h1, ho1⟩
  have I1 := uhide h1
  have B1 : Hid (OutS S w w1) := HO.out _ _ ho1
  clear h1 ho1
  go_wp2
  go_ret
  exact ⟨ret_intU (by have := HE.out; omega), HF.out _ I1.out, B1.out⟩
end Go.Proofs.YtamlgjmboljcdaaGreat
