/- Data as cells: the helpers of the laws over Mirror. -/
import Derived.Test.YtamlgjmboljcdaaGreatULeaf
import Derived.Test.YtamlgjmboljcdaaGreatULd
import Derived.Test.YtamlgjmboljcdaaGreatUFMirror
import Derived.Test.YtamlgjmboljcdaaGreatUTObjd
namespace Go.Proofs.YtamlgjmboljcdaaGreat
open Go.RowKit Go.BigFrame
set_option linter.unusedVariables false

set_option maxRecDepth 20000 in
set_option maxHeartbeats 800000 in
theorem uheldMirror_any {lo hi : Nat} (d : UD) (k0 : Nat) (xs : List Value) (w : World) (ht : tyL d (uE 11)) (hk0 : 1 ≤ k0) (hk1 : k0 + cntT d ≤ 100000000) (hx : uH w lo hi (mkT d k0) xs) :
    Calls Tryz.prog 60 #[.agg xs.toArray, .int .i64 k0] w fun e w' => e = .returned (.int .i64 (k0 + cntT d : Nat)) ∧ Below w.heap.size w w' := by
  obtain ⟨z0, n1, c1, rfl, g0, g1⟩ := partsMirror ht
  obtain ⟨_, rfl, ⟨v1, _, rfl, s1, rfl⟩⟩ := hx
  obtain ⟨a1, p1, rfl, t1⟩ := s1
  simp only [cntT] at hk1
  have HC0 : Hid (∀ (wx : World) (x : Int), Below w.heap.size w wx → x = ((k0 : Nat) : Int) → Calls Tryz.prog 122 #[.slice a1 n1 p1, .int .i64 x] wx fun e w' => e = .returned (.int .i64 ((k0 + cnt c1) : Nat)) ∧ Below wx.heap.size wx w') := fun wx x hb hx => by rw [hx]; exact uheldObjS_any (lo := lo) (hi := hi) n1 k0 c1 _ wx g1 (by omega) (by omega) ((show uS w lo hi 17 n1 (mk c1 k0) (.slice a1 n1 p1) from ⟨_, _, rfl, t1⟩).below hb)
  have HE : Hid (((k0 + cnt c1) : Nat) = k0 + cntT (.p (.int .i64 z0) (.l 17 n1 c1 .nil))) := by show _ = _; simp only [cntT]; omega
  generalize k0 + cntT (.p (.int .i64 z0) (.l 17 n1 c1 .nil)) = R at *
  have HA : Hid (∀ o, Below w.heap.size w (w.alloc o)) := fun o => (Below.refl _ _).alloc (Nat.le_refl _) _
  clear g0 g1 t1
  generalize cnt c1 = m1 at *
  go_enter Tryz.func60, Tryz.ntmps60
  go_wp2_with fail
  refine (HC0.out _ _ (HA.out _) (by omega)).mono ?_
  rintro e w1 ⟨rfl, hb1⟩
  have B1 : Hid (Below w.heap.size w w1) := (HA.out _).trans (hb1.mono (by simp <;> omega))
  clear hb1
  go_wp2
  go_ret
  exact ⟨ret_intU (by have := HE.out; omega), B1.out⟩
end Go.Proofs.YtamlgjmboljcdaaGreat
