/- Queues that are drawn and right: spec.DrawQueue. -/
import Derived.Test.YtpmhmcekkppbhaaQdD
import Derived.Test.YtpmhmcekkppbhaaCode
namespace Go.Proofs.Ytpmhmcekkppbhaa
open Go.RowKit Go.BigFrame
set_option linter.unusedVariables false
theorem l1Size_any (n cap m : Nat) (a : Option Addr) (w : World) (hn : n ≤ 1048576) (hm : 3 ≤ m) (hm' : m ≤ 1048576) :
    Calls Try.prog 88 #[.slice a n cap, .int .i64 m] w fun e w' => ∃ k : Nat, (0 < k ∧ k ≤ m) ∧ e = .returned (.int .i64 k) ∧ w' = w := by
  by_cases h : m < 3 + n / 12
  · go_enter Try.func88, Try.ntmps88
    go_wp2
    go_ret
    exact ⟨m, by omega, rfl, rfl⟩
  · go_enter Try.func88, Try.ntmps88
    go_wp2
    go_ret
    exact ⟨3 + n / 12, by omega, ret_int (by omega), rfl⟩
set_option maxRecDepth 20000 in
set_option maxHeartbeats 1600000 in
theorem drawQueue_any (n cap : Nat) (a : Option Addr) (w : World) (hn : n ≤ 1048576) (hc : codeAll w a n) :
    Calls Try.prog 39 #[.slice a n cap] w fun e w' => ∃ (Q : Qu) (vI vD vA : Value), e = .returned (.agg #[vI, vD, vA, .int .i64 Q.now]) ∧ Hid (drQ Q 40) ∧ Hid (ownQ w' w.heap.size Q vI vD vA) ∧ Hid (Below w.heap.size w w') := by
  have Hc := hide hc
  clear hc
  have OZ0 : Hid (objU (w.alloc (.cells #[.slice none 0 0, .slice none 0 0, .slice none 0 0, .int .i64 0] 66)) w.heap.size 66 [.slice none 0 0, .slice none 0 0, .slice none 0 0, .int .i64 0]) := objU.new _ _ _
  have BZ0 : Hid (Below w.heap.size w (w.alloc (.cells #[.slice none 0 0, .slice none 0 0, .slice none 0 0, .int .i64 0] 66))) := below_alloc _ _
  go_enter Try.func39, Try.ntmps39
  go_wp2_with fail
  refine (l1New_any n cap a _ hn (Hc.out.later BZ0.out).at).mono ?_
  rintro e w1 ⟨d, hd, rfl, hc1, hb1⟩
  have OZ1 := hide (OZ0.out.below hb1)
  have B1 : Hid (Below w.heap.size w w1) := BZ0.out.trans (hb1.mono BZ0.out.size)
  have hdl := hc1.out.lt
  have hd' : w.heap.size < d := by have := OZ0.out.lt; omega
  clear hb1 OZ0 BZ0 Hc
  go_wp2_with fail
  refine (l1Size_any n cap 40 a _ hn (by omega) (by omega)).mono ?_
  rintro e w2 ⟨k, ⟨hk0, hk1⟩, rfl, hw2⟩
  obtain rfl : w1 = w2 := hw2.symm
  go_wp2_with fail
  refine (l9Draw_any d n cap k a _ hn hk0 (by omega) hc1.out).mono ?_
  rintro e w3 ⟨Q, vI, vD, vA, rfl, D, HO, C, O⟩
  obtain ⟨g1, k1, rfl⟩ := HO.out.i.itS
  obtain ⟨g2, k2, rfl⟩ := HO.out.d.itS
  obtain ⟨g3, k3, rfl⟩ := HO.out.a.stS
  have OZ3 := hide (OZ1.out.outS (outS_of_out O) (by simp; omega))
  have B3 : Hid (Below w.heap.size w w3) := B1.out.trans (O.below (by omega) B1.out.size)
  have D3 := hide (D.out.mono (show k ≤ 40 by omega))
  have hs1 := B1.out.size
  have hlz := OZ1.out.lt
  have HO6 : Hid (ownQ (stQ w3 w.heap.size (.slice g1 Q.I.length k1) (.slice g2 Q.D.length k2) (.slice g3 Q.A.length k3) Q.now) w.heap.size Q (.slice g1 Q.I.length k1) (.slice g2 Q.D.length k2) (.slice g3 Q.A.length k3)) := (HO.out.outS (stQ_out _ w.heap.size _ _ _ _) (by simp; omega)).mono (by omega)
  have B6 : Hid (Below w.heap.size w (stQ w3 w.heap.size (.slice g1 Q.I.length k1) (.slice g2 Q.D.length k2) (.slice g3 Q.A.length k3) Q.now)) := B3.out.trans ((stQ_out _ w.heap.size _ _ _ _).below (by simp) B3.out.size)
  have y0 := OZ3.out.cell 0 _ rfl
  have y1 := OZ3.out.cell 1 _ rfl
  have y2 := OZ3.out.cell 2 _ rfl
  have y3 := OZ3.out.cell 3 _ rfl
  have z0 := OZ3.out.fz 0
  have z1 := OZ3.out.fz 1
  have z2 := OZ3.out.fz 2
  have z3 := OZ3.out.fz 3
  clear OZ1 OZ3 B1 D HO C O B3
  go_wp2
  refine bodyPost_ret (v := .agg #[.slice g1 Q.I.length k1, .slice g2 Q.D.length k2, .slice g3 Q.A.length k3, .int .i64 Q.now]) ?_ rfl ⟨Q, _, _, _, rfl, D3, HO6, B6⟩
  simp [results, Try.results39, go_sem, y0, y1, y2, y3]
end Go.Proofs.Ytpmhmcekkppbhaa
