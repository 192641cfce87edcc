import Derived.Test.YtlbpfcchaobgjaaDraw4b
import Derived.Test.YtlbpfcchaobgjaaCode
import Derived.Deep.RegionWith
namespace Go.Proofs.Ytlbpfcchaobgjaa
open Go.RowKit Go.BigFrame
set_option linter.unusedVariables false
set_option maxRecDepth 100000 in
set_option maxHeartbeats 1600000 in
theorem drawFits_any (n cap : Nat) (a : Option Addr) (w : World) (hn : n ≤ 1048576) (hc : codeAll w a n) :
    Calls Try.prog 15 #[.slice a n cap] w fun e w' => ∃ x y z x' y' z' : Int, e = .returned (.tuple #[.agg #[.int .i64 x, .int .i64 y, .int .i64 z], .agg #[.int .i64 x', .int .i64 y', .int .i64 z']]) ∧ Below w.heap.size w w' := by
  have Hc : Hid (codeAll ((w.alloc (.cells #[.int .i64 0, .int .i64 0, .int .i64 0] 36)).alloc (.cells #[.int .i64 0, .int .i64 0, .int .i64 0] 36)) a n) := hc.later (((Below.refl _ _).alloc (Nat.le_refl _) _).alloc (by simp) _)
  have R0 : Hid (Has3 ((w.alloc (.cells #[.int .i64 0, .int .i64 0, .int .i64 0] 36)).alloc (.cells #[.int .i64 0, .int .i64 0, .int .i64 0] 36)) w.heap.size 0 0 0) := (Has3.new w 0 0 0 _).later (below_new _ _)
  have R1 : Hid (Has3 ((w.alloc (.cells #[.int .i64 0, .int .i64 0, .int .i64 0] 36)).alloc (.cells #[.int .i64 0, .int .i64 0, .int .i64 0] 36)) (w.heap.size + 1) 0 0 0) := by
    have := Has3.new (w.alloc (.cells #[.int .i64 0, .int .i64 0, .int .i64 0] 36)) 0 0 0 36
    rwa [show (w.alloc (.cells #[.int .i64 0, .int .i64 0, .int .i64 0] 36)).heap.size = w.heap.size + 1 by simp] at this
  have B0 : Hid (Below w.heap.size w ((w.alloc (.cells #[.int .i64 0, .int .i64 0, .int .i64 0] 36)).alloc (.cells #[.int .i64 0, .int .i64 0, .int .i64 0] 36))) := ((Below.refl _ _).alloc (Nat.le_refl _) _).alloc (by simp) _
  have S0 : Hid (((w.alloc (.cells #[.int .i64 0, .int .i64 0, .int .i64 0] 36)).alloc (.cells #[.int .i64 0, .int .i64 0, .int .i64 0] 36)).heap.size = w.heap.size + 2) := by show _ = _; simp
  clear hc
  go_enter Try.func15, Try.ntmps15
  go_wp2_with fail
  refine (l1New_any n cap a _ hn Hc.out.at).mono ?_
  rintro e w1 ⟨d, hd, rfl, hc1, hb1⟩
  have R01 := hide (R0.out.later hb1)
  have R11 := hide (R1.out.later hb1)
  have B1 := hide (B0.out.trans (hb1.mono B0.out.size))
  have D1 : Hid (w.heap.size + 2 ≤ d) := by show _ ≤ _; have := S0.out; omega
  clear hd hb1 R0 R1 B0 S0 Hc
  go_wp2_with fail
  refine (l3Draw_any d n cap a _ hn hc1.out).mono ?_
  rintro e w2 ⟨x, y, z, rfl, hc2, ho2⟩
  have R02 := hide (R01.out.out ho2 (by have := D1.out; omega))
  have R12 := hide (R11.out.out ho2 (by have := D1.out; omega))
  have B2 : Hid (Below w.heap.size w w2) := B1.out.trans (ho2.below (by have := D1.out; omega) B1.out.size)
  have V2 := hide (Has3.new w2 x y z 36)
  have R03 := hide (R02.out.later (below_new w2 (.cells #[.int .i64 x, .int .i64 y, .int .i64 z] 36)))
  have R13 := hide (R12.out.later (below_new w2 (.cells #[.int .i64 x, .int .i64 y, .int .i64 z] 36)))
  have B3 := hide (B2.out.alloc B2.out.size (.cells #[.int .i64 x, .int .i64 y, .int .i64 z] 36))
  have Hc3 : Hid (CurIn (w2.alloc (.cells #[.int .i64 x, .int .i64 y, .int .i64 z] 36)).drew d a n cap) := (hc2.out.later (below_new _ _)).drew
  have L2 : Hid (d < w2.heap.size) := hc2.out.lt
  clear R01 R11 B1 R02 R12 B2 ho2 hc1 hc2
  go_wp2_with fail
  go_region_with (go_at_call 39; refine (l3Draw_any d n cap a _ hn Hc3.out).mono ?_; rintro e w4 ⟨x', y', z', rfl, hc4, ho4⟩; have R04 := hide (R03.out.drew.out ho4 (by have := D1.out; omega)); have R14 := hide (R13.out.drew.out ho4 (by have := D1.out; omega)); have V4 := hide (V2.out.drew.out ho4 (by have := L2.out; omega)); have B4 : Hid (Below w.heap.size w w4) := (Below.drew B3.out).trans (ho4.below (by have := D1.out; omega) (Below.drew B3.out).size); clear ho4 hc4; obtain ⟨r0, r1, r2, f0, f1, f2⟩ := R04.out; obtain ⟨s0, s1, s2, g0, g1, g2⟩ := R14.out; obtain ⟨v0, v1, v2, -, -, -⟩ := V4.out)
  all_goals
    go_wp2
    exact bodyPost_ret (v := .tuple #[.agg #[.int .i64 x, .int .i64 y, .int .i64 z], .agg #[.int .i64 x', .int .i64 y', .int .i64 z']]) (by simp [results, Try.results15, go_sem, r0, r1, r2, s0, s1, s2]) rfl ⟨x, y, z, x', y', z', rfl, by repeat (first | with_reducible exact B4.out | with_reducible refine Below.setCell ?_ (by simp <;> omega) _ | with_reducible refine below_drewN ?_ _ | with_reducible refine Below.drew ?_)⟩
end Go.Proofs.Ytlbpfcchaobgjaa
