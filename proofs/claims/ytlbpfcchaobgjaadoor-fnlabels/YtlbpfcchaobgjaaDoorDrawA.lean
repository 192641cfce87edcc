import Derived.Test.YtlbpfcchaobgjaaDoorDraw4
import Derived.Test.YtlbpfcchaobgjaaDoorCode
namespace Go.Proofs.YtlbpfcchaobgjaaDoor
open Go.RowKit Go.BigFrame
set_option linter.unusedVariables false
theorem big_any (n cap : Nat) (a : Option Addr) (w : World) : Calls Tryd.prog 8 #[.slice a n cap] w fun e w' => e = .returned (.bool (decide (1048576 < n))) ∧ w' = w := by
  by_cases h : 1048576 < n
  · rw [decide_eq_true h]
    have h1 : (1048576 : Int) < (n : Int) := by omega
    go_enter Tryd.func8, Tryd.ntmps8
    go_wp2
    go_ret
    exact ⟨rfl, rfl⟩
  · rw [decide_eq_false h]
    have h1 : ¬ (1048576 : Int) < (n : Int) := by omega
    go_enter Tryd.func8, Tryd.ntmps8
    go_wp2
    go_ret
    exact ⟨rfl, rfl⟩
set_option maxHeartbeats 800000 in
theorem drawText_any (n cap : Nat) (a : Option Addr) (w : World) (hn : n ≤ 1048576) (hc : codeAll w a n) :
    Calls Tryd.prog 27 #[.slice a n cap] w fun e w' => ∃ x : Int, e = .returned (.int .i64 x) ∧ Below w.heap.size w w' := by
  have Hc := hide hc.at
  clear hc
  go_enter Tryd.func27, Tryd.ntmps27
  go_wp2_with fail
  refine (l1New_any n cap a _ hn Hc.out).mono ?_
  rintro e w1 ⟨d, hd, rfl, hc1, hb1⟩
  have D1 := hide hd
  have B1 := hide hb1
  clear hd hb1
  go_wp2_with fail
  refine (l1Once_any d n cap 6 a _ hn (by decide) hc1.out).mono ?_
  rintro e w2 ⟨o, rfl, hc2, ho2⟩
  have B2 : Hid (Below w.heap.size w w2) := B1.out.trans (ho2.below D1.out B1.out.size)
  clear ho2
  cases o
  · go_wp2_with fail
    refine (l3Amount_any d n cap a _ hn hc2.out).mono ?_
    rintro e w3 ⟨x, rfl, hc3, ho3⟩
    go_wp2
    go_ret
    exact ⟨x, rfl, B2.out.trans (ho3.below D1.out B2.out.size)⟩
  · go_wp2_with fail
    refine (l1Int_new d n cap a #[.int .i64 (-1), .int .i64 1000000000000000, .int .i64 1000000000000001, .int .i64 9223372036854775807] 3 _ hn (by show 4 ≤ _; decide) (by show 0 < 4; decide) (by simp) hc2.out).mono ?_
    rintro e w3 ⟨x, rfl, hc3, ho3⟩
    go_wp2
    go_ret
    exact ⟨x, rfl, B2.out.trans (ho3.below D1.out B2.out.size)⟩
end Go.Proofs.YtlbpfcchaobgjaaDoor
