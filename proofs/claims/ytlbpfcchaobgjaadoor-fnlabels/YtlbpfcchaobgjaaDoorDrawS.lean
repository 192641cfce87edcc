import Derived.Test.YtlbpfcchaobgjaaDoorDrawM
import Derived.Test.YtlbpfcchaobgjaaDoorCode
import Derived.Handy
namespace Go.Proofs.YtlbpfcchaobgjaaDoor
open Go.RowKit Go.BigFrame
set_option linter.unusedVariables false
set_option maxHeartbeats 1600000 in
theorem drawSet_any (n cap : Nat) (a : Option Addr) (w : World) (hn : n ≤ 1048576) (hc : codeAll w a n) :
    Calls Tryd.prog 9 #[.slice a n cap] w fun e w' => ∃ (ls : List (ByteArray × ByteArray)) (g c : Nat) (K V : ByteArray), e = .returned (.tuple #[.slice (some ⟨g, 0, none⟩) ls.length c, .string K, .string V]) ∧ Hid (ls.length ≤ 9 ∧ smallL ls ∧ K.size ≤ 25 ∧ V.size ≤ 25) ∧
      Hid (w'.ownsRow w.heap.size 33 2 (.slice (some ⟨g, 0, none⟩) ls.length c) ls.length (flat ls)) ∧ Hid (Below w.heap.size w w') := by
  have Hc := hide hc.at
  clear hc
  go_enter Tryd.func9, Tryd.ntmps9
  go_wp2_with fail
  refine (l1New_any n cap a _ hn Hc.out).mono ?_
  rintro e w1 ⟨d, hd, rfl, hc1, hb1⟩
  have D1 := hide hd
  have B1 := hide hb1
  clear hd hb1
  go_wp2_with fail
  refine (l1DrawAny_any d n cap a _ hn hc1.out).mono ?_
  rintro e w2 ⟨ls, g, c, rfl, Hs, Hw, Hc2, Ho⟩
  have Hg : Hid (g < d ∨ d + 1 ≤ g) := by
    have h1 := (owns_blk Hw.out (g := g) rfl).1
    have h2 := hc1.out.lt
    right
    omega
  have B2 : Hid (Below w.heap.size w w2) := B1.out.trans (Ho.out.below D1.out B1.out.size)
  have Hw2 := hide (owns_mono Hw.out B1.out.size)
  clear Ho Hw B1
  go_wp2_with fail
  refine (l1NameAny_any d n cap a _ hn Hc2.out).mono ?_
  rintro e w3 ⟨K, hK, rfl, Hc3, ho3⟩
  have Hw3 := hide (owns_out Hw2.out ho3 (by intro b hb; cases hb; exact Hg.out))
  have B3 : Hid (Below w.heap.size w w3) := B2.out.trans (ho3.below D1.out B2.out.size)
  clear ho3 Hw2 B2 Hc2
  go_wp2_with fail
  refine (l1NameAny_any d n cap a _ hn Hc3.out).mono ?_
  rintro e w4 ⟨V, hV, rfl, Hc4, ho4⟩
  have Hw4 := hide (owns_out Hw3.out ho4 (by intro b hb; cases hb; exact Hg.out))
  have B4 : Hid (Below w.heap.size w w4) := B3.out.trans (ho4.below D1.out B3.out.size)
  clear ho4 Hw3 B3 Hc3
  go_wp2
  go_returns
  exact ⟨ls, g, c, K, V, rfl, ⟨Hs.out.1, Hs.out.2, names_small K hK, names_small V hV⟩, Hw4, B4⟩
end Go.Proofs.YtlbpfcchaobgjaaDoor
