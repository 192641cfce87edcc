/- What is divided, drawn; rows of numbers of the call's own, as they are handed on. -/
import Derived.Test.YtidjjgiecaoboaaDrwD
import Derived.Test.YtidjjgiecaoboaaDrawA
import Derived.Test.YtidjjgiecaoboaaCode
namespace Go.Proofs.Ytidjjgiecaoboaa
open Go.RowKit Go.BigFrame
set_option linter.unusedVariables false
theorem IR.mono {w : World} {base base' : Nat} {v : Value} {l : List Int} (h : IR w base v l) (hb : base' ≤ base) : IR w base' v l := by
  obtain ⟨h1, g, h2, h3, h4⟩ := h
  exact ⟨owns_mono h1 hb, g, h2, by omega, h4⟩
theorem IR.oS {w : World} {base : Nat} {v : Value} {l : List Int} (h : IR w base v l) : oS w 1 l.length (ofInts l) v (blkOf v) :=
  ⟨by decide, 3, _, [], owns_mono h.1 (Nat.zero_le _), ofInts_own l, by rw [List.append_nil]⟩
theorem IR.uS {w : World} {base : Nat} {v : Value} {l : List Int} (h : IR w base v l) : uS w 0 w.heap.size 1 l.length (ofInts l) v :=
  h.oS.u (fun s hs => by
    obtain ⟨g, h2, h3, h4⟩ := h.2
    unfold blkOf at hs
    rw [h2] at hs
    have : s = g := by simpa using hs
    omega)
theorem goodI.ty {l : List Int} {k : Nat} (h : goodI l k) (hk : k ≤ 1048576) : tyS 1 l.length (ofInts l) 1 := ofInts_tyS h.2 (by have := h.1; unfold maxLen; omega)
theorem l1Size_any (n cap m : Nat) (a : Option Addr) (w : World) (hn : n ≤ 1048576) (hm : 3 ≤ m) (hm' : m ≤ 1048576) :
    Calls Try.prog 24 #[.slice a n cap, .int .i64 m] w fun e w' => ∃ k : Nat, (0 < k ∧ k ≤ m) ∧ e = .returned (.int .i64 k) ∧ w' = w := by
  by_cases h : m < 3 + n / 12
  · go_enter Try.func24, Try.ntmps24
    go_wp2
    go_ret
    exact ⟨m, by omega, rfl, rfl⟩
  · go_enter Try.func24, Try.ntmps24
    go_wp2
    go_ret
    exact ⟨3 + n / 12, by omega, ret_int (by omega), rfl⟩
set_option maxRecDepth 100000 in
set_option maxHeartbeats 1600000 in
theorem drawDivide_any (n cap : Nat) (a : Option Addr) (w : World) (hn : n ≤ 1048576) (hc : codeAll w a n) :
    Calls Try.prog 9 #[.slice a n cap] w fun e w' => ∃ (z : Int) (v u : Value) (ws cs : List Int), e = .returned (.tuple #[.int .i64 z, v, u]) ∧ Hid (-9223372036854775808 ≤ z ∧ z ≤ 9223372036854775807) ∧ Hid (goodI ws 13) ∧ Hid (goodI cs 13) ∧
      Hid (IR w' w.heap.size v ws) ∧ Hid (IR w' w.heap.size u cs) ∧ Hid (Below w.heap.size w w') := by
  have Hc := hide hc
  clear hc
  go_enter Try.func9, Try.ntmps9
  go_wp2_with fail
  refine (l1New_any n cap a _ hn Hc.out.at).mono ?_
  rintro e w1 ⟨d, hd, rfl, hc1, hb1⟩
  have B1 := hide hb1
  clear hb1 Hc
  go_wp2_with fail
  refine (l1Size_any n cap 12 a _ hn (by omega) (by omega)).mono ?_
  rintro e w2 ⟨k, ⟨hk0, hk1⟩, rfl, rfl⟩
  go_wp2_with fail
  refine (l6Draw_any d n cap k a _ hn hk0 hk1 hc1.out).mono ?_
  rintro e w3 ⟨z, v, u, ws, cs, rfl, hz, Gw, Gc, V, U, NE, C, O⟩
  have V' := hide (V.out.mono B1.out.size)
  have U' := hide (U.out.mono B1.out.size)
  have B3 : Hid (Below w.heap.size w w3) := B1.out.trans (O.out.below hd B1.out.size)
  clear V U O B1 NE C hc1
  go_wp2
  exact bodyPost_ret (v := .tuple #[.int .i64 z, v, u]) (by simp [results, Try.results9, go_sem]) rfl ⟨_, _, _, _, _, rfl, hz, Gw, Gc, V', U', B3⟩
end Go.Proofs.Ytidjjgiecaoboaa
