import Derived.Test.YtpmhmcekkppbhaaDraw3
import Derived.Handy
import Derived.LoopN
namespace Go.Proofs.Ytpmhmcekkppbhaa
open Go.RowKit Go.BigFrame
set_option linter.unusedVariables false
/-! numbers that are drawn -/
def numAt (w : World) (b n : Nat) : Prop := ∀ j, j < n → ∃ x : Int, w.cell? ⟨b, j, none⟩ = some (.int .i64 x)
set_option maxHeartbeats 800000 in
theorem l1Int_any (d n cap b k sc : Nat) (a : Option Addr) (w : World) (hn : n ≤ 1048576) (hl : k ≤ 1048576) (h0 : 0 < k) (hc : CurIn w d a n cap) (hs : numAt w b k) (hbd : b ≠ d) :
    Calls Try.prog 102 #[.pointer (some ⟨d, 0, none⟩), .slice (some ⟨b, 0, none⟩) k sc] w fun e w' => ∃ x : Int, e = .returned (.int .i64 x) ∧ Hid (CurIn w' d a n cap) ∧ Out d (d + 1) w w' := by
  have Hc := hide hc
  have Hs := hide hs
  clear hc hs
  go_enter Try.func102, Try.ntmps102
  go_wp2_with (go_at_call 45; refine (l1Below_any d n cap k a _ hn hl (by first | exact Hc.out | exact Hc.out.drew)).mono ?_; rintro e w2 ⟨x, hx, rfl, hc2, ho2⟩; have hx' := hx h0; obtain ⟨v, hv⟩ := Hs.out x hx'; have hq := (ho2.cell (p := ⟨b, x, none⟩) (World.block_lt_of_cell? _ _ hv) (by show b < d ∨ d + 1 ≤ b; omega)).trans hv)
  go_wp2
  go_ret
  exact ⟨_, rfl, hc2, ho2⟩
theorem numNew (w : World) (cs : Array Value) (t : TypeId) (h : ∀ v ∈ cs.toList, ∃ x : Int, v = .int .i64 x) : numAt (w.alloc (.cells cs t)) w.heap.size cs.size := by
  intro j hj
  have h' : j < cs.toList.length := by simpa using hj
  obtain ⟨x, hx⟩ := h (cs.toList[j]'h') (List.getElem_mem h')
  refine ⟨x, (World.cell?_alloc_at _ _ _ _ rfl).trans ?_⟩
  rw [Array.getElem?_eq_getElem hj]
  exact congrArg some hx
theorem l1Int_new (d n cap : Nat) (a : Option Addr) (cs : Array Value) (t : TypeId) (w : World) (hn : n ≤ 1048576) (hl : cs.size ≤ 1048576) (h0 : 0 < cs.size) (h : ∀ v ∈ cs.toList, ∃ x : Int, v = .int .i64 x) (hc : CurIn w d a n cap) :
    Calls Try.prog 102 #[.pointer (some ⟨d, 0, none⟩), .slice (some ⟨w.heap.size, 0, none⟩) cs.size cs.size] (w.alloc (.cells cs t)) fun e w' => ∃ x : Int, e = .returned (.int .i64 x) ∧ Hid (CurIn w' d a n cap) ∧ Out d (d + 1) w w' :=
  (l1Int_any d n cap w.heap.size cs.size cs.size a _ hn hl h0 (hc.later ((Below.refl _ _).alloc (Nat.le_refl _) _)) (numNew w cs t h) (by have := hc.lt; omega)).mono fun e w' ⟨x, h1, h2, h3⟩ => ⟨x, h1, h2, (Out.of_below ((Below.refl _ _).alloc (Nat.le_refl _) _)).trans h3⟩
end Go.Proofs.Ytpmhmcekkppbhaa
