import Derived.Test.YtbihhcbbjdjhcaaDraw2
namespace Go.Proofs.Ytbihhcbbjdjhcaa
open Go.RowKit Go.BigFrame
set_option linter.unusedVariables false
set_option maxRecDepth 40000
theorem frozen_new (wr : World) (c : Array Value) (t : TypeId) (i : Nat) : (wr.alloc (.cells c t)).frozen? ⟨wr.heap.size, i, none⟩ = false := by
  have e : (wr.alloc (.cells c t)).heap[wr.heap.size]? = some (.cells c t) := Array.getElem?_push_size
  unfold World.frozen?
  simp only [e]
  simp
theorem curNew {w wr : World} {n cap : Nat} {a : Option Addr} (H : Int) (t : TypeId) (hc : codeAt w a n w.heap.size) (hb : Below w.heap.size w wr) : CurIn (wr.alloc (.cells #[.slice a n cap, .int .i64 0, .int .i64 H] t)) wr.heap.size a n cap := by
  refine ⟨0, H, Nat.zero_le _, (World.cell?_alloc_at _ _ _ _ rfl).trans rfl, (World.cell?_alloc_at _ _ _ _ rfl).trans rfl, (World.cell?_alloc_at _ _ _ _ rfl).trans rfl, ?_, ?_, ?_⟩
  · exact frozen_new _ _ _ _
  · exact frozen_new _ _ _ _
  · intro j hj
    obtain ⟨b, off, x, h1, h2, h3, h4⟩ := hc j hj
    have hlt := World.block_lt_of_cell? _ _ h3
    have hs := hb.size
    exact ⟨b, off, x, h1, by simp only at hlt; omega, ((hb.alloc hb.size _).cell (p := ⟨b, off + j, none⟩) hlt).trans h3, h4⟩
set_option maxHeartbeats 800000 in
theorem l1New_any (n cap : Nat) (a : Option Addr) (w : World) (hn : n ≤ 1048576) (hc : codeAt w a n w.heap.size) :
    Calls Try.prog 10 #[.slice a n cap] w fun e w' => ∃ d, w.heap.size ≤ d ∧ e = .returned (.pointer (some ⟨d, 0, none⟩)) ∧ Hid (CurIn w' d a n cap) ∧ Below w.heap.size w w' := by
  have Hc := hide hc
  clear hc
  go_enter Try.func10, Try.ntmps10
  go_wp2
  go_loopw [3, 4] (fun h i wr => ∃ (k : Nat) (H : Int), k ≤ n ∧ i = .int .i64 k ∧ h = .int .i64 H ∧ Below w.heap.size w wr) (fun _ i _ => n - (intOf i).toNat)
  case atStart => exact ⟨0, _, Nat.zero_le _, rfl, rfl, Below.refl _ _⟩
  case round =>
    obtain ⟨k, H, hk, rfl, rfl, hbw⟩ := hrel
    by_cases hlt : k < n ∧ k < 4000
    · obtain ⟨hlt, h4⟩ := hlt
      obtain ⟨b, off, x, rfl, hbd, hx, hx0, hx1⟩ := Hc.out k hlt
      have hx' := (hbw.cell (p := ⟨b, off + k, none⟩) (World.block_lt_of_cell? _ _ hx)).trans hx
      go_wp2
      go_roundw
      case rel => exact ⟨k + 1, _, by omega, by go_num, rfl, by repeat (first | exact hbw | refine Below.drew ?_ | refine below_drewN ?_ _)⟩
      case measure => simp [intOf]; omega
    · have e : k = n ∨ 4000 ≤ k := by omega
      go_wp2
      all_goals (
        go_ret
        exact ⟨_, hbw.size, rfl, hide (curNew H _ Hc.out hbw), hbw.alloc hbw.size _⟩)
end Go.Proofs.Ytbihhcbbjdjhcaa
