/- Drawn numbers; rows of numbers that a call builds by append. -/
import Derived.Test.YtidjjgiecaoboaaDraw4
import Derived.Test.YtidjjgiecaoboaaIRw
namespace Go.Proofs.Ytidjjgiecaoboaa
open Go.RowKit Go.BigFrame
set_option linter.unusedVariables false
set_option maxHeartbeats 800000 in
theorem l1Int_in (d n cap : Nat) (a : Option Addr) (zs : List Int) (t : TypeId) (w : World) (hn : n ≤ 1048576) (hl : zs.length ≤ 1048576) (h0 : 0 < zs.length) (hz : ∀ x ∈ zs, -9223372036854775808 ≤ x ∧ x ≤ 9223372036854775807) (hc : CurIn w d a n cap) :
    Calls Try.prog 36 #[.pointer (some ⟨d, 0, none⟩), .slice (some ⟨w.heap.size, 0, none⟩) zs.length zs.length] (w.alloc (.cells (zs.map (Value.int .i64)).toArray t)) fun e w' => ∃ x : Int, (-9223372036854775808 ≤ x ∧ x ≤ 9223372036854775807) ∧ e = .returned (.int .i64 x) ∧ Hid (CurIn w' d a n cap) ∧ Hid (Out d (d + 1) w w') := by
  have Hs : Hid (∀ j (h : j < zs.length), (w.alloc (.cells (zs.map (Value.int .i64)).toArray t)).cell? ⟨w.heap.size, j, none⟩ = some (.int .i64 (zs[j]'h))) := fun j h => by
    refine (World.cell?_alloc_at _ _ _ _ rfl).trans ?_
    simp [h]
  have Hlt := hide hc.lt
  have Hc : Hid (CurIn (w.alloc (.cells (zs.map (Value.int .i64)).toArray t)) d a n cap) := hc.later ((Below.refl _ _).alloc (Nat.le_refl _) _)
  have Hz := hide hz
  have HO : Hid (Out d (d + 1) w (w.alloc (.cells (zs.map (Value.int .i64)).toArray t))) := Out.of_below ((Below.refl _ _).alloc (Nat.le_refl _) _)
  clear hc hz
  generalize hW : w.alloc (.cells (zs.map (Value.int .i64)).toArray t) = W at *
  go_enter Try.func36, Try.ntmps36
  go_wp2_with (go_at_call 31; refine (l1Below_any d n cap zs.length a _ hn hl (by first | exact Hc.out | exact Hc.out.drew)).mono ?_; rintro e w2 ⟨x, hx, rfl, hc2, ho2⟩; have hx' := hx h0; have hv := Hs.out x hx'; have hq := (ho2.cell (p := ⟨w.heap.size, x, none⟩) (World.block_lt_of_cell? _ _ hv) (by have := Hlt.out; show w.heap.size < d ∨ d + 1 ≤ w.heap.size; omega)).trans hv)
  go_wp2
  go_ret
  exact ⟨_, Hz.out _ (List.getElem_mem hx'), rfl, hc2, HO.out.trans ho2⟩
theorem IR.out {w w' : World} {base d : Nat} {v : Value} {l : List Int} (h : IR w base v l) (ho : Out d (d + 1) w w') (hd : d < base) : IR w' base v l :=
  h.frame ho.size (fun g hg => by obtain ⟨g', h2, h3, h4⟩ := h.2; rw [h2] at hg; cases hg; exact ho.block g h4 (by omega))
theorem Out.grownI {lo hi : Nat} {a w w' : World} {row : Option Nat} (h : Out lo hi a w) (hg : w.grownBy w' row) (hr : ∀ k, row = some k → a.heap.size ≤ k) : Out lo hi a w' :=
  ⟨hg.os.trans h.os, hg.tape.trans h.tape, hg.output.trans h.output, Nat.le_trans h.size hg.size, fun k hk hr' => (hg.block k (Nat.lt_of_lt_of_le hk h.size) (fun e => by have := hr k e.symm; omega)).trans (h.block k hk hr')⟩
theorem CurIn.grownI {w w' : World} {row : Option Nat} {d : Nat} {a : Option Addr} {n cap B : Nat} (c : CurIn w d a n cap) (hg : w.grownBy w' row) (hr : ∀ k, row = some k → B ≤ k) (hd : d < B) (hall : ∀ j, j < n → ∀ b off, a = some ⟨b, off, none⟩ → b < B) : CurIn w' d a n cap := by
  have hlt := c.lt
  have hb : ∀ k, k < w.heap.size → k < B → w'.heap[k]? = w.heap[k]? := fun k hk hkB => hg.block k hk (fun e => by have := hr k e.symm; omega)
  obtain ⟨i, h, c⟩ := c
  refine ⟨i, h, c.le, ?_, ?_, ?_, ?_, ?_, ?_⟩
  · exact (World.cell?_of_block (w := w) (a := ⟨d, 0, none⟩) (hb d hlt hd)).trans c.c0
  · exact (World.cell?_of_block (w := w) (a := ⟨d, 1, none⟩) (hb d hlt hd)).trans c.c1
  · exact (World.cell?_of_block (w := w) (a := ⟨d, 2, none⟩) (hb d hlt hd)).trans c.c2
  · exact (World.frozen?_of_block (w := w) (a := ⟨d, 1, none⟩) (hb d hlt hd)).trans c.f1
  · exact (World.frozen?_of_block (w := w) (a := ⟨d, 2, none⟩) (hb d hlt hd)).trans c.f2
  · intro j hj
    obtain ⟨b, off, x, h1, h2, h3, h4⟩ := c.code j hj
    exact ⟨b, off, x, h1, h2, (World.cell?_of_block (w := w) (a := ⟨b, off + j, none⟩) (hb b (World.block_lt_of_cell? _ _ h3) (hall j hj b off h1))).trans h3, h4⟩
theorem CurIn.lt_allI {w : World} {d : Nat} {a : Option Addr} {n cap : Nat} (c : CurIn w d a n cap) : ∀ j, j < n → ∀ b off, a = some ⟨b, off, none⟩ → b < w.heap.size := by
  obtain ⟨i, h, c⟩ := c
  intro j hj b off e
  obtain ⟨b', off', x, h1, h2, h3, h4⟩ := c.code j hj
  rw [h1] at e
  cases e
  exact World.block_lt_of_cell? _ _ h3
end Go.Proofs.Ytidjjgiecaoboaa
