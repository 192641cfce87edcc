/- impl.greatestFirst: rows by their rest, the greatest first; those alike stay in order. -/
import Derived.Test.YtidjjgiecaoboaaSrtN
import Derived.Test.YtidjjgiecaoboaaBas
import Derived.Test.YtidjjgiecaoboaaU0
namespace Go.Proofs.Ytidjjgiecaoboaa
open Go.RowKit Go.Lib Go.BigFrame
open Go.Sort (PermIn SortedIn SWO)
set_option linter.unusedVariables false
theorem SWK.outR {α : Type} [Inhabited α] {enc : α → List Value} {k : Nat} {w0 W : World} {blk off : Nat} {dk : Array α} (h : SWK enc k w0 blk off dk W) : OutR blk (blk + 1) w0 W := by
  obtain ⟨n, os, rfl⟩ := h
  refine ⟨rfl, rfl, rfl, size_sortWorldK_c enc k w0 blk off n dk os, fun j hj hr => ?_⟩
  have hne : blk ≠ j := by omega
  show (_ ++ os)[j]? = _
  rw [Array.getElem?_append_left (by simp [Go.Sort.putRowK, Go.Sort.putRow, Go.Sort.mapBlock]; exact hj)]
  simp [Go.Sort.putRowK, Go.Sort.putRow, Go.Sort.mapBlock, Array.getElem?_modify, hne]
/-- by their rest, the greatest first -/
def cfR (f : Nat → Int × Int × Int) (x y : Nat) : Int := Lib.compareInt (f y).2.2 (f x).2.2
theorem cfR_lt (f : Nat → Int × Int × Int) (x y : Nat) : ltOf (cfR f) x y = decide ((f y).2.2 < (f x).2.2) := by
  unfold ltOf cfR Lib.compareInt
  rw [Bool.eq_iff_iff, decide_eq_true_eq, decide_eq_true_eq]
  split
  · simp; assumption
  · split <;> constructor <;> intro h <;> omega
theorem cfR_swo (f : Nat → Int × Int × Int) : SWO (ltOf (cfR f)) where
  irrefl x := by rw [cfR_lt, decide_eq_false_iff_not]; omega
  trans x y z h1 h2 := by rw [cfR_lt, decide_eq_true_eq] at *; omega
  ntrans x y z h1 h2 := by rw [cfR_lt, decide_eq_false_iff_not] at *; omega
theorem nanInt (x : Int) (w : World) : Calls Try.prog 46 #[.int .i64 x] w fun e w' => e = .returned (.bool false) ∧ w' = w := by
  have h : (x != x) = false := by simp
  go_enter Try.func46, Try.ntmps46
  go_wp2
  go_ret
  exact ⟨rfl, rfl⟩
theorem cmpInt (x y : Int) (w : World) : Calls Try.prog 44 #[.int .i64 x, .int .i64 y] w fun e w' => e = .returned (.int .i64 (Lib.compareInt x y)) ∧ w' = w := by
  go_enter Try.func44, Try.ntmps44
  go_wp2_with (go_at_call 46; refine (nanInt _ _).mono ?_; rintro e w' ⟨rfl, rfl⟩)
  all_goals (go_ret; refine ⟨?_, rfl⟩; unfold Lib.compareInt; (repeat' split) <;> first | rfl | (exfalso; omega))
theorem cmpIntG (x y : Int) (w : World) : Calls Try.prog 44 #[.int .i64 x, .int .i64 y] w fun e w' => e = .returned (.int .i64 (Lib.compareInt x y)) ∧ ∃ q os, w' = Go.Sort.grow (w.drewN q) os :=
  (cmpInt x y w).mono (fun e w' h => ⟨h.1, 0, #[], by rw [h.2, Go.Sort.grow_empty]; rfl⟩)
theorem quotaRest (x0 x1 x2 : Int) (W : World) : Calls Try.prog 40 #[.agg #[.int .i64 x0, .int .i64 x1, .int .i64 x2]] W fun e w' => e = .returned (.int .i64 x2) ∧ ∃ q os, w' = Go.Sort.grow (W.drewN q) os := by
  go_enter Try.func40, Try.ntmps40
  go_wp2
  go_ret
  exact ⟨rfl, 0, #[_], by rw [Go.Sort.alloc_eq_grow]; rfl⟩
set_option maxHeartbeats 3200000 in
theorem byRest (x0 x1 x2 y0 y1 y2 : Int) (B : Nat) (W : World) (hB : W.cell? ⟨B, 0, none⟩ = some (.func (.func 40) #[] #[])) :
    Calls Try.prog 43 #[.agg #[.int .i64 x0, .int .i64 x1, .int .i64 x2], .agg #[.int .i64 y0, .int .i64 y1, .int .i64 y2], .pointer (some ⟨B, 0, none⟩)] W fun e w' => e = .returned (.int .i64 (Lib.compareInt y2 x2)) ∧ ∃ q os, w' = Go.Sort.grow (W.drewN q) os := by
  have mixed := stMixed
  have hb := World.block_lt_of_cell? _ _ hB
  have HB := shide hB
  have Hb := shide hb
  clear hB hb
  go_enter Try.func43, Try.ntmps43
  go_wp2
  have e0 : ∀ j v, ((W.alloc (.cells #[.int .i64 x0, .int .i64 x1, .int .i64 x2] 56)).alloc (.cells #[.int .i64 y0, .int .i64 y1, .int .i64 y2] 56)).cell? ⟨W.heap.size, j, none⟩ = some v → ∀ n os, (Go.Sort.grow ((((W.alloc (.cells #[.int .i64 x0, .int .i64 x1, .int .i64 x2] 56)).alloc (.cells #[.int .i64 y0, .int .i64 y1, .int .i64 y2] 56))).drewN n) os).cell? ⟨W.heap.size, j, none⟩ = some v := fun j v h n os => cell_grown (by simp; omega) h n os
  have e1 : ∀ j v, ((W.alloc (.cells #[.int .i64 x0, .int .i64 x1, .int .i64 x2] 56)).alloc (.cells #[.int .i64 y0, .int .i64 y1, .int .i64 y2] 56)).cell? ⟨W.heap.size + 1, j, none⟩ = some v → ∀ n os, (Go.Sort.grow ((((W.alloc (.cells #[.int .i64 x0, .int .i64 x1, .int .i64 x2] 56)).alloc (.cells #[.int .i64 y0, .int .i64 y1, .int .i64 y2] 56))).drewN n) os).cell? ⟨W.heap.size + 1, j, none⟩ = some v := fun j v h n os => cell_grown (by simp) h n os
  have a0 := e0 0 (.int .i64 x0) (by simp)
  have a1 := e0 1 (.int .i64 x1) (by simp)
  have a2 := e0 2 (.int .i64 x2) (by simp)
  have b0 := e1 0 (.int .i64 y0) (by simp)
  have b1 := e1 1 (.int .i64 y1) (by simp)
  have b2 := e1 2 (.int .i64 y2) (by simp)
  have c0 : ∀ n os, (Go.Sort.grow ((((W.alloc (.cells #[.int .i64 x0, .int .i64 x1, .int .i64 x2] 56)).alloc (.cells #[.int .i64 y0, .int .i64 y1, .int .i64 y2] 56))).drewN n) os).cell? ⟨B, 0, none⟩ = some (.func (.func 40) #[] #[]) := fun n os => cell_grown (by have := Hb.out; simp; omega) ((((Below.refl _ W).alloc (Nat.le_refl _) _).alloc (by simp) _).cell (p := ⟨B, 0, none⟩) Hb.out |>.trans HB.out) n os
  have EQ : Hid (((W.alloc (.cells #[.int .i64 x0, .int .i64 x1, .int .i64 x2] 56)).alloc (.cells #[.int .i64 y0, .int .i64 y1, .int .i64 y2] 56)) = Go.Sort.grow W (#[.cells #[.int .i64 x0, .int .i64 x1, .int .i64 x2] 56] ++ #[.cells #[.int .i64 y0, .int .i64 y1, .int .i64 y2] 56])) := by
    show _ = _
    rw [Go.Sort.alloc_eq_grow, Go.Sort.alloc_eq_grow, Go.Sort.grow_grow]
  clear e0 e1 HB
  generalize ((W.alloc (.cells #[.int .i64 x0, .int .i64 x1, .int .i64 x2] 56)).alloc (.cells #[.int .i64 y0, .int .i64 y1, .int .i64 y2] 56)) = W2 at *
  go_quiet_grown (first | (go_at_call 40; refine Calls.grown_of (quotaRest _ _ _ _)) | (go_at_call 44; refine Calls.grown_of (cmpIntG _ _ _)))
  go_wp2
  go_ret
  exact ⟨rfl, nq, _, by rw [EQ.out]; show Go.Sort.grow (Go.Sort.grow (W.drewN nq) _) osq = _; rw [Go.Sort.grow_grow]⟩
set_option maxHeartbeats 1600000 in
/-- the whole: the row sorted; all else as it was, but for new blocks -/
theorem greatestFirst_any (f : Nat → Int × Int × Int) (blk cap : Nat) (d0 : Array Nat) (w : World) (hH : Go.Sort.HoldsK (enc3 f) 3 w blk 0 d0) (hblk : blk < w.heap.size) (hsz : d0.size ≤ 1048576) (ha : AscP id 0 d0.size d0) :
    Calls Try.prog 39 #[.slice (some ⟨blk, 0, none⟩) d0.size cap, .func (.func 40) #[] #[]] w fun e w' => e = .returned (.tuple #[]) ∧ ∃ d', (PermIn 0 d0.size d0 d' ∧ SortedIn (stT (ltOf (cfR f)) id) 0 d0.size d') ∧ Go.Sort.HoldsK (enc3 f) 3 w' blk 0 d' ∧ OutR blk (blk + 1) w w' := by
  have hb0 : Below w.heap.size w (w.alloc (.cells #[.func (.func 40) #[] #[]] 58)) := (Below.refl _ _).alloc (Nat.le_refl _) _
  have hH1 : Go.Sort.HoldsK (enc3 f) 3 (w.alloc (.cells #[.func (.func 40) #[] #[]] 58)) blk 0 d0 := fun j hj => ⟨(hb0.cell (p := ⟨blk, 0 + j, none⟩) hblk).trans (hH j hj).1, (World.frozen?_of_block (w := w) (a := ⟨blk, 0 + j, none⟩) (hb0.block blk hblk)).trans (hH j hj).2⟩
  have K : StK Try.prog f 43 #[.pointer (some ⟨w.heap.size, 0, none⟩)] (cfR f) (w.alloc (.cells #[.func (.func 40) #[] #[]] 58)) blk 0 d0 := by
    refine ⟨⟨fun _ => rfl, enc3_one f, hH1, by simp; omega⟩, fun m os dk hs x y => ?_, enters_of Try.func43 (by kernel_rfl) rfl, hsz⟩
    refine (byRest _ _ _ _ _ _ w.heap.size _ ?_)
    refine ((SWK.outR (⟨m, os, rfl⟩ : SWK (enc3 f) 3 _ blk 0 dk _)).cell (p := ⟨w.heap.size, 0, none⟩) (by simp) (by show w.heap.size < blk ∨ blk + 1 ≤ w.heap.size; omega)).trans ?_
    simp
  have HX := shide (sortStable_any K (cfR_swo f) id cap _ (SWK.start hH1) ha)
  have HF : Hid (∀ d' W, SWK (enc3 f) 3 (w.alloc (.cells #[.func (.func 40) #[] #[]] 58)) blk 0 d' W → d'.size = d0.size → Go.Sort.HoldsK (enc3 f) 3 W blk 0 d' ∧ OutR blk (blk + 1) w W) := fun d' W h hs => by
    refine ⟨h.holds (by simp; omega) hH1 hs, ?_⟩
    have h1 := SWK.outR h
    exact ⟨h1.os, h1.tape, h1.output, by have := h1.size; simp at this; omega, fun j hj hr => (h1.block j (by simp; omega) hr).trans (hb0.block j hj)⟩
  clear hH hH1 hb0 K ha
  go_enter Try.func39, Try.ntmps39
  go_wp2_with fail
  refine HX.out.mono ?_
  rintro e w1 ⟨rfl, d1, h2, h3⟩
  have HE := HF.out d1 w1 h3 h2.1.1
  have H2 := shide h2
  have H3 := shide HE
  clear HX HF h2 h3 HE
  go_wp2
  go_end0
  exact ⟨rfl, d1, H2.out, H3.out⟩
end Go.Proofs.Ytidjjgiecaoboaa
