import Derived.Test.YtlbpfcchaobgjaaDraw4
import Derived.Test.YtlbpfcchaobgjaaAmtsT
namespace Go.Proofs.Ytlbpfcchaobgjaa
open Go.RowKit Go.BigFrame
set_option linter.unusedVariables false
/-- a cursor in a block, and three numbers in another -/
theorem Has3.out {lo hi : Nat} {w w' : World} {b : Nat} {x y z : Int} (h : Has3 w b x y z) (ho : Out lo hi w w') (hb : b < lo ∨ hi ≤ b) : Has3 w' b x y z :=
  ⟨(ho.cell (p := ⟨b, 0, none⟩) h.lt hb).trans h.c0, (ho.cell (p := ⟨b, 1, none⟩) h.lt hb).trans h.c1, (ho.cell (p := ⟨b, 2, none⟩) h.lt hb).trans h.c2,
   (World.frozen?_of_block (w := w) (a := ⟨b, 0, none⟩) (ho.block b h.lt hb)).trans h.f0, (World.frozen?_of_block (w := w) (a := ⟨b, 1, none⟩) (ho.block b h.lt hb)).trans h.f1, (World.frozen?_of_block (w := w) (a := ⟨b, 2, none⟩) (ho.block b h.lt hb)).trans h.f2⟩
theorem CurIn.put {w : World} {d : Nat} {a : Option Addr} {n cap : Nat} (c : CurIn w d a n cap) (p : Addr) (v : Value) (hd : d ≠ p.block) (hcode : ∀ j, j < n → ∀ b off, a = some ⟨b, off, none⟩ → b ≠ p.block) : CurIn (w.setCell p v) d a n cap := by
  obtain ⟨i, h, c⟩ := c
  refine ⟨i, h, c.le, ?_, ?_, ?_, ?_, ?_, ?_⟩
  · rw [World.cell?_setCell_other _ _ _ _ (by rintro rfl; exact hd rfl)]; exact c.c0
  · rw [World.cell?_setCell_other _ _ _ _ (by rintro rfl; exact hd rfl)]; exact c.c1
  · rw [World.cell?_setCell_other _ _ _ _ (by rintro rfl; exact hd rfl)]; exact c.c2
  · rw [World.frozen?_setCell _ _ _ _]; exact c.f1
  · rw [World.frozen?_setCell _ _ _ _]; exact c.f2
  · intro j hj
    obtain ⟨b, off, x, h1, h2, h3, h4⟩ := c.code j hj
    have hb := hcode j hj b off h1
    exact ⟨b, off, x, h1, h2, by rw [World.cell?_setCell_other _ _ _ _ (by rintro rfl; exact hb rfl)]; exact h3, h4⟩
theorem CurIn.lt_all {w : World} {d : Nat} {a : Option Addr} {n cap : Nat} (c : CurIn w d a n cap) : ∀ j, j < n → ∀ b off, a = some ⟨b, off, none⟩ → b < w.heap.size := by
  obtain ⟨i, h, c⟩ := c
  intro j hj b off e
  obtain ⟨b', off', x, h1, h2, h3, h4⟩ := c.code j hj
  rw [h1] at e
  cases e
  exact World.block_lt_of_cell? _ _ h3
theorem CurIn.out {lo hi : Nat} {w w' : World} {d : Nat} {a : Option Addr} {n cap : Nat} (c : CurIn w d a n cap) (ho : Out lo hi w w') (hr : w.heap.size ≤ lo) : CurIn w' d a n cap := c.later ⟨ho.os, ho.tape, ho.output, ho.size, fun k hk => ho.block k hk (by omega)⟩
theorem Out.setNew {lo hi : Nat} {a w : World} (h : Out lo hi a w) (p : Addr) (hp : a.heap.size ≤ p.block) (u : Value) : Out lo hi a (w.setCell p u) := by
  refine ⟨h.os, h.tape, h.output, ?_, fun k hk hr => ?_⟩
  · have : (w.setCell p u).heap.size = w.heap.size := by simp [World.setCell]
    rw [this]; exact h.size
  · rw [Below.heap_setCell _ _ _ _ (by omega)]
    exact h.block k hk hr
set_option maxRecDepth 100000 in
set_option maxHeartbeats 1600000 in
theorem l3Draw_any (d n cap : Nat) (a : Option Addr) (w : World) (hn : n ≤ 1048576) (hc : CurIn w d a n cap) :
    Calls Try.prog 39 #[.pointer (some ⟨d, 0, none⟩)] w fun e w' => ∃ x y z : Int, e = .returned (.agg #[.int .i64 x, .int .i64 y, .int .i64 z]) ∧ Hid (CurIn w' d a n cap) ∧ Out d (d + 1) w w' := by
  have Hlt := hide hc.lt
  have Hall := hide hc.lt_all
  have Hc : Hid (CurIn (w.alloc (.cells #[.int .i64 0, .int .i64 0, .int .i64 0] 36)) d a n cap) := hc.later (below_new _ _)
  have Hr : Hid (Has3 (w.alloc (.cells #[.int .i64 0, .int .i64 0, .int .i64 0] 36)) w.heap.size 0 0 0) := Has3.new w 0 0 0 _
  have Ho : Hid (Out d (d + 1) w (w.alloc (.cells #[.int .i64 0, .int .i64 0, .int .i64 0] 36))) := Out.of_below (below_new _ _)
  clear hc
  go_enter Try.func39, Try.ntmps39
  go_wp2_with fail
  refine (l3Amount_any d n cap a _ hn Hc.out).mono ?_
  rintro e w1 ⟨x, rfl, hc1, ho1⟩
  have R1 := hide (Hr.out.out ho1 (by have := Hlt.out; omega))
  have O1 := hide (Ho.out.trans ho1)
  clear ho1 Hc Hr Ho
  go_wp2_with fail
  refine (l3Amount_any d n cap a _ hn hc1.out).mono ?_
  rintro e w2 ⟨y, rfl, hc2, ho2⟩
  have R2 := hide (R1.out.out ho2 (by have := Hlt.out; omega))
  have O2 := hide (O1.out.trans ho2)
  clear ho2 R1 O1 hc1
  go_wp2_with fail
  refine (l3Amount_any d n cap a _ hn hc2.out).mono ?_
  rintro e w3 ⟨z, rfl, hc3, ho3⟩
  have R3 := hide (R2.out.out ho3 (by have := Hlt.out; omega))
  have O3 := hide (O2.out.trans ho3)
  clear ho3 R2 O2 hc2
  have Hc4 := hide (hc3.out.later (below_new w3 (.cells #[.int .i64 x, .int .i64 y, .int .i64 z] 36)))
  have V4 := hide (Has3.new w3 x y z 36)
  have R4 := hide (R3.out.later (below_new w3 (.cells #[.int .i64 x, .int .i64 y, .int .i64 z] 36)))
  have O4 : Hid (Out d (d + 1) w (w3.alloc (.cells #[.int .i64 x, .int .i64 y, .int .i64 z] 36))) := O3.out.trans (Out.of_below (below_new _ _))
  have L3 : Hid (w.heap.size < w3.heap.size ∧ d < w3.heap.size) := ⟨R3.out.lt, hc3.out.lt⟩
  clear R3 O3 hc3
  go_wp2_with fail
  refine (l1Once_any d n cap 12 a _ hn (by decide) Hc4.out).mono ?_
  rintro e w5 ⟨o, rfl, hc5, ho5⟩
  have R5 := hide (R4.out.out ho5 (by have := Hlt.out; omega))
  have V5 := hide (V4.out.out ho5 (by have := L3.out; omega))
  have O5 := hide (O4.out.trans ho5)
  clear ho5 R4 V4 O4 Hc4
  cases o
  · obtain ⟨r0, r1, r2, f0, f1, f2⟩ := R5.out
    obtain ⟨v0, v1, v2, -, -, -⟩ := V5.out
    go_wp2_with fail
    exact bodyPost_ret (v := .agg #[.int .i64 x, .int .i64 y, .int .i64 z]) (by simp [results, Try.results39, go_sem, r0, r1, r2]) rfl ⟨x, y, z, rfl, hide (((hc5.out.put ⟨w.heap.size, 0, none⟩ _ (by have := Hlt.out; show d ≠ w.heap.size; omega) (fun j hj b off e => by have := Hall.out j hj b off e; show b ≠ w.heap.size; omega)).put ⟨w.heap.size, 1, none⟩ _ (by have := Hlt.out; show d ≠ w.heap.size; omega) (fun j hj b off e => by have := Hall.out j hj b off e; show b ≠ w.heap.size; omega)).put ⟨w.heap.size, 2, none⟩ _ (by have := Hlt.out; show d ≠ w.heap.size; omega) (fun j hj b off e => by have := Hall.out j hj b off e; show b ≠ w.heap.size; omega)), ((O5.out.setNew ⟨w.heap.size, 0, none⟩ (Nat.le_refl _) _).setNew ⟨w.heap.size, 1, none⟩ (Nat.le_refl _) _).setNew ⟨w.heap.size, 2, none⟩ (Nat.le_refl _) _⟩
  · go_wp2_with fail
    refine (l1Below_any d n cap 3 a _ hn (by decide) hc5.out).mono ?_
    rintro e w6 ⟨k, hk, rfl, hc6, ho6⟩
    have R6 := hide (R5.out.out ho6 (by have := Hlt.out; omega))
    have V6 := hide (V5.out.out ho6 (by have := L3.out; omega))
    have O6 := hide (O5.out.trans ho6)
    have hk' := hk (by decide)
    clear ho6 R5 V5 O5 hc5 hk
    go_wp2_with fail
    refine (l1Int_new d n cap a #[.int .i64 (-1), .int .i64 1000000000000001, .int .i64 9223372036854775807] 3 _ hn (by show 3 ≤ _; decide) (by show 0 < 3; decide) (by simp) hc6.out).mono ?_
    rintro e w7 ⟨v, rfl, hc7, ho7⟩
    have R7 := hide (R6.out.out ho7 (by have := Hlt.out; omega))
    have V7 := hide (V6.out.out ho7 (by have := L3.out; omega))
    have O7 := hide (O6.out.trans ho7)
    have L7 : Hid (∀ i, d ≠ (⟨w3.heap.size, i, none⟩ : Addr).block ∧ (∀ j, j < n → ∀ b off, a = some ⟨b, off, none⟩ → b ≠ (⟨w3.heap.size, i, none⟩ : Addr).block) ∧ w.heap.size ≤ (⟨w3.heap.size, i, none⟩ : Addr).block) :=
      fun i => ⟨by have := L3.out; show d ≠ w3.heap.size; omega, fun j hj b off e => by have := Hall.out j hj b off e; have := L3.out; show b ≠ w3.heap.size; omega, by have := L3.out; show w.heap.size ≤ w3.heap.size; omega⟩
    clear ho7 R6 V6 O6 hc6
    obtain ⟨r0, r1, r2, f0, f1, f2⟩ := R7.out
    obtain ⟨v0, v1, v2, g0, g1, g2⟩ := V7.out
    have hk3 : k = 0 ∨ k = 1 ∨ k = 2 := by omega
    have hne : w.heap.size ≠ w3.heap.size := by have := L3.out; omega
    have hne' : w3.heap.size ≠ w.heap.size := by have := L3.out; omega
    rcases hk3 with rfl | rfl | rfl
    · go_wp2_with fail
      have hc8 := hide (hc7.out.put ⟨w3.heap.size, 0, none⟩ (.int .i64 v) (L7.out 0).1 (L7.out 0).2.1)
      exact bodyPost_ret (v := .agg #[.int .i64 v, .int .i64 y, .int .i64 z]) (by simp [results, Try.results39, go_sem, r0, r1, r2]) rfl ⟨v, y, z, rfl, hide (((hc8.out.put ⟨w.heap.size, 0, none⟩ _ (by have := Hlt.out; show d ≠ w.heap.size; omega) (fun j hj b off e => by have := Hall.out j hj b off e; show b ≠ w.heap.size; omega)).put ⟨w.heap.size, 1, none⟩ _ (by have := Hlt.out; show d ≠ w.heap.size; omega) (fun j hj b off e => by have := Hall.out j hj b off e; show b ≠ w.heap.size; omega)).put ⟨w.heap.size, 2, none⟩ _ (by have := Hlt.out; show d ≠ w.heap.size; omega) (fun j hj b off e => by have := Hall.out j hj b off e; show b ≠ w.heap.size; omega)), (((O7.out.setNew ⟨w3.heap.size, 0, none⟩ (L7.out 0).2.2 _).setNew ⟨w.heap.size, 0, none⟩ (Nat.le_refl _) _).setNew ⟨w.heap.size, 1, none⟩ (Nat.le_refl _) _).setNew ⟨w.heap.size, 2, none⟩ (Nat.le_refl _) _⟩
    · go_wp2_with fail
      have hc8 := hide (hc7.out.put ⟨w3.heap.size, 1, none⟩ (.int .i64 v) (L7.out 1).1 (L7.out 1).2.1)
      exact bodyPost_ret (v := .agg #[.int .i64 x, .int .i64 v, .int .i64 z]) (by simp [results, Try.results39, go_sem, r0, r1, r2]) rfl ⟨x, v, z, rfl, hide (((hc8.out.put ⟨w.heap.size, 0, none⟩ _ (by have := Hlt.out; show d ≠ w.heap.size; omega) (fun j hj b off e => by have := Hall.out j hj b off e; show b ≠ w.heap.size; omega)).put ⟨w.heap.size, 1, none⟩ _ (by have := Hlt.out; show d ≠ w.heap.size; omega) (fun j hj b off e => by have := Hall.out j hj b off e; show b ≠ w.heap.size; omega)).put ⟨w.heap.size, 2, none⟩ _ (by have := Hlt.out; show d ≠ w.heap.size; omega) (fun j hj b off e => by have := Hall.out j hj b off e; show b ≠ w.heap.size; omega)), (((O7.out.setNew ⟨w3.heap.size, 1, none⟩ (L7.out 1).2.2 _).setNew ⟨w.heap.size, 0, none⟩ (Nat.le_refl _) _).setNew ⟨w.heap.size, 1, none⟩ (Nat.le_refl _) _).setNew ⟨w.heap.size, 2, none⟩ (Nat.le_refl _) _⟩
    · go_wp2_with fail
      have hc8 := hide (hc7.out.put ⟨w3.heap.size, 2, none⟩ (.int .i64 v) (L7.out 2).1 (L7.out 2).2.1)
      exact bodyPost_ret (v := .agg #[.int .i64 x, .int .i64 y, .int .i64 v]) (by simp [results, Try.results39, go_sem, r0, r1, r2]) rfl ⟨x, y, v, rfl, hide (((hc8.out.put ⟨w.heap.size, 0, none⟩ _ (by have := Hlt.out; show d ≠ w.heap.size; omega) (fun j hj b off e => by have := Hall.out j hj b off e; show b ≠ w.heap.size; omega)).put ⟨w.heap.size, 1, none⟩ _ (by have := Hlt.out; show d ≠ w.heap.size; omega) (fun j hj b off e => by have := Hall.out j hj b off e; show b ≠ w.heap.size; omega)).put ⟨w.heap.size, 2, none⟩ _ (by have := Hlt.out; show d ≠ w.heap.size; omega) (fun j hj b off e => by have := Hall.out j hj b off e; show b ≠ w.heap.size; omega)), (((O7.out.setNew ⟨w3.heap.size, 2, none⟩ (L7.out 2).2.2 _).setNew ⟨w.heap.size, 0, none⟩ (Nat.le_refl _) _).setNew ⟨w.heap.size, 1, none⟩ (Nat.le_refl _) _).setNew ⟨w.heap.size, 2, none⟩ (Nat.le_refl _) _⟩
end Go.Proofs.Ytlbpfcchaobgjaa
