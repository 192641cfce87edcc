import Derived.Test.YtbihhcbbjdjhcaaDrawL
namespace Go.Proofs.Ytbihhcbbjdjhcaa
open Go.RowKit Go.BigFrame
set_option linter.unusedVariables false
/-! labels that are drawn, right or not -/
theorem Out.grown {lo hi : Nat} {a w w' : World} {row : Option Nat} (h : Out lo hi a w) (hg : w.grownBy w' row) (hr : ∀ k, row = some k → a.heap.size ≤ k) : Out lo hi a w' :=
  ⟨hg.os.trans h.os, hg.tape.trans h.tape, hg.output.trans h.output, Nat.le_trans h.size hg.size, fun k hk hr' => (hg.block k (Nat.lt_of_lt_of_le hk h.size) (fun e => by have := hr k e.symm; omega)).trans (h.block k hk hr')⟩
theorem CurIn.grown {w w' : World} {row : Option Nat} {d : Nat} {a : Option Addr} {n cap B : Nat} (c : CurIn w d a n cap) (hg : w.grownBy w' row) (hr : ∀ k, row = some k → B ≤ k) (hd : d < B) (hall : ∀ j, j < n → ∀ b off, a = some ⟨b, off, none⟩ → b < B) : CurIn w' d a n cap := by
  have hlt := c.lt
  have hb : ∀ k, k < w.heap.size → k < B → w'.heap[k]? = w.heap[k]? := fun k hk hkB => hg.block k hk (fun e => by have := hr k e.symm; omega)
  obtain ⟨i, h, c⟩ := c
  refine ⟨i, h, c.le, ?_, ?_, ?_, ?_, ?_, ?_⟩
  · exact (World.cell?_of_block (w := w) (a := ⟨d, 0, none⟩) (hb d hlt hd)).trans c.c0
  · exact (World.cell?_of_block (w := w) (a := ⟨d, 1, none⟩) (hb d hlt hd)).trans c.c1
  · exact (World.cell?_of_block (w := w) (a := ⟨d, 2, none⟩) (hb d hlt hd)).trans c.c2
  · exact (World.frozen?_of_block (w := w) (a := ⟨d, 1, none⟩) (hb d hlt hd)).trans c.f1
  · exact (World.frozen?_of_block (w := w) (a := ⟨d, 2, none⟩) (hb d hlt hd)).trans c.f2
  · intro j hj
    obtain ⟨b, off, x, h1, h2, h3, h4⟩ := c.code j hj
    exact ⟨b, off, x, h1, h2, (World.cell?_of_block (w := w) (a := ⟨b, off + j, none⟩) (hb b (World.block_lt_of_cell? _ _ h3) (hall j hj b off h1))).trans h3, h4⟩
theorem CurIn.lt_all' {w : World} {d : Nat} {a : Option Addr} {n cap : Nat} (c : CurIn w d a n cap) : ∀ j, j < n → ∀ b off, a = some ⟨b, off, none⟩ → b < w.heap.size := by
  obtain ⟨i, h, c⟩ := c
  intro j hj b off e
  obtain ⟨b', off', x, h1, h2, h3, h4⟩ := c.code j hj
  rw [h1] at e
  cases e
  exact World.block_lt_of_cell? _ _ h3
theorem slice_of_owns {w : World} {B n : Nat} {v : Value} {e : TypeId} {size : Nat} {xs : List Value} (h : w.ownsRow B e size v n xs) (hn : v ≠ .slice none 0 0) : ∃ g c, v = .slice (some ⟨g, 0, none⟩) n c := by
  rcases h.2 with ⟨h, _⟩ | ⟨g, cap, cur, h, _⟩
  · exact absurd h hn
  · exact ⟨g, cap, h⟩
/-- one of the eight -/
def dLab (k : Nat) : ByteArray × ByteArray := (⟨#[100, UInt8.ofNat (48 + k)]⟩, ⟨#[118]⟩)
theorem conv_two (w : World) (x y : Int) : (convert 22 9 (.slice (some ⟨w.heap.size, 0, none⟩) 2 2)).run Try.prog (w.alloc (.cells #[.int .u8 x, .int .u8 y] 5)) =
    .ok (.string ([x, y].foldl (fun r n => r.push (UInt8.ofNat n.toNat)) ByteArray.empty)) (w.alloc (.cells #[.int .u8 x, .int .u8 y] 5)) := by
  rw [run_convert_bytes_string _ _ _ _ _ _ _ Try.underlying22 Try.underlying5 Try.underlying9, run_bytesToString _ _ 2 2 [x, y]]
  simp [loadCells, go_sem]
theorem two_fold (k : Nat) : [100, 48 + (k : Int)].foldl (fun r n => r.push (UInt8.ofNat n.toNat)) ByteArray.empty = (dLab k).1 := by
  have e1 : (48 + (k : Int)).toNat = 48 + k := by omega
  simp only [List.foldl, e1]
  rfl
theorem d_small : smallL ((List.range 8).map dLab) := by
  intro p hp
  obtain ⟨k, _, rfl⟩ := List.mem_map.1 hp
  exact ⟨by show 2 ≤ 25; decide, by show 1 ≤ 25; decide⟩
set_option maxRecDepth 100000 in
set_option maxHeartbeats 1600000 in
theorem l1DrawAny_any (d n cap : Nat) (a : Option Addr) (w : World) (hn : n ≤ 1048576) (hc : CurIn w d a n cap) :
    Calls Try.prog 14 #[.pointer (some ⟨d, 0, none⟩)] w fun e w' => ∃ (ls : List (ByteArray × ByteArray)) (g c : Nat), e = .returned (.slice (some ⟨g, 0, none⟩) ls.length c) ∧ Hid (ls.length ≤ 9 ∧ smallL ls) ∧
      Hid (w'.ownsRow w.heap.size 43 2 (.slice (some ⟨g, 0, none⟩) ls.length c) ls.length (flat ls)) ∧ Hid (CurIn w' d a n cap) ∧ Hid (Out d (d + 1) w w') := by
  have Hd := hide hc.lt
  have Hall := hide hc.lt_all'
  have Hc := hide hc
  clear hc
  obtain ⟨i0, hi, hz0, hz1, hz2⟩ := info_parts Try.info44
  go_enter Try.func14, Try.ntmps14
  go_wp2_with fail
  refine (l1Draw_any d n cap 9 a _ hn (by decide) (by decide) Hc.out).mono ?_
  rintro e w1 ⟨ls, g, c, rfl, Hs1, Hw1, Hc1, O1⟩
  clear Hc
  go_wp2_with fail
  refine (l1Once_any d n cap 5 a _ hn (by decide) Hc1.out).mono ?_
  rintro e w2 ⟨o, rfl, Hc2, ho2⟩
  have Hgd : Hid (w.heap.size ≤ g ∧ g ≠ d) := by
    have h1 := (owns_blk Hw1.out (g := g) rfl).1
    have h2 := Hd.out
    exact ⟨h1, by omega⟩
  have Hw2 := hide (owns_out Hw1.out ho2 (by intro b hb; cases hb; have := Hgd.out; show g < d ∨ d + 1 ≤ g; omega))
  have O2 := hide (O1.out.trans ho2)
  clear Hw1 O1 Hc1 ho2
  cases o
  · have Hs2 : Hid (ls.length ≤ 9 ∧ smallL ls) := ⟨by have := Hs1.out.1; omega, Hs1.out.2⟩
    clear Hs1 Hgd
    go_wp2_with fail
    refine (l1Once_any d n cap 20 a _ hn (by decide) Hc2.out).mono ?_
    rintro e w7 ⟨o2, rfl, Hc7, ho7⟩
    have Hg7 : Hid (w.heap.size ≤ g ∧ g ≠ d) := by
      have h1 := (owns_blk Hw2.out (g := g) rfl).1
      have h2 := Hd.out
      exact ⟨h1, by omega⟩
    have Hw7 := hide (owns_out Hw2.out ho7 (by intro b hb; cases hb; have := Hg7.out; show g < d ∨ d + 1 ≤ g; omega))
    have O7 := hide (O2.out.trans ho7)
    clear ho7 Hw2 Hc2 O2
    cases o2
    · go_wp2
      go_ret
      exact ⟨ls, g, c, rfl, Hs2, Hw7, Hc7, O7⟩
    · have hsz7 := O7.out.size
      have Hc8 : Hid (CurIn (w7.alloc (.cells #[] 43)) d a n cap) := Hc7.out.later ((Below.refl _ _).alloc (Nat.le_refl _) _)
      have O8 : Hid (Out d (d + 1) w (w7.alloc (.cells #[] 43))) := O7.out.trans (Out.of_below ((Below.refl _ _).alloc (Nat.le_refl _) _))
      clear Hw7 Hs2 Hg7
      go_wp2_with fail
      go_loopw [3, 4] (fun v i wr => ∃ (g c k : Nat), k ≤ 8 ∧ v = .slice (some ⟨g, 0, none⟩) k c ∧ i = .int .i64 k ∧ Hid (wr.ownsRow w.heap.size 43 2 (.slice (some ⟨g, 0, none⟩) k c) k (flat ((List.range k).map dLab))) ∧ Hid (CurIn wr d a n cap) ∧ Hid (Out d (d + 1) w wr)) (fun _ i _ => 8 - (intOf i).toNat)
      case atStart => exact ⟨_, _, 0, Nat.zero_le _, rfl, rfl, World.ownsRow_lit _ #[] 0 hsz7 (by decide) rfl, Hc8, O8⟩
      case round =>
        clear Hc8 O8 Hc7 O7 hsz7
        obtain ⟨g, c, k, hk, rfl, rfl, Hw, Hc, Ho⟩ := hrel
        by_cases hlt : k < 8
        · have hcv := fun wx => conv_two wx 100 (48 + (k : Int))
          rw [two_fold] at hcv
          have hszr := Ho.out.size
          have Hn : Hid (flat ((List.range (k + 1)).map dLab) = flat ((List.range k).map dLab) ++ [.string (dLab k).1, .string ⟨#[118]⟩]) := by
            show _ = _
            rw [List.range_succ, List.map_append, List.map_cons, List.map_nil, flat_snoc]
            rfl
          generalize (dLab k).1 = K at *
          go_wp2_with (at_builtin; refine wpList_append_own _ rfl _ _ 25 rfl w.heap.size 43 i0 _ 2 32 Try.underlying25 hi hz0 hz1 hz2 rfl (by decide) _ _ _ rfl ((Hw.out.alloc _).alloc _) ⟨wr.heap.size + 1, 0, none⟩ 1 1 [.string K, .string ⟨#[118]⟩] rfl rfl (cell_two_at _ _ (by simp) _ _ _) (fun x hx => by simp at hx; rcases hx with rfl | rfl <;> rfl) (by unfold maxLen; omega) (by omega) (by simp; omega) ?_; intro v' w9 hown9 hgrow9 hnil9)
          obtain ⟨g9, c9, rfl⟩ := slice_of_owns hown9 (fun h => by cases (hnil9.1 h).1)
          have Hw9 : Hid (w9.ownsRow w.heap.size 43 2 (.slice (some ⟨g9, 0, none⟩) (k + 1) c9) (k + 1) (flat ((List.range (k + 1)).map dLab))) := by
            show World.ownsRow _ _ _ _ _ _ _
            rw [Hn.out]
            exact hown9
          have hal : Below wr.heap.size wr ((wr.alloc (.cells #[.int .u8 100, .int .u8 (48 + (k : Int))] 5)).alloc (.cells #[.string K, .string ⟨#[118]⟩] 43)) := ((Below.refl _ _).alloc (Nat.le_refl _) _).alloc (by simp) _
          have O9 : Hid (Out d (d + 1) w w9) := Out.grown (Ho.out.trans (Out.of_below hal)) hgrow9 (fun k hk => (Hw.out.lt _ hk).1)
          have Hc9 : Hid (CurIn w9 d a n cap) := CurIn.grown (Hc.out.later hal) hgrow9 (fun k hk => (Hw.out.lt _ hk).1) Hd.out Hall.out
          clear hown9 hgrow9 hnil9 hal Hw Ho Hc
          go_roundw
          case rel => exact ⟨g9, c9, k + 1, by omega, rfl, by go_num, Hw9, Hc9, O9⟩
          case measure => simp [intOf]; omega
        · have e : k = 8 := by omega
          subst e
          go_wp2
          go_ret
          exact ⟨(List.range 8).map dLab, g, c, rfl, ⟨by decide, d_small⟩, Hw, Hc, Ho⟩
  · go_wp2_with fail
    refine (l1NameAny_any d n cap a _ hn Hc2.out).mono ?_
    rintro e w3 ⟨K, hK, rfl, Hc3, ho3⟩
    have Hw3 := hide (owns_out Hw2.out ho3 (by intro b hb; cases hb; have := Hgd.out; show g < d ∨ d + 1 ≤ g; omega))
    have O3 := hide (O2.out.trans ho3)
    clear Hw2 O2 Hc2 ho3
    go_wp2_with fail
    refine (l1NameAny_any d n cap a _ hn Hc3.out).mono ?_
    rintro e w4 ⟨V, hV, rfl, Hc4, ho4⟩
    have Hw4 := hide (owns_out Hw3.out ho4 (by intro b hb; cases hb; have := Hgd.out; show g < d ∨ d + 1 ≤ g; omega))
    have O4 := hide (O3.out.trans ho4)
    have hKs := names_small K hK
    have hVs := names_small V hV
    clear Hw3 O3 Hc3 ho4 hK hV
    have hlen : ls.length ≤ 8 := Hs1.out.1
    have hsz4 := O4.out.size
    go_wp2_with (at_builtin; refine wpList_append_own _ rfl _ _ 25 rfl w.heap.size 43 i0 _ 2 32 Try.underlying25 hi hz0 hz1 hz2 rfl (by decide) _ _ _ rfl (Hw4.out.alloc _) ⟨w4.heap.size, 0, none⟩ 1 1 [.string K, .string V] rfl rfl (cell_two_new _ _ _ _) (fun x hx => by simp at hx; rcases hx with rfl | rfl <;> rfl) (by unfold maxLen; omega) (by omega) (by simp; omega) ?_; intro v' w5 hown5 hgrow5 hnil5)
    obtain ⟨g5, c5, rfl⟩ := slice_of_owns hown5 (fun h => by cases (hnil5.1 h).1)
    have Hw5 : Hid (w5.ownsRow w.heap.size 43 2 (.slice (some ⟨g5, 0, none⟩) (ls ++ [(K, V)]).length c5) (ls ++ [(K, V)]).length (flat (ls ++ [(K, V)]))) := by
      rw [flat_snoc, List.length_append, List.length_singleton]
      exact hown5
    have O5 : Hid (Out d (d + 1) w w5) := Out.grown (O4.out.trans (Out.of_below ((Below.refl _ _).alloc (Nat.le_refl _) _))) hgrow5 (fun k hk => (Hw4.out.lt _ hk).1)
    have Hc5 : Hid (CurIn w5 d a n cap) := CurIn.grown (Hc4.out.later ((Below.refl _ _).alloc (Nat.le_refl _) _)) hgrow5 (fun k hk => (Hw4.out.lt _ hk).1) Hd.out Hall.out
    have Hs5 : Hid ((ls ++ [(K, V)]).length ≤ 9 ∧ smallL (ls ++ [(K, V)])) := ⟨by rw [List.length_append, List.length_singleton]; omega, fun p hp => by
      rcases List.mem_append.1 hp with hp | hp
      · exact Hs1.out.2 p hp
      · simp at hp; rw [hp]; exact ⟨hKs, hVs⟩⟩
    have hln : ls.length + 1 = (ls ++ [(K, V)]).length := by rw [List.length_append, List.length_singleton]
    rw [hln]
    clear hown5 hgrow5 hnil5 hln Hw4 O4 Hc4 Hs1 Hgd hKs hVs hlen hsz4
    generalize ls ++ [(K, V)] = ls5 at *
    go_wp2_with fail
    refine (l1Once_any d n cap 20 a _ hn (by decide) Hc5.out).mono ?_
    rintro e w7 ⟨o2, rfl, Hc7, ho7⟩
    have Hg7 : Hid (w.heap.size ≤ g5 ∧ g5 ≠ d) := by
      have h1 := (owns_blk Hw5.out (g := g5) rfl).1
      have h2 := Hd.out
      exact ⟨h1, by omega⟩
    have Hw7 := hide (owns_out Hw5.out ho7 (by intro b hb; cases hb; have := Hg7.out; show g5 < d ∨ d + 1 ≤ g5; omega))
    have O7 := hide (O5.out.trans ho7)
    clear ho7 Hw5 Hc5 O5
    cases o2
    · go_wp2
      go_ret
      exact ⟨ls5, g5, c5, rfl, Hs5, Hw7, Hc7, O7⟩
    · have hsz7 := O7.out.size
      have Hc8 : Hid (CurIn (w7.alloc (.cells #[] 43)) d a n cap) := Hc7.out.later ((Below.refl _ _).alloc (Nat.le_refl _) _)
      have O8 : Hid (Out d (d + 1) w (w7.alloc (.cells #[] 43))) := O7.out.trans (Out.of_below ((Below.refl _ _).alloc (Nat.le_refl _) _))
      clear Hw7 Hs5 Hg7
      go_wp2_with fail
      go_loopw [3, 4] (fun v i wr => ∃ (g c k : Nat), k ≤ 8 ∧ v = .slice (some ⟨g, 0, none⟩) k c ∧ i = .int .i64 k ∧ Hid (wr.ownsRow w.heap.size 43 2 (.slice (some ⟨g, 0, none⟩) k c) k (flat ((List.range k).map dLab))) ∧ Hid (CurIn wr d a n cap) ∧ Hid (Out d (d + 1) w wr)) (fun _ i _ => 8 - (intOf i).toNat)
      case atStart => exact ⟨_, _, 0, Nat.zero_le _, rfl, rfl, World.ownsRow_lit _ #[] 0 hsz7 (by decide) rfl, Hc8, O8⟩
      case round =>
        clear Hc8 O8 Hc7 O7 hsz7
        obtain ⟨g, c, k, hk, rfl, rfl, Hw, Hc, Ho⟩ := hrel
        by_cases hlt : k < 8
        · have hcv := fun wx => conv_two wx 100 (48 + (k : Int))
          rw [two_fold] at hcv
          have hszr := Ho.out.size
          have Hn : Hid (flat ((List.range (k + 1)).map dLab) = flat ((List.range k).map dLab) ++ [.string (dLab k).1, .string ⟨#[118]⟩]) := by
            show _ = _
            rw [List.range_succ, List.map_append, List.map_cons, List.map_nil, flat_snoc]
            rfl
          generalize (dLab k).1 = K at *
          go_wp2_with (at_builtin; refine wpList_append_own _ rfl _ _ 25 rfl w.heap.size 43 i0 _ 2 32 Try.underlying25 hi hz0 hz1 hz2 rfl (by decide) _ _ _ rfl ((Hw.out.alloc _).alloc _) ⟨wr.heap.size + 1, 0, none⟩ 1 1 [.string K, .string ⟨#[118]⟩] rfl rfl (cell_two_at _ _ (by simp) _ _ _) (fun x hx => by simp at hx; rcases hx with rfl | rfl <;> rfl) (by unfold maxLen; omega) (by omega) (by simp; omega) ?_; intro v' w9 hown9 hgrow9 hnil9)
          obtain ⟨g9, c9, rfl⟩ := slice_of_owns hown9 (fun h => by cases (hnil9.1 h).1)
          have Hw9 : Hid (w9.ownsRow w.heap.size 43 2 (.slice (some ⟨g9, 0, none⟩) (k + 1) c9) (k + 1) (flat ((List.range (k + 1)).map dLab))) := by
            show World.ownsRow _ _ _ _ _ _ _
            rw [Hn.out]
            exact hown9
          have hal : Below wr.heap.size wr ((wr.alloc (.cells #[.int .u8 100, .int .u8 (48 + (k : Int))] 5)).alloc (.cells #[.string K, .string ⟨#[118]⟩] 43)) := ((Below.refl _ _).alloc (Nat.le_refl _) _).alloc (by simp) _
          have O9 : Hid (Out d (d + 1) w w9) := Out.grown (Ho.out.trans (Out.of_below hal)) hgrow9 (fun k hk => (Hw.out.lt _ hk).1)
          have Hc9 : Hid (CurIn w9 d a n cap) := CurIn.grown (Hc.out.later hal) hgrow9 (fun k hk => (Hw.out.lt _ hk).1) Hd.out Hall.out
          clear hown9 hgrow9 hnil9 hal Hw Ho Hc
          go_roundw
          case rel => exact ⟨g9, c9, k + 1, by omega, rfl, by go_num, Hw9, Hc9, O9⟩
          case measure => simp [intOf]; omega
        · have e : k = 8 := by omega
          subst e
          go_wp2
          go_ret
          exact ⟨(List.range 8).map dLab, g, c, rfl, ⟨by decide, d_small⟩, Hw, Hc, Ho⟩
end Go.Proofs.Ytbihhcbbjdjhcaa
