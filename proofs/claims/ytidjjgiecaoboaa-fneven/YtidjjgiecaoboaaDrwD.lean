/- The draw of what is divided. -/
import Derived.Test.YtidjjgiecaoboaaDrwI
namespace Go.Proofs.Ytidjjgiecaoboaa
open Go.RowKit Go.BigFrame
set_option linter.unusedVariables false
set_option maxRecDepth 100000 in
set_option maxHeartbeats 3200000 in
theorem l6Draw_any (d n cap m : Nat) (a : Option Addr) (w : World) (hn : n ≤ 1048576) (hm0 : 0 < m) (hm : m ≤ 12) (hc : CurIn w d a n cap) :
    Calls Try.prog 23 #[.pointer (some ⟨d, 0, none⟩), .int .i64 m] w fun e w' => ∃ (z : Int) (v u : Value) (ws cs : List Int), e = .returned (.tuple #[.int .i64 z, v, u]) ∧ Hid (-9223372036854775808 ≤ z ∧ z ≤ 9223372036854775807) ∧ Hid (goodI ws 13) ∧ Hid (goodI cs 13) ∧
      Hid (IR w' w.heap.size v ws) ∧ Hid (IR w' w.heap.size u cs) ∧ Hid (v.ownBlock ≠ u.ownBlock) ∧ Hid (CurIn w' d a n cap) ∧ Hid (Out d (d + 1) w w') := by
  obtain ⟨i0, hi0, hz0, hz1, hz2⟩ := infoD Try.infoDInt
  have Hd := hide hc.lt
  have Hall := hide hc.lt_allI
  have HB0 : Hid (Below w.heap.size w ((w.alloc (.cells #[] 3)).alloc (.cells #[] 3))) := ((Below.refl _ _).alloc (Nat.le_refl _) _).alloc (by simp) _
  have C0 : Hid (CurIn ((w.alloc (.cells #[] 3)).alloc (.cells #[] 3)) d a n cap) := hc.later HB0.out
  have V0 : Hid (IR ((w.alloc (.cells #[] 3)).alloc (.cells #[] 3)) w.heap.size (.slice (some ⟨w.heap.size, 0, none⟩) 0 0) []) := (IR.lit w w.heap.size (Nat.le_refl _)).below ((Below.refl _ _).alloc (Nat.le_refl _) _)
  have U0 : Hid (IR ((w.alloc (.cells #[] 3)).alloc (.cells #[] 3)) w.heap.size (.slice (some ⟨w.heap.size + 1, 0, none⟩) 0 0) []) := by
    have h := IR.lit (w.alloc (.cells #[] 3)) w.heap.size (by simp)
    have e : (w.alloc (.cells #[] 3)).heap.size = w.heap.size + 1 := by simp
    rw [e] at h
    exact h
  have N0 : Hid ((Value.slice (some ⟨w.heap.size, 0, none⟩) 0 0).ownBlock ≠ (Value.slice (some ⟨w.heap.size + 1, 0, none⟩) 0 0).ownBlock) := by show some w.heap.size ≠ some (w.heap.size + 1); simp
  clear hc
  go_enter Try.func23, Try.ntmps23
  go_wp2_with fail
  refine (l1Below_any d n cap m a _ hn (by omega) C0.out).mono ?_
  rintro e w1 ⟨q, hq, rfl, C1, ho1⟩
  have hq11 : q ≤ 11 := by have := hq hm0; omega
  have V1 := hide (V0.out.out ho1 Hd.out)
  have U1 := hide (U0.out.out ho1 Hd.out)
  have O1 : Hid (Out d (d + 1) w w1) := (Out.of_below HB0.out).trans ho1
  clear hq ho1 C0 V0 U0 HB0
  go_wp2_with fail
  go_loopw [7, 8, 9] (fun v u i wr => ∃ (v0 u0 : Value) (ws cs : List Int) (k r : Nat), v0 = v ∧ u0 = u ∧ i = .int .i64 k ∧ r + k ≤ 11 ∧ Hid (goodI ws r) ∧ Hid (goodI cs r) ∧ Hid (IR wr w.heap.size v0 ws) ∧ Hid (IR wr w.heap.size u0 cs) ∧ Hid (v0.ownBlock ≠ u0.ownBlock) ∧ Hid (CurIn wr d a n cap) ∧ Hid (Out d (d + 1) w wr)) (fun _ _ i _ => (intOf i).toNat)
  case atStart => exact ⟨_, _, [], [], q, 0, rfl, rfl, rfl, by omega, ⟨Nat.le_refl _, fun x hx => by cases hx⟩, ⟨Nat.le_refl _, fun x hx => by cases hx⟩, V1, U1, N0, C1, O1⟩
  case round =>
    clear V1 U1 N0 C1 O1 hq11
    obtain ⟨v0, u0, ws, cs, k, r, rfl, rfl, rfl, hrk, Gw, Gc, V, U, NE, C, O⟩ := hrel
    by_cases hk : 0 < k
    · have hk' : (0 : Int) < (k : Int) := by omega
      go_wp2_with fail
      refine (l1Int_in d n cap a [0, 1, 1, 2, 3, 5, 10, 1000] _ _ hn (by decide) (by decide) (by decide) C.out).mono ?_
      rintro e w2 ⟨x, hx, rfl, C2, ho⟩
      have V2 := hide (V.out.out ho.out Hd.out)
      have U2 := hide (U.out.out ho.out Hd.out)
      have O2 := hide (O.out.trans ho.out)
      clear ho V U C O
      go_wp2_with (at_builtin; refine wpList_append_own_at _ rfl _ _ 24 rfl w.heap.size 3 i0 _ 1 8 Try.underlying24 hi0 hz0 hz1 hz2 rfl (by decide) _ _ _ rfl (V2.out.below ((Below.refl _ _).alloc (Nat.le_refl _) _)).1 ⟨w2.heap.size, 0, none⟩ 1 1 [.int .i64 x] rfl rfl (cell_one_at1 _ _ rfl _ _) (fun x hx => by simp at hx; rcases hx with rfl; rfl) (by unfold maxLen; have := Gw.out.1; omega) (by have := Gw.out.1; omega) (by have := O2.out.size; simp; omega) ?_; intro v3 w3 hown hgrow hnil hat)
      have V3 := hide ((V2.out.below ((Below.refl _ _).alloc (Nat.le_refl _) (.cells #[.int .i64 x] 3))).snoc hown hat)
      have U3 := hide ((U2.out.below ((Below.refl _ _).alloc (Nat.le_refl _) (.cells #[.int .i64 x] 3))).grown hgrow NE.out.symm)
      have NE3 : Hid (v3.ownBlock ≠ u0.ownBlock) := (U2.out.below ((Below.refl _ _).alloc (Nat.le_refl _) (.cells #[.int .i64 x] 3))).apart NE.out hat
      have O3 : Hid (Out d (d + 1) w w3) := Out.grownI (O2.out.trans (Out.of_below ((Below.refl _ _).alloc (Nat.le_refl _) _))) hgrow (fun k hk => V2.out.row k hk)
      have C3 : Hid (CurIn w3 d a n cap) := CurIn.grownI (C2.out.later ((Below.refl _ _).alloc (Nat.le_refl _) _)) hgrow (fun k hk => V2.out.row k hk) Hd.out Hall.out
      have Gw3 := hide (Gw.out.snoc hx)
      clear hown hgrow hnil hat V2 U2 NE O2 C2 Gw
      go_wp2_with fail
      refine (l1Int_in d n cap a [0, 1, 2, 5, 20, 100, 10000] _ _ hn (by decide) (by decide) (by decide) C3.out).mono ?_
      rintro e w4 ⟨y, hy, rfl, C4, ho⟩
      have V4 := hide (V3.out.out ho.out Hd.out)
      have U4 := hide (U3.out.out ho.out Hd.out)
      have O4 := hide (O3.out.trans ho.out)
      clear ho V3 U3 C3 O3
      have NS := hide NE3.out.symm
      clear NE3
      go_wp2_with (at_builtin; refine wpList_append_own_at _ rfl _ _ 24 rfl w.heap.size 3 i0 _ 1 8 Try.underlying24 hi0 hz0 hz1 hz2 rfl (by decide) _ _ _ rfl (U4.out.below ((Below.refl _ _).alloc (Nat.le_refl _) _)).1 ⟨w4.heap.size, 0, none⟩ 1 1 [.int .i64 y] rfl rfl (cell_one_at1 _ _ rfl _ _) (fun x hx => by simp at hx; rcases hx with rfl; rfl) (by unfold maxLen; have := Gc.out.1; omega) (by have := Gc.out.1; omega) (by have := O4.out.size; simp; omega) ?_; intro u5 w5 hown hgrow hnil hat)
      have U5 := hide ((U4.out.below ((Below.refl _ _).alloc (Nat.le_refl _) (.cells #[.int .i64 y] 3))).snoc hown hat)
      have V5 := hide ((V4.out.below ((Below.refl _ _).alloc (Nat.le_refl _) (.cells #[.int .i64 y] 3))).grown hgrow NS.out.symm)
      have NE5 : Hid (u5.ownBlock ≠ v3.ownBlock) := (V4.out.below ((Below.refl _ _).alloc (Nat.le_refl _) (.cells #[.int .i64 y] 3))).apart NS.out hat
      have O5 : Hid (Out d (d + 1) w w5) := Out.grownI (O4.out.trans (Out.of_below ((Below.refl _ _).alloc (Nat.le_refl _) _))) hgrow (fun k hk => U4.out.row k hk)
      have C5 : Hid (CurIn w5 d a n cap) := CurIn.grownI (C4.out.later ((Below.refl _ _).alloc (Nat.le_refl _) _)) hgrow (fun k hk => U4.out.row k hk) Hd.out Hall.out
      have Gc5 := hide (Gc.out.snoc hy)
      clear hown hgrow hnil hat U4 V4 NS O4 C4 Gc
      have N5 := hide NE5.out.symm
      clear NE5
      go_wp2
      go_roundw
      case rel => exact ⟨_, _, _, _, k - 1, r + 1, rfl, rfl, by go_num, by omega, Gw3, Gc5, V5, U5, N5, C5, O5⟩
      case measure => simp [intOf]; omega
    · have e : k = 0 := by omega
      subst e
      have hr11 : r ≤ 11 := by omega
      go_wp2_with fail
      refine (l1Int_in d n cap a [0, 1, 5, 10, 17, 100, 999, 10000] _ _ hn (by decide) (by decide) (by decide) C.out).mono ?_
      rintro e w2 ⟨z, hz, rfl, C2, ho⟩
      have V2 := hide (V.out.out ho.out Hd.out)
      have U2 := hide (U.out.out ho.out Hd.out)
      have O2 := hide (O.out.trans ho.out)
      clear ho V U C O
      go_wp2_with fail
      refine (l1Below_any d n cap 16 a _ hn (by decide) C2.out).mono ?_
      rintro e w3 ⟨t, ht, rfl, C3, ho⟩
      have V3 := hide (V2.out.out ho Hd.out)
      have U3 := hide (U2.out.out ho Hd.out)
      have O3 := hide (O2.out.trans ho)
      clear ho ht V2 U2 C2 O2
      by_cases t0 : t = 0
      · subst t0
        go_wp2_with fail
        refine (l1Int_in d n cap a [-1, 10001] _ _ hn (by decide) (by decide) (by decide) C3.out).mono ?_
        rintro e w4 ⟨z2, hz2, rfl, C4, ho⟩
        have V4 := hide (V3.out.out ho.out Hd.out)
        have U4 := hide (U3.out.out ho.out Hd.out)
        have O4 := hide (O3.out.trans ho.out)
        clear ho V3 U3 C3 O3
        go_wp2
        exact bodyPost_ret (v := .tuple #[.int .i64 z2, v0, u0]) (by simp [results, Try.results23, go_sem]) rfl ⟨_, _, _, _, _, rfl, hide hz2, hide (Gw.out.mono (by omega)), hide (Gc.out.mono (by omega)), V4, U4, NE, C4, O4⟩
      by_cases t1 : t = 1
      · subst t1
        have NS := hide NE.out.symm
        clear NE
        go_wp2_with (at_builtin; refine wpList_append_own_at _ rfl _ _ 24 rfl w.heap.size 3 i0 _ 1 8 Try.underlying24 hi0 hz0 hz1 hz2 rfl (by decide) _ _ _ rfl (U3.out.below ((Below.refl _ _).alloc (Nat.le_refl _) _)).1 ⟨w3.heap.size, 0, none⟩ 1 1 [.int .i64 1] rfl rfl (cell_one_at1 _ _ rfl _ _) (fun x hx => by simp at hx; rcases hx with rfl; rfl) (by unfold maxLen; have := Gc.out.1; omega) (by have := Gc.out.1; omega) (by have := O3.out.size; simp; omega) ?_; intro u5 w5 hown hgrow hnil hat)
        have U5 := hide ((U3.out.below ((Below.refl _ _).alloc (Nat.le_refl _) (.cells #[.int .i64 1] 3))).snoc hown hat)
        have V5 := hide ((V3.out.below ((Below.refl _ _).alloc (Nat.le_refl _) (.cells #[.int .i64 1] 3))).grown hgrow NS.out.symm)
        have NE5 : Hid (u5.ownBlock ≠ v0.ownBlock) := (V3.out.below ((Below.refl _ _).alloc (Nat.le_refl _) (.cells #[.int .i64 1] 3))).apart NS.out hat
        have O5 : Hid (Out d (d + 1) w w5) := Out.grownI (O3.out.trans (Out.of_below ((Below.refl _ _).alloc (Nat.le_refl _) _))) hgrow (fun k hk => U3.out.row k hk)
        have C5 : Hid (CurIn w5 d a n cap) := CurIn.grownI (C3.out.later ((Below.refl _ _).alloc (Nat.le_refl _) _)) hgrow (fun k hk => U3.out.row k hk) Hd.out Hall.out
        have Gc5 := hide (Gc.out.snoc (x := 1) (by omega))
        clear hown hgrow hnil hat U3 V3 NS O3 C3 Gc
        have N5 := hide NE5.out.symm
        go_wp2
        exact bodyPost_ret (v := .tuple #[.int .i64 z, v0, u5]) (by simp [results, Try.results23, go_sem]) rfl ⟨_, _, _, _, _, rfl, hide hz, hide (Gw.out.mono (by omega)), hide (Gc5.out.mono (by omega)), V5, U5, N5, C5, O5⟩
      by_cases t2 : t = 2
      · subst t2
        go_wp2_with fail
        refine (l1Int_in d n cap a [-1, 1001] _ _ hn (by decide) (by decide) (by decide) C3.out).mono ?_
        rintro e w4 ⟨x, hx, rfl, C4, ho⟩
        have V4 := hide (V3.out.out ho.out Hd.out)
        have U4 := hide (U3.out.out ho.out Hd.out)
        have O4 := hide (O3.out.trans ho.out)
        clear ho V3 U3 C3 O3
        go_wp2_with (first | (at_builtin; refine wpList_append_own_at _ rfl _ _ 24 rfl w.heap.size 3 i0 _ 1 8 Try.underlying24 hi0 hz0 hz1 hz2 rfl (by decide) _ _ _ rfl (V4.out.below ((Below.refl _ _).alloc (Nat.le_refl _) _)).1 ⟨w4.heap.size, 0, none⟩ 1 1 [.int .i64 x] rfl rfl (cell_one_at1 _ _ rfl _ _) (fun x hx => by simp at hx; rcases hx with rfl; rfl) (by unfold maxLen; have := Gw.out.1; omega) (by have := Gw.out.1; omega) (by have := O4.out.size; simp; omega) ?_; intro v5 w5 hown hgrow hnil hat; have V5 := hide ((V4.out.below ((Below.refl _ _).alloc (Nat.le_refl _) (.cells #[.int .i64 x] 3))).snoc hown hat); have U5 := hide ((U4.out.below ((Below.refl _ _).alloc (Nat.le_refl _) (.cells #[.int .i64 x] 3))).grown hgrow NE.out.symm); have NE5 : Hid (v5.ownBlock ≠ u0.ownBlock) := (U4.out.below ((Below.refl _ _).alloc (Nat.le_refl _) (.cells #[.int .i64 x] 3))).apart NE.out hat; have O5 : Hid (Out d (d + 1) w w5) := Out.grownI (O4.out.trans (Out.of_below ((Below.refl _ _).alloc (Nat.le_refl _) _))) hgrow (fun k hk => V4.out.row k hk); have C5 : Hid (CurIn w5 d a n cap) := CurIn.grownI (C4.out.later ((Below.refl _ _).alloc (Nat.le_refl _) _)) hgrow (fun k hk => V4.out.row k hk) Hd.out Hall.out; have Gw5 := hide (Gw.out.snoc hx); clear hown hgrow hnil hat V4 U4 NE O4 C4 Gw; have NS := hide NE5.out.symm; clear NE5) | (at_builtin; refine wpList_append_own_at _ rfl _ _ 24 rfl w.heap.size 3 i0 _ 1 8 Try.underlying24 hi0 hz0 hz1 hz2 rfl (by decide) _ _ _ rfl (U5.out.below ((Below.refl _ _).alloc (Nat.le_refl _) _)).1 ⟨w5.heap.size, 0, none⟩ 1 1 [.int .i64 1] rfl rfl (cell_one_at1 _ _ rfl _ _) (fun x hx => by simp at hx; rcases hx with rfl; rfl) (by unfold maxLen; have := Gc.out.1; omega) (by have := Gc.out.1; omega) (by have := O5.out.size; simp; omega) ?_; intro u6 w6 hown hgrow hnil hat))
        have U6 := hide ((U5.out.below ((Below.refl _ _).alloc (Nat.le_refl _) (.cells #[.int .i64 1] 3))).snoc hown hat)
        have V6 := hide ((V5.out.below ((Below.refl _ _).alloc (Nat.le_refl _) (.cells #[.int .i64 1] 3))).grown hgrow NS.out.symm)
        have NE6 : Hid (u6.ownBlock ≠ v5.ownBlock) := (V5.out.below ((Below.refl _ _).alloc (Nat.le_refl _) (.cells #[.int .i64 1] 3))).apart NS.out hat
        have O6 : Hid (Out d (d + 1) w w6) := Out.grownI (O5.out.trans (Out.of_below ((Below.refl _ _).alloc (Nat.le_refl _) _))) hgrow (fun k hk => U5.out.row k hk)
        have C6 : Hid (CurIn w6 d a n cap) := CurIn.grownI (C5.out.later ((Below.refl _ _).alloc (Nat.le_refl _) _)) hgrow (fun k hk => U5.out.row k hk) Hd.out Hall.out
        have Gc6 := hide (Gc.out.snoc (x := 1) (by omega))
        clear hown hgrow hnil hat U5 V5 NS O5 C5 Gc
        have N6 := hide NE6.out.symm
        go_wp2
        exact bodyPost_ret (v := .tuple #[.int .i64 z, v5, u6]) (by simp [results, Try.results23, go_sem]) rfl ⟨_, _, _, _, _, rfl, hide hz, hide (Gw5.out.mono (by omega)), hide (Gc6.out.mono (by omega)), V6, U6, N6, C6, O6⟩
      have b0 : ((t : Int) == 0) = false := by rw [beq_eq_false_iff_ne]; omega
      have b1 : ((t : Int) == 1) = false := by rw [beq_eq_false_iff_ne]; omega
      have b2 : ((t : Int) == 2) = false := by rw [beq_eq_false_iff_ne]; omega
      go_wp2
      exact bodyPost_ret (v := .tuple #[.int .i64 z, v0, u0]) (by simp [results, Try.results23, go_sem]) rfl ⟨_, _, _, _, _, rfl, hide hz, hide (Gw.out.mono (by omega)), hide (Gc.out.mono (by omega)), V3, U3, NE, C3, O3⟩
end Go.Proofs.Ytidjjgiecaoboaa
