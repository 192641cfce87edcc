/- FnEven: the walk. -/
import Derived.Test.YtidjjgiecaoboaaDrwF
import Derived.Test.YtidjjgiecaoboaaEvnP
import Derived.Test.YtidjjgiecaoboaaDvdI
namespace Go.Proofs.Ytidjjgiecaoboaa
open Go.RowKit Go.BigFrame
set_option linter.unusedVariables false
theorem at_any (n cap i : Nat) (a : Option Addr) (w : World) (hn : n ≤ 1048576) (hi : i ≤ 16) (hc : codeAll w a n) : Calls Try.prog 16 #[.slice a n cap, .int .i64 i] w fun e w' => ∃ x : Int, (0 ≤ x ∧ x ≤ 255) ∧ e = .returned (.int .i64 x) ∧ w' = w := by
  by_cases h : i < n
  · obtain ⟨b, off, x, rfl, h2, h3, h4⟩ := hc i h
    go_enter Try.func16, Try.ntmps16
    go_wp2
    go_ret
    exact ⟨x, by omega, rfl, rfl⟩
  · have e0 : ((i : Int) * 31 + (n : Int) * 7).tmod 256 = ((i : Int) * 31 + (n : Int) * 7) % 256 := Int.tmod_eq_emod_of_nonneg (by omega)
    clear hc
    go_enter Try.func16, Try.ntmps16
    go_wp2
    go_ret
    exact ⟨((i : Int) * 31 + (n : Int) * 7) % 256, by omega, by first | rfl | exact ret_int (by omega), rfl⟩
set_option maxRecDepth 100000 in
set_option maxHeartbeats 6400000 in
theorem fnEven_walk (n cap : Nat) (a : Option Addr) (w : World) (hl : n ≤ maxLen) (hc : codeAll w a n) :
    Calls Try.prog 4 #[.slice a n cap] w fun e w' => e = .returned (.bool true) ∧ Below w.heap.size w w' := by
  have hbig := fun wx => big_any n cap a wx
  by_cases hb : 1048576 < n
  · rw [decide_eq_true hb] at hbig
    have HB := hide hbig
    clear hbig hc hl
    go_enter Try.func4, Try.ntmps4
    go_wp2_with (go_at_call 8; refine (HB.out _).mono ?_; rintro e w ⟨rfl, rfl⟩)
    go_ret
    exact ⟨rfl, Below.refl _ _⟩
  rw [decide_eq_false hb] at hbig
  have HB := hide hbig
  have HD := hide (drawFair_any n cap a w (by omega) hc)
  have HC := hide hc
  have hn : n ≤ 1048576 := by omega
  obtain ⟨i0, hi0, hz0, hz1, hz2⟩ := infoD Try.infoDInt
  clear hbig hc hl hb
  go_enter Try.func4, Try.ntmps4
  go_wp2_with (first | (go_at_call 8; refine (HB.out _).mono ?_; rintro e w ⟨rfl, rfl⟩) | (go_at_call 13; refine HD.out.mono ?_; rintro e w0 ⟨z, v, u, s, ws, cs, sh, rfl, hz, Gw, Gc, Gs, V, U, S, B0⟩))
  have T1 := hide (Gw.out.ty (by omega))
  have T2 := hide (Gc.out.ty (by omega))
  have T3 := hide (Gs.out.ty (by omega))
  obtain ⟨r, hr⟩ := bool_iff (fairP z ws cs sh)
  have H1 := hide (fun wx hb => iFair_any z ws.length cs.length sh.length (ofInts ws) (ofInts cs) (ofInts sh) v u s 0 w0.heap.size 0 w0.heap.size 0 w0.heap.size wx r hz.out T1.out T2.out T3.out (V.out.below hb) (U.out.below hb) (S.out.below hb) (by rw [intL_of, intL_of, intL_of]; exact hr))
  have H2 := hide (fun wx hb => sFair_any z ws.length cs.length sh.length (ofInts ws) (ofInts cs) (ofInts sh) v u s 0 w0.heap.size 0 w0.heap.size 0 w0.heap.size wx r T1.out T2.out T3.out (V.out.below hb) (U.out.below hb) (S.out.below hb) (by rw [intL_of, intL_of, intL_of]; exact hr))
  have e0 : (r != r) = false := by simp
  obtain ⟨av, pv, hv, -⟩ := V.out
  subst hv
  obtain ⟨au, pu, hu, -⟩ := U.out
  subst hu
  obtain ⟨aS, pS, hs, -⟩ := S.out
  subst hs
  clear T1 T2 T3 Gw Gc Gs V U S hr HD HB hz
  go_wp2_with fail
  refine (H1.out w0 (Below.refl _ _)).mono ?_
  rintro e w2 ⟨rfl, hb2⟩
  have B2 := hide hb2
  clear hb2
  go_wp2_with fail
  refine (H2.out w2 B2.out).mono ?_
  rintro e w1 ⟨rfl, hb3⟩
  have B1 : Hid (Below w.heap.size w w1) := B0.out.trans ((B2.out.trans (hb3.mono B2.out.size)).mono B0.out.size)
  clear hb3 B2 B0 H1 H2
  have HC1 := hide (HC.out.later B1.out)
  clear HC
  go_wp2_with fail
  refine (at_any n cap 2 a w1 hn (by omega) HC1.out).mono ?_
  rintro e w3 ⟨x, hx, rfl, rfl⟩
  obtain ⟨kq, hkq⟩ : ∃ kq : Nat, x.tmod 9 = (kq : Int) := ⟨(x % 9).toNat, by rw [Int.tmod_eq_emod_of_nonneg hx.1]; omega⟩
  have hkq8 : kq ≤ 8 := by rw [Int.tmod_eq_emod_of_nonneg hx.1] at hkq; omega
  clear hx
  go_wp2_with fail
  refine (at_any n cap 3 a _ hn (by omega) HC1.out).mono ?_
  rintro e w4 ⟨y, hy, rfl, rfl⟩
  obtain ⟨m, hm⟩ : ∃ m : Int, (y * 7).tmod 1000 = m := ⟨_, rfl⟩
  have hm9 : 0 ≤ m ∧ m ≤ 999 := by rw [Int.tmod_eq_emod_of_nonneg (by omega)] at hm; omega
  obtain ⟨w1, rfl⟩ : ∃ w, w = w4 := ⟨_, rfl⟩
  have IA : Hid (IR ((w1.alloc (.cells #[] 3)).alloc (.cells #[] 3)) w1.heap.size (.slice (some ⟨w1.heap.size, 0, none⟩) 0 0) (List.replicate 0 3)) := (IR.lit w1 w1.heap.size (Nat.le_refl _)).below ((Below.refl _ _).alloc (Nat.le_refl _) _)
  have IB : Hid (IR ((w1.alloc (.cells #[] 3)).alloc (.cells #[] 3)) w1.heap.size (.slice (some ⟨w1.heap.size + 1, 0, none⟩) 0 0) (List.replicate 0 1000)) := by
    have h := IR.lit (w1.alloc (.cells #[] 3)) w1.heap.size (by simp)
    have h2 : IR ((w1.alloc (.cells #[] 3)).alloc (.cells #[] 3)) w1.heap.size (.slice (some ⟨w1.heap.size + 1, 0, none⟩) 0 0) [] := by simpa using h
    exact h2
  have NN : Hid ((Value.slice (some ⟨w1.heap.size, 0, none⟩) 0 0).ownBlock ≠ (Value.slice (some ⟨w1.heap.size + 1, 0, none⟩) 0 0).ownBlock) := by
    show ¬ _ = _
    simp [Value.ownBlock]
  have BB : Hid (Below w1.heap.size w1 ((w1.alloc (.cells #[] 3)).alloc (.cells #[] 3))) := ((Below.refl _ _).alloc (Nat.le_refl _) _).alloc (by simp) _
  clear HC1
  go_wp2
  go_loopw [9, 10, 11] (fun v u i wr => ∃ (v0 u0 : Value) (q : Nat), v0 = v ∧ u0 = u ∧ i = .int .i64 q ∧ q ≤ kq + 1 ∧ Hid (IR wr w1.heap.size v0 (List.replicate q 3)) ∧ Hid (IR wr w1.heap.size u0 (List.replicate q 1000)) ∧ Hid (v0.ownBlock ≠ u0.ownBlock) ∧ Hid (Below w1.heap.size w1 wr)) (fun _ _ i _ => kq + 1 - (intOf i).toNat)
  case atStart => exact ⟨_, _, 0, rfl, rfl, rfl, by omega, IA, IB, NN, BB⟩
  case round =>
    clear IA IB NN BB
    obtain ⟨v0, u0, q, rfl, rfl, rfl, hq, V, U, NE, HB⟩ := hrel
    by_cases hlt : q < kq + 1
    · have hlt' : (q : Int) < 1 + (kq : Int) := by omega
      go_wp2_with (first | (at_builtin; refine wpList_append_own_at _ rfl _ _ 24 rfl w1.heap.size 3 i0 _ 1 8 Try.underlying24 hi0 hz0 hz1 hz2 rfl (by decide) _ _ _ rfl (V.out.below ((Below.refl _ _).alloc (Nat.le_refl _) _)).1 ⟨wr.heap.size, 0, none⟩ 1 1 [.int .i64 3] rfl rfl (cell_new1 (t := 3) (Below.refl _ _)) (fun x hx => by first | (simp at hx; rcases hx with rfl; rfl) | (simp at hx; subst hx; rfl) | (rw [List.mem_singleton] at hx; subst hx; rfl)) (by first | (rw [List.length_replicate]; unfold maxLen; omega) | (simp [maxLen]; omega) | (unfold maxLen; omega)) (by first | (rw [List.length_replicate]; omega) | (simp; omega) | omega) (by have := HB.out.size; first | (simp; omega) | simp | omega) ?_; intro v5 w5 hown hgrow hnil hat; have V50 := hide ((V.out.below ((Below.refl _ _).alloc (Nat.le_refl _) (.cells #[.int .i64 3] 3))).snoc hown hat); have U5 := hide ((U.out.below ((Below.refl _ _).alloc (Nat.le_refl _) (.cells #[.int .i64 3] 3))).grown hgrow NE.out.symm); have NE5 : Hid (v5.ownBlock ≠ u0.ownBlock) := (U.out.below ((Below.refl _ _).alloc (Nat.le_refl _) (.cells #[.int .i64 3] 3))).apart NE.out hat; have B5 : Hid (Below w1.heap.size w1 w5) := Below.grown (HB.out.alloc HB.out.size (.cells #[.int .i64 3] 3)) hgrow (by have := HB.out.size; first | (simp; omega) | simp | omega) (fun k hk => V.out.row k hk); have V5 : Hid (IR w5 w1.heap.size v5 (List.replicate (q + 1) 3)) := (List.replicate_succ' (n := q) (a := (3 : Int))).symm ▸ V50.out; clear hown hgrow hnil hat V U NE HB V50; have NS := hide NE5.out.symm; clear NE5) | (at_builtin; refine wpList_append_own_at _ rfl _ _ 24 rfl w1.heap.size 3 i0 _ 1 8 Try.underlying24 hi0 hz0 hz1 hz2 rfl (by decide) _ _ _ rfl (U5.out.below ((Below.refl _ _).alloc (Nat.le_refl _) _)).1 ⟨w5.heap.size, 0, none⟩ 1 1 [.int .i64 1000] rfl rfl (cell_new1 (t := 3) (Below.refl _ _)) (fun x hx => by first | (simp at hx; rcases hx with rfl; rfl) | (simp at hx; subst hx; rfl) | (rw [List.mem_singleton] at hx; subst hx; rfl)) (by first | (rw [List.length_replicate]; unfold maxLen; omega) | (simp [maxLen]; omega) | (unfold maxLen; omega)) (by first | (rw [List.length_replicate]; omega) | (simp; omega) | omega) (by have := B5.out.size; first | (simp; omega) | simp | omega) ?_; intro u6 w6 hown hgrow hnil hat))
      have U60 := hide ((U5.out.below ((Below.refl _ _).alloc (Nat.le_refl _) (.cells #[.int .i64 1000] 3))).snoc hown hat)
      have V6 := hide ((V5.out.below ((Below.refl _ _).alloc (Nat.le_refl _) (.cells #[.int .i64 1000] 3))).grown hgrow NS.out.symm)
      have NE6 : Hid (u6.ownBlock ≠ v5.ownBlock) := (V5.out.below ((Below.refl _ _).alloc (Nat.le_refl _) (.cells #[.int .i64 1000] 3))).apart NS.out hat
      have B6 : Hid (Below w1.heap.size w1 w6) := Below.grown (B5.out.alloc B5.out.size (.cells #[.int .i64 1000] 3)) hgrow (by have := B5.out.size; first | (simp; omega) | simp | omega) (fun k hk => U5.out.row k hk)
      have U6 : Hid (IR w6 w1.heap.size u6 (List.replicate (q + 1) 1000)) := (List.replicate_succ' (n := q) (a := (1000 : Int))).symm ▸ U60.out
      clear hown hgrow hnil hat U5 V5 NS B5 U60
      have N6 := hide NE6.out.symm
      clear NE6
      go_wp2
      go_roundw
      case rel => exact ⟨_, _, q + 1, rfl, rfl, by go_num, by omega, V6, U6, N6, B6⟩
      case measure => simp [intOf]; omega
    · have e : q = kq + 1 := by omega
      subst e
      have hlt' : ¬ ((kq + 1 : Nat) : Int) < 1 + (kq : Int) := by omega
      have hr := right_rep (k := kq + 1) (m := m) (by omega) hm9
      have hfair := even_fair (k := kq + 1) (m := m) (by omega) (by omega) hm9
      have hev := even_div (k := kq + 1) (m := m) (by omega) (by omega) hm9
      have hdl : (divL m (List.replicate (kq + 1) 3) (List.replicate (kq + 1) 1000)).length = kq + 1 := by unfold divL; rw [ofFn_len, List.length_replicate]
      have hgi : ∀ i, i < kq + 1 → gI (divL m (List.replicate (kq + 1) 3) (List.replicate (kq + 1) 1000)) i = divF (kq + 1) (gI (List.replicate (kq + 1) 3)) (gI (List.replicate (kq + 1) 1000)) m.toNat m (fun _ => 0) i := fun i hi => by
        unfold divL
        rw [List.length_replicate, gI_ofFn2 hi]
      obtain ⟨hzk, hzl⟩ := div_small (n := m) (z := divL m (List.replicate (kq + 1) 3) (List.replicate (kq + 1) 1000)) ⟨fun h => (h hr).elim, fun _ => rfl⟩
      have T1 := hide (ofInts_tyS (l := List.replicate (kq + 1) 3) (fun x hx => by rw [(List.mem_replicate.1 hx).2]; exact ⟨by decide, by decide⟩) (by rw [List.length_replicate]; unfold maxLen; omega))
      have T2 := hide (ofInts_tyS (l := List.replicate (kq + 1) 1000) (fun x hx => by rw [(List.mem_replicate.1 hx).2]; exact ⟨by decide, by decide⟩) (by rw [List.length_replicate]; unfold maxLen; omega))
      have T3 := hide (ofInts_tyS hzk (by unfold maxLen; omega))
      have hmi : inK .i64 m := show -9223372036854775808 ≤ m ∧ m ≤ 9223372036854775807 by omega
      have VU := hide V.out.uS
      have UU := hide U.out.uS
      have H1 := hide (iDivide_any m _ _ _ _ v0 u0 0 wr.heap.size 0 wr.heap.size wr hmi T1.out T2.out VU.out UU.out (divL m (List.replicate (kq + 1) 3) (List.replicate (kq + 1) 1000)) (by rw [intL_of, intL_of]; exact ⟨fun h => (h hr).elim, fun _ => rfl⟩))
      have H2 : Hid (∀ (wx : World) (c : Value) (lo hi : Nat), Below wr.heap.size wr wx → uS wx lo hi 1 (divL m (List.replicate (kq + 1) 3) (List.replicate (kq + 1) 1000)).length (ofInts (divL m (List.replicate (kq + 1) 3) (List.replicate (kq + 1) 1000))) c → Calls Try.prog 14 #[.int .i64 m, v0, u0, c] wx fun e w' => e = .returned (.bool true) ∧ Below wx.heap.size wx w') := fun wx c lo hi hb hu => iFair_any m _ _ _ _ _ _ v0 u0 c 0 wr.heap.size 0 wr.heap.size lo hi wx true hmi T1.out T2.out T3.out (VU.out.below hb) (UU.out.below hb) hu (by rw [intL_of, intL_of, intL_of]; exact ⟨fun _ => hfair, fun _ => rfl⟩)
      obtain ⟨av, pv, hv, -⟩ := VU.out
      subst hv
      obtain ⟨au, pu, hu, -⟩ := UU.out
      subst hu
      have HEV : Hid (∀ i, i < kq + 1 → m / ((kq + 1 : Nat) : Int) ≤ gI (divL m (List.replicate (kq + 1) 3) (List.replicate (kq + 1) 1000)) i ∧ gI (divL m (List.replicate (kq + 1) 3) (List.replicate (kq + 1) 1000)) i ≤ m / ((kq + 1 : Nat) : Int) + 1) := fun i hi => by rw [hgi i hi]; exact hev i hi
      have hq0 : 0 ≤ m / ((kq + 1 : Nat) : Int) := Int.ediv_nonneg hm9.1 (by omega)
      have hq1 : m / ((kq + 1 : Nat) : Int) ≤ m := Int.ediv_le_self _ hm9.1
      have hqt : m.tdiv (1 + (kq : Int)) = m / ((kq + 1 : Nat) : Int) := by rw [Int.tdiv_eq_ediv_of_nonneg hm9.1]; congr 1; omega
      have hk0 : ¬ (1 + (kq : Int)) = 0 := by omega
      have hk0' : ((1 + (kq : Int)) == 0) = false := by rw [beq_eq_false_iff_ne]; exact hk0
      generalize m / ((kq + 1 : Nat) : Int) = Q at *
      rw [hdl] at H1 H2 T3
      simp only [List.length_replicate] at H1 H2
      generalize divL m (List.replicate (kq + 1) 3) (List.replicate (kq + 1) 1000) = D at *
      clear V U NE VU UU hr hfair hev hgi hzk hzl T1 T2 hdl
      go_wp2_with fail
      refine H1.out.mono ?_
      rintro e w5 ⟨c, S, rfl, ho, hS, hb5⟩
      obtain ⟨ca, cp, rfl⟩ := ho.slice
      have R5 := hide (ho.u (lo := wr.heap.size) (hi := w5.heap.size) hS.2)
      have B5 := hide hb5
      have B5w : Hid (Below w.heap.size w w5) := B1.out.trans ((HB.out.trans (hb5.mono HB.out.size)).mono B1.out.size)
      clear ho hS hb5 H1 HB B1
      go_wp2
      go_loopw [13] (fun i wx => ∃ t : Nat, t ≤ kq + 1 ∧ i = .int .i64 t ∧ Hid (Below w5.heap.size w5 wx)) (fun i _ => kq + 1 - (intOf i).toNat)
      case atStart => exact ⟨0, Nat.zero_le _, rfl, Below.refl _ _⟩
      case round =>
        obtain ⟨w6, rfl⟩ : ∃ w6, w6 = wr := ⟨_, rfl⟩
        obtain ⟨t, ht, rfl, B6⟩ := hrel
        by_cases htl : t < kq + 1
        · have htz : (t : Int) < ((kq + 1 : Nat) : Int) := by omega
          obtain ⟨b9, off9, rfl, hb9, -⟩ := (R5.out.below B6.out).cells (by omega)
          have q9 := cell_int T3.out (R5.out.below B6.out) t htl
          rw [intL_of] at q9
          have hE := HEV.out t htl
          have hwQ : IntKind.i64.wrap Q = Q := by rw [IntKind.wrap_i64]; omega
          have hwQ1 : IntKind.i64.wrap (Q + 1) = Q + 1 := by rw [IntKind.wrap_i64]; omega
          generalize gI D t = X at *
          have z1 : decide (X < Q) = false := decide_eq_false (by omega)
          have z2 : decide (X > Q + 1) = false := decide_eq_false (by omega)
          have z3 : ¬ X < Q := by omega
          have z4 : ¬ Q + 1 < X := by omega
          clear R5 T3 HEV H2
          go_wp2
          go_quiet (fail)
          go_wp2
          go_roundw
          case rel => exact ⟨t + 1, by omega, by go_num, below_drewN B6.out _⟩
          case measure => simp [intOf]; omega
        · have e : t = kq + 1 := by omega
          subst e
          have z1 : (((kq + 1 : Nat) : Int) == 1 + (kq : Int)) = true := by rw [beq_iff_eq]; omega
          have HX := hide (H2.out w6 _ _ _ (B5.out.trans (B6.out.mono B5.out.size)) (R5.out.below B6.out))
          have B7 : Hid (Below w.heap.size w w6) := B5w.out.trans (B6.out.mono B5w.out.size)
          clear H2 R5 HEV T3
          go_wp2_with fail
          refine HX.out.mono ?_
          rintro e w7 ⟨rfl, hb7⟩
          have B8 : Hid (Below w.heap.size w w7) := B7.out.trans (hb7.mono B7.out.size)
          clear HX hb7
          go_wp2
          go_ret
          exact ⟨rfl, B8.out⟩
end Go.Proofs.Ytidjjgiecaoboaa
