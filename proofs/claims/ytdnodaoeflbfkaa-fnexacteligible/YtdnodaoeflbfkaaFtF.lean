/- Who may run it: Eligible, on both sides. -/
import Derived.Test.YtdnodaoeflbfkaaFtE
namespace Go.Proofs.Ytdnodaoeflbfkaa
open Go.RowKit Go.BigFrame
set_option linter.unusedVariables false

set_option maxRecDepth 20000 in
set_option maxHeartbeats 1600000 in
theorem sEligible_any (W : WaD) (I : IsD) (xs ys : List Value) (w : World) (hq : okWa W) (hq' : okIs1 I) (hx : waH w W xs) (hy : isH w I ys) :
    Calls Try.prog 24 #[.agg xs.toArray, .agg ys.toArray] w fun e w' => e = .returned (.bool (eligB W I)) ∧ Below w.heap.size w w' := by
  have HC0 : Hid (∀ wx, Below w.heap.size w wx → Calls Try.prog 17 #[.agg xs.toArray] wx fun e w' => e = .returned (.bool (wanB W)) ∧ Below wx.heap.size wx w') := fun wx hb => sWantOk_any W xs wx hq (hx.below hb)
  have HC1 : Hid (∀ wx, Below w.heap.size w wx → Calls Try.prog 40 #[.agg ys.toArray] wx fun e w' => e = .returned (.bool (islB I)) ∧ Below wx.heap.size wx w') := fun wx hb => sIslandOk_any I ys wx hq' (hy.below hb)
  obtain ⟨c1, c2, c3, rfl, ⟨a1, p1, rfl, h1⟩, ⟨a2, p2, rfl, h2⟩, a3, p3, rfl, h3⟩ := hx
  obtain ⟨d1, d2, rfl, ⟨b1, r1, rfl, g1⟩, b2, r2, rfl, g2⟩ := hy
  obtain ⟨z, T, B, L⟩ := W
  obtain ⟨s, G, S, y⟩ := I
  have E : Hid (eligB (z, T, B, L) (s, G, S, y) = (wanB (z, T, B, L) && islB (s, G, S, y) && matchB T G && bornB B S)) := rfl
  dsimp only at *
  have HC2 : Hid (∀ wx, Below w.heap.size w wx → Calls Try.prog 78 #[.slice a1 T.length p1, .slice b1 G.length r1] wx fun e w' => e = .returned (.bool (matchB T G)) ∧ Below wx.heap.size wx w') := fun wx hb => smatches_any a1 p1 T b1 r1 G wx hq.2.1.1 hq.2.1.2 (h1.below hb) hq'.2.1.1 hq'.2.1.2 (rowOf_below g1 hb)
  have HC3 : Hid (∀ x wx, Below w.heap.size w wx → Calls Try.prog 79 #[.slice a2 B.length p2, .string x] wx fun e w' => e = .returned (.bool (amongB B x)) ∧ w' = wx) := fun x wx hb => samong_any a2 p2 B x wx hq.2.2.1.1 (h2.below hb)
  have HS := hide g2
  have hl := hq'.2.2.1.1
  unfold maxLen at hl
  simp only at hl
  have OX : Hid (objU (w.alloc (.cells #[.int .i64 z, .slice a1 T.length p1, .slice a2 B.length p2, .slice a3 L.length p3] 41)) w.heap.size 41 [.int .i64 z, .slice a1 T.length p1, .slice a2 B.length p2, .slice a3 L.length p3]) := objU.new _ _ _
  have OX' := hide (OX.out.below (w' := (w.alloc (.cells #[.int .i64 z, .slice a1 T.length p1, .slice a2 B.length p2, .slice a3 L.length p3] 41)).alloc (.cells #[.string s, .slice b1 G.length r1, .slice b2 S.length r2, .int .i64 y] 54)) ((Below.refl _ _).alloc (Nat.le_refl _) _))
  have OY : Hid (objU ((w.alloc (.cells #[.int .i64 z, .slice a1 T.length p1, .slice a2 B.length p2, .slice a3 L.length p3] 41)).alloc (.cells #[.string s, .slice b1 G.length r1, .slice b2 S.length r2, .int .i64 y] 54)) (w.heap.size + 1) 54 [.string s, .slice b1 G.length r1, .slice b2 S.length r2, .int .i64 y]) := objU.new2 _ _ (by simp)
  have BX : Hid (Below w.heap.size w ((w.alloc (.cells #[.int .i64 z, .slice a1 T.length p1, .slice a2 B.length p2, .slice a3 L.length p3] 41)).alloc (.cells #[.string s, .slice b1 G.length r1, .slice b2 S.length r2, .int .i64 y] 54))) := ((Below.refl _ _).alloc (Nat.le_refl _) _).alloc (by simp) _
  clear h1 h2 h3 g1 g2 hq hq' OX
  generalize eligB (z, T, B, L) (s, G, S, y) = R at *
  generalize wanB (z, T, B, L) = q0 at *
  generalize islB (s, G, S, y) = q1 at *
  generalize matchB T G = q2 at *
  go_enter Try.func24, Try.ntmps24
  have x0 := OX'.out.cell 0 _ rfl
  have x1 := OX'.out.cell 1 _ rfl
  have x2 := OX'.out.cell 2 _ rfl
  have x3 := OX'.out.cell 3 _ rfl
  go_wp2_with fail
  refine (HC0.out _ BX.out).mono ?_
  rintro e w1 ⟨rfl, hb1⟩
  have OX1 := hide (OX'.out.below hb1)
  have OY1 := hide (OY.out.below hb1)
  have BX1 : Hid (Below w.heap.size w w1) := BX.out.trans (hb1.mono BX.out.size)
  clear OX' OY BX hb1 x0 x1 x2 x3
  cases q0 with
  | false =>
    clear OX1 OY1
    go_wp2
    go_ret
    exact ⟨ret_bool E.out.symm, BX1.out⟩
  | true =>
    have x0 := OY1.out.cell 0 _ rfl
    have x1 := OY1.out.cell 1 _ rfl
    have x2 := OY1.out.cell 2 _ rfl
    have x3 := OY1.out.cell 3 _ rfl
    go_wp2_with fail
    refine (HC1.out _ BX1.out).mono ?_
    rintro e w2 ⟨rfl, hb2⟩
    have OX2 := hide (OX1.out.below hb2)
    have OY2 := hide (OY1.out.below hb2)
    have BX2 : Hid (Below w.heap.size w w2) := BX1.out.trans (hb2.mono BX1.out.size)
    clear OX1 OY1 BX1 hb2 x0 x1 x2 x3
    cases q1 with
    | false =>
      clear OX2 OY2
      go_wp2
      go_ret
      exact ⟨ret_bool E.out.symm, BX2.out⟩
    | true =>
      have x1 := OX2.out.cell 1 _ rfl
      have y1 := OY2.out.cell 1 _ rfl
      go_wp2_with fail
      refine (HC2.out _ BX2.out).mono ?_
      rintro e w3 ⟨rfl, hb3⟩
      have OX3 := hide (OX2.out.below hb3)
      have OY3 := hide (OY2.out.below hb3)
      have BX3 : Hid (Below w.heap.size w w3) := BX2.out.trans (hb3.mono BX2.out.size)
      clear OX2 OY2 BX2 hb3 x1 y1
      cases q2 with
      | false =>
        clear OX3 OY3
        go_wp2
        go_ret
        exact ⟨ret_bool E.out.symm, BX3.out⟩
      | true =>
        have E2 : Hid (R = bornB B S) := by show _ = _; rw [E.out]; simp
        clear E
        go_wp2
        go_loopw [5] (fun i wr => ∃ (k : Nat), k ≤ S.length ∧ i = .int .i64 k ∧ Hid (∀ j, j < k → amongB B (ssAt S j) = true) ∧ Hid (objU wr w.heap.size 41 [.int .i64 z, .slice a1 T.length p1, .slice a2 B.length p2, .slice a3 L.length p3]) ∧ Hid (objU wr (w.heap.size + 1) 54 [.string s, .slice b1 G.length r1, .slice b2 S.length r2, .int .i64 y]) ∧ Hid (Below w.heap.size w wr)) (fun i _ => S.length - (intOf i).toNat)
        case atStart => exact ⟨0, Nat.zero_le _, rfl, fun j h => by omega, OX3, OY3, BX3⟩
        case round =>
          clear OX3 OY3 BX3
          obtain ⟨k, hk, rfl, Ho, HO, HY, HB⟩ := hrel
          have o2 := HO.out.cell 2 _ rfl
          have y2 := HY.out.cell 2 _ rfl
          by_cases hlt : k < S.length
          · obtain ⟨b, off, rfl, hat⟩ := (HS.out.below HB.out) (by omega)
            have c0 := strAt_cells hat k hlt
            have Hy : Hid (amongB B (ssAt S k) = false → bornB B S = false) := fun h => bornB_bad hlt h
            have Hn : Hid (amongB B (ssAt S k) = true → ∀ j, j < k + 1 → amongB B (ssAt S j) = true) := fun h j hjq => by
              by_cases e : j = k
              · subst e; exact h
              · exact Ho.out j (by omega)
            have HCx : Hid (∀ wx, Below wr.heap.size wr wx → Calls Try.prog 79 #[.slice a2 B.length p2, .string (ssAt S k)] wx fun e w' => e = .returned (.bool (amongB B (ssAt S k))) ∧ w' = wx) := fun wx hb => HC3.out _ wx (HB.out.trans (hb.mono HB.out.size))
            clear Ho hat
            generalize amongB B (ssAt S k) = r at *
            generalize ssAt S k = K at *
            cases r with
            | false =>
              have HN := hide (Hy.out (by first | rfl | trivial))
              clear Hy Hn
              go_wp2
              go_quiet (first | (go_at_call 79; exact Calls.quiet_of_same (HCx.out _ (by repeat (first | with_reducible exact Below.refl _ _ | with_reducible refine below_drewN ?_ _)))))
              go_wp2
              go_ret
              exact ⟨ret_bool (by rw [E2.out, HN.out]), below_drewN HB.out _⟩
            | true =>
              have HN := hide (Hn.out (by first | rfl | trivial))
              clear Hy Hn
              go_wp2
              go_quiet (first | (go_at_call 79; exact Calls.quiet_of_same (HCx.out _ (by repeat (first | with_reducible exact Below.refl _ _ | with_reducible refine below_drewN ?_ _)))))
              go_wp2
              go_roundw
              case rel => exact ⟨k + 1, by omega, by go_num, HN, HO.out.below (below_drewN (Below.refl _ _) _), HY.out.below (below_drewN (Below.refl _ _) _), below_drewN HB.out _⟩
              case measure => simp [intOf]; omega
          · have e : k = S.length := by omega
            subst e
            have HN := hide (bornB_end Ho.out)
            clear Ho HS HC3
            go_wp2
            go_ret
            exact ⟨ret_bool (by rw [E2.out, HN.out]), HB.out⟩
set_option maxRecDepth 20000 in
set_option maxHeartbeats 1600000 in
theorem iEligible_any (W : WaD) (I : IsD) (xs ys : List Value) (w : World) (hq : okWa W) (hq' : okIs1 I) (hx : waH w W xs) (hy : isH w I ys) :
    Calls Try.prog 26 #[.agg xs.toArray, .agg ys.toArray] w fun e w' => e = .returned (.bool (eligB W I)) ∧ Below w.heap.size w w' := by
  obtain ⟨c1, c2, c3, rfl, ⟨a1, p1, rfl, h1⟩, ⟨a2, p2, rfl, h2⟩, a3, p3, rfl, h3⟩ := hx
  obtain ⟨d1, d2, rfl, ⟨b1, r1, rfl, g1⟩, b2, r2, rfl, g2⟩ := hy
  obtain ⟨z, T, B, L⟩ := W
  obtain ⟨s, G, S, y⟩ := I
  have E : Hid (eligB (z, T, B, L) (s, G, S, y) = (wanB (z, T, B, L) && islB (s, G, S, y) && matchB T G && bornB B S)) := rfl
  dsimp only at *
  have HC0 : Hid (∀ wx, Below w.heap.size w wx → Calls Try.prog 81 #[.agg #[.int .i64 z, .slice a1 T.length p1, .slice a2 B.length p2, .slice a3 L.length p3, .string s, .slice b1 G.length r1, .slice b2 S.length r2, .int .i64 y]] wx fun e w' => e = .returned (.bool (!(wanB (z, T, B, L) && islB (s, G, S, y)))) ∧ Below wx.heap.size wx w') := fun wx hb => notRight_any z a1 a2 a3 b1 b2 p1 p2 p3 r1 r2 T B L s G S y wx hq hq' (waC.below ⟨⟨_, _, rfl, h1⟩, ⟨_, _, rfl, h2⟩, _, _, rfl, h3⟩ hb) (isC.below ⟨⟨_, _, rfl, g1⟩, _, _, rfl, g2⟩ hb)
  have HC1 : Hid (∀ wx, Below w.heap.size w wx → Calls Try.prog 82 #[.agg #[.int .i64 z, .slice a1 T.length p1, .slice a2 B.length p2, .slice a3 L.length p3, .string s, .slice b1 G.length r1, .slice b2 S.length r2, .int .i64 y]] wx fun e w' => e = .returned (.bool (!matchB T G)) ∧ Below wx.heap.size wx w') := fun wx hb => notMeant_any z a1 a2 a3 b1 b2 p1 p2 p3 r1 r2 T B L s G S y wx hq hq' (h1.below hb) (rowOf_below g1 hb)
  have HC2 : Hid (∀ wx, Below w.heap.size w wx → Calls Try.prog 83 #[.agg #[.int .i64 z, .slice a1 T.length p1, .slice a2 B.length p2, .slice a3 L.length p3, .string s, .slice b1 G.length r1, .slice b2 S.length r2, .int .i64 y]] wx fun e w' => e = .returned (.bool (!bornB B S)) ∧ Below wx.heap.size wx w') := fun wx hb => notBorne_any z a1 a2 a3 b1 b2 p1 p2 p3 r1 r2 T B L s G S y wx hq hq' (h2.below hb) (g2.below hb)
  clear h1 h2 h3 g1 g2 hq hq'
  generalize eligB (z, T, B, L) (s, G, S, y) = R at *
  generalize (wanB (z, T, B, L) && islB (s, G, S, y)) = q0 at *
  generalize matchB T G = q1 at *
  generalize bornB B S = q2 at *
  go_enter Try.func26, Try.ntmps26
  go_wp2
  go_loopw [19] (fun i wr => ∃ (x : Int), i = .int .i64 x ∧ (x = 0 ∨ (x = 1 ∧ q0 = true) ∨ (x = 2 ∧ q0 = true ∧ q1 = true) ∨ (x = 3 ∧ q0 = true ∧ q1 = true ∧ q2 = true)) ∧ Hid (∃ t, objU wr (w.heap.size + 3) t [.func (.func 81) #[(.agg #[.int .i64 z, .slice a1 T.length p1, .slice a2 B.length p2, .slice a3 L.length p3, .string s, .slice b1 G.length r1, .slice b2 S.length r2, .int .i64 y])] #[], .func (.func 82) #[(.agg #[.int .i64 z, .slice a1 T.length p1, .slice a2 B.length p2, .slice a3 L.length p3, .string s, .slice b1 G.length r1, .slice b2 S.length r2, .int .i64 y])] #[], .func (.func 83) #[(.agg #[.int .i64 z, .slice a1 T.length p1, .slice a2 B.length p2, .slice a3 L.length p3, .string s, .slice b1 G.length r1, .slice b2 S.length r2, .int .i64 y])] #[]]) ∧ Hid (Below w.heap.size w wr)) (fun i _ => (3 - intOf i).toNat)
  case atStart => exact ⟨0, rfl, .inl rfl, ⟨_, objU.new2 _ [.func (.func 81) #[(.agg #[.int .i64 z, .slice a1 T.length p1, .slice a2 B.length p2, .slice a3 L.length p3, .string s, .slice b1 G.length r1, .slice b2 S.length r2, .int .i64 y])] #[], .func (.func 82) #[(.agg #[.int .i64 z, .slice a1 T.length p1, .slice a2 B.length p2, .slice a3 L.length p3, .string s, .slice b1 G.length r1, .slice b2 S.length r2, .int .i64 y])] #[], .func (.func 83) #[(.agg #[.int .i64 z, .slice a1 T.length p1, .slice a2 B.length p2, .slice a3 L.length p3, .string s, .slice b1 G.length r1, .slice b2 S.length r2, .int .i64 y])] #[]] (by simp)⟩, (by repeat (first | exact Below.refl _ _ | refine Below.alloc ?_ (by simp <;> omega) _))⟩
  case round =>
    obtain ⟨x, rfl, hk, HO, HB⟩ := hrel
    obtain ⟨t, hO⟩ := HO.out
    rcases hk with rfl | ⟨rfl, rfl⟩ | ⟨rfl, rfl, rfl⟩ | ⟨rfl, rfl, rfl, rfl⟩
    · have o0 := hO.cell 0 _ rfl
      clear hO
      cases q0 with
      | false =>
        go_wp2_with fail
        refine (HC0.out _ HB.out).mono ?_
        rintro e w1 ⟨rfl, hb1⟩
        go_wp2
        go_ret
        exact ⟨ret_bool (by rw [E.out]; simp), HB.out.trans (hb1.mono HB.out.size)⟩
      | true =>
        go_wp2_with fail
        refine (HC0.out _ HB.out).mono ?_
        rintro e w1 ⟨rfl, hb1⟩
        go_wp2
        go_roundw
        case rel => exact ⟨1, rfl, (by simp), (by obtain ⟨t, h⟩ := HO.out; exact ⟨t, h.below hb1⟩), HB.out.trans (hb1.mono HB.out.size)⟩
        case measure => simp [intOf]
    · have o1 := hO.cell 1 _ rfl
      clear hO
      cases q1 with
      | false =>
        go_wp2_with fail
        refine (HC1.out _ HB.out).mono ?_
        rintro e w1 ⟨rfl, hb1⟩
        go_wp2
        go_ret
        exact ⟨ret_bool (by rw [E.out]; simp), HB.out.trans (hb1.mono HB.out.size)⟩
      | true =>
        go_wp2_with fail
        refine (HC1.out _ HB.out).mono ?_
        rintro e w1 ⟨rfl, hb1⟩
        go_wp2
        go_roundw
        case rel => exact ⟨2, rfl, (by simp), (by obtain ⟨t, h⟩ := HO.out; exact ⟨t, h.below hb1⟩), HB.out.trans (hb1.mono HB.out.size)⟩
        case measure => simp [intOf]
    · have o2 := hO.cell 2 _ rfl
      clear hO
      cases q2 with
      | false =>
        go_wp2_with fail
        refine (HC2.out _ HB.out).mono ?_
        rintro e w1 ⟨rfl, hb1⟩
        go_wp2
        go_ret
        exact ⟨ret_bool (by rw [E.out]; simp), HB.out.trans (hb1.mono HB.out.size)⟩
      | true =>
        go_wp2_with fail
        refine (HC2.out _ HB.out).mono ?_
        rintro e w1 ⟨rfl, hb1⟩
        go_wp2
        go_roundw
        case rel => exact ⟨3, rfl, (by simp), (by obtain ⟨t, h⟩ := HO.out; exact ⟨t, h.below hb1⟩), HB.out.trans (hb1.mono HB.out.size)⟩
        case measure => simp [intOf]
    · clear hO
      go_wp2
      go_ret
      exact ⟨ret_bool (by rw [E.out]; simp), HB.out⟩
end Go.Proofs.Ytdnodaoeflbfkaa
