/- Right islands, on both sides. -/
import Derived.Test.YtdnodaoeflbfkaaFtN
import Derived.Test.YtdnodaoeflbfkaaSelV
import Derived.Test.YtdnodaoeflbfkaaLabs4
namespace Go.Proofs.Ytdnodaoeflbfkaa
open Go.RowKit Go.BigFrame
set_option linter.unusedVariables false

theorem islB_out (I : IsD) : islB I = (nameB I.1 && labelsB I.2.1 && nmsB I.2.2.1 4 && inB I.2.2.2 0 10000) := rfl
set_option maxHeartbeats 800000 in
theorem sIslandOk_any (I : IsD) (xs : List Value) (w : World) (hq : okIs1 I) (hx : isH w I xs) :
    Calls Try.prog 40 #[.agg xs.toArray] w fun e w' => e = .returned (.bool (islB I)) ∧ Below w.heap.size w w' := by
  obtain ⟨c1, c2, rfl, ⟨a1, p1, rfl, h1⟩, a2, p2, rfl, h2⟩ := hx
  obtain ⟨s, L, S, z⟩ := I
  obtain ⟨q0, ⟨q1, q2⟩, ⟨q3, q4⟩, q5⟩ := hq
  have E : Hid (islB (s, L, S, z) = (nameB s && labelsB L && nmsB S 4 && inB z 0 10000)) := rfl
  dsimp only at *
  have HC0 : Hid (∀ wx, Calls Try.prog 64 #[.string s] wx fun e w' => e = .returned (.bool (nameB s)) ∧ w' = wx) := fun wx => sname_any s wx q0
  have HC1 : Hid (∀ wx, Below w.heap.size w wx → Calls Try.prog 110 #[.slice a1 L.length p1] wx fun e w' => e = .returned (.bool (labelsB L)) ∧ Below wx.heap.size wx w') := fun wx hb => (slabelsOk_any a1 p1 L wx q1 q2 (rowOf_below h1 hb)).mono (fun e w' ⟨e1, n, e2⟩ => ⟨e1, e2 ▸ below_drewN (Below.refl _ _) _⟩)
  have HC2 : Hid (∀ wx, Below w.heap.size w wx → Calls Try.prog 67 #[.slice a2 S.length p2, .int .i64 4] wx fun e w' => e = .returned (.bool (nmsB S 4)) ∧ Below wx.heap.size wx w') := fun wx hb => l10Names_any a2 p2 4 S wx q3 q4 (h2.below hb)
  have HC3 : Hid (∀ wx, Calls Try.prog 65 #[.int .i64 z, .int .i64 0, .int .i64 10000] wx fun e w' => e = .returned (.bool (inB z 0 10000)) ∧ w' = wx) := fun wx => l1In_any z 0 10000 wx
  have OX : Hid (objU (w.alloc (.cells #[.string s, .slice a1 L.length p1, .slice a2 S.length p2, .int .i64 z] 54)) w.heap.size 54 [.string s, .slice a1 L.length p1, .slice a2 S.length p2, .int .i64 z]) := objU.new _ _ _
  have BX : Hid (Below w.heap.size w (w.alloc (.cells #[.string s, .slice a1 L.length p1, .slice a2 S.length p2, .int .i64 z] 54))) := (Below.refl _ _).alloc (Nat.le_refl _) _
  clear h1 h2 q0 q1 q2 q3 q4 q5
  generalize islB (s, L, S, z) = R at *
  generalize nameB s = b0 at *
  generalize labelsB L = b1 at *
  generalize nmsB S 4 = b2 at *
  generalize inB z 0 10000 = b3 at *
  go_enter Try.func40, Try.ntmps40
  cases b0 with
  | false =>
    clear OX
    go_wp2_with (go_at_call 64; refine (HC0.out _).mono ?_; rintro e w' ⟨rfl, rfl⟩)
    go_ret
    exact ⟨ret_bool E.out.symm, BX.out⟩
  | true =>
    have x1 := OX.out.cell 1 _ rfl
    go_wp2_with (go_at_call 64; refine (HC0.out _).mono ?_; rintro e w' ⟨rfl, rfl⟩)
    refine (HC1.out _ BX.out).mono ?_
    rintro e w1 ⟨rfl, hb1⟩
    have OX1 := hide (OX.out.below hb1)
    have BX1 : Hid (Below w.heap.size w w1) := BX.out.trans (hb1.mono BX.out.size)
    clear OX BX hb1 x1
    cases b1 with
    | false =>
      clear OX1
      go_wp2
      go_ret
      exact ⟨ret_bool E.out.symm, BX1.out⟩
    | true =>
      have x2 := OX1.out.cell 2 _ rfl
      go_wp2_with fail
      refine (HC2.out _ BX1.out).mono ?_
      rintro e w2 ⟨rfl, hb2⟩
      have OX2 := hide (OX1.out.below hb2)
      have BX2 : Hid (Below w.heap.size w w2) := BX1.out.trans (hb2.mono BX1.out.size)
      clear OX1 BX1 hb2 x2
      cases b2 with
      | false =>
        clear OX2
        go_wp2
        go_ret
        exact ⟨ret_bool E.out.symm, BX2.out⟩
      | true =>
        have x3 := OX2.out.cell 3 _ rfl
        go_wp2_with (go_at_call 65; refine (HC3.out _).mono ?_; rintro e w' ⟨rfl, rfl⟩)
        go_ret
        exact ⟨ret_bool (by rw [E.out]; simp), BX2.out⟩
set_option maxHeartbeats 800000 in
theorem iIslandOk_any (I : IsD) (xs : List Value) (w : World) (hq : okIs1 I) (hx : isH w I xs) :
    Calls Try.prog 39 #[.agg xs.toArray] w fun e w' => e = .returned (.bool (islB I)) ∧ Below w.heap.size w w' := by
  obtain ⟨c1, c2, rfl, ⟨a1, p1, rfl, h1⟩, a2, p2, rfl, h2⟩ := hx
  obtain ⟨s, L, S, z⟩ := I
  obtain ⟨q0, ⟨q1, q2⟩, ⟨q3, q4⟩, q5⟩ := hq
  have E : Hid (islB (s, L, S, z) = (nameB s && labelsB L && (valsB S && decide (S.length ≤ 4)) && inB z 0 10000)) := rfl
  dsimp only at *
  have HC0 : Hid (∀ wx, Calls Try.prog 108 #[.string s] wx fun e w' => e = .returned (.bool (nameB s)) ∧ Below wx.heap.size wx w') := fun wx => iname_any s wx
  have HC1 : Hid (∀ wx, Below w.heap.size w wx → Calls Try.prog 109 #[.slice a1 L.length p1] wx fun e w' => e = .returned (.bool (labelsB L)) ∧ Below wx.heap.size wx w') := fun wx hb => ilabelsOk_any a1 p1 L wx q1 (rowOf_below h1 hb)
  have HC2 : Hid (∀ wx, Below w.heap.size w wx → Calls Try.prog 74 #[.slice a2 S.length p2] wx fun e w' => e = .returned (.bool (valsB S)) ∧ Below wx.heap.size wx w') := fun wx hb => iasc_any a2 p2 S wx q3 (h2.below hb)
  have HC3 : Hid (∀ wx, Calls Try.prog 71 #[.int .i64 z, .int .i64 10000] wx fun e w' => e = .returned (.bool (inB z 0 10000)) ∧ w' = wx) := fun wx => withinF_any z 10000 wx
  have OX : Hid (objU (w.alloc (.cells #[.string s, .slice a1 L.length p1, .slice a2 S.length p2, .int .i64 z] 54)) w.heap.size 54 [.string s, .slice a1 L.length p1, .slice a2 S.length p2, .int .i64 z]) := objU.new _ _ _
  have BX : Hid (Below w.heap.size w (w.alloc (.cells #[.string s, .slice a1 L.length p1, .slice a2 S.length p2, .int .i64 z] 54))) := (Below.refl _ _).alloc (Nat.le_refl _) _
  unfold maxLen at q3
  clear h1 h2 q0 q1 q2 q4 q5
  generalize islB (s, L, S, z) = R at *
  generalize nameB s = b0 at *
  generalize labelsB L = b1 at *
  generalize valsB S = b2 at *
  generalize inB z 0 10000 = b3 at *
  go_enter Try.func39, Try.ntmps39
  go_wp2_with fail
  refine (HC0.out _).mono ?_
  rintro e w0 ⟨rfl, hb0⟩
  have OX0 := hide (OX.out.below hb0)
  have BX0 : Hid (Below w.heap.size w w0) := BX.out.trans (hb0.mono BX.out.size)
  clear OX BX hb0
  cases b0 with
  | false =>
    clear OX0
    go_wp2
    go_ret
    exact ⟨ret_bool E.out.symm, BX0.out⟩
  | true =>
    have x1 := OX0.out.cell 1 _ rfl
    go_wp2_with fail
    refine (HC1.out _ BX0.out).mono ?_
    rintro e w1 ⟨rfl, hb1⟩
    have OX1 := hide (OX0.out.below hb1)
    have BX1 : Hid (Below w.heap.size w w1) := BX0.out.trans (hb1.mono BX0.out.size)
    clear OX0 BX0 hb1 x1
    cases b1 with
    | false =>
      clear OX1
      go_wp2
      go_ret
      exact ⟨ret_bool E.out.symm, BX1.out⟩
    | true =>
      have x3 := OX1.out.cell 3 _ rfl
      have x2 := OX1.out.cell 2 _ rfl
      cases b3 with
      | false =>
        go_wp2_with (go_at_call 71; refine (HC3.out _).mono ?_; rintro e w' ⟨rfl, rfl⟩)
        go_ret
        exact ⟨ret_bool (by rw [E.out, Bool.and_false]), BX1.out⟩
      | true =>
        by_cases h4 : S.length ≤ 4
        · have h4' : (S.length : Int) ≤ 4 := by omega
          have E2 : Hid (R = b2) := by show _ = _; rw [E.out, decide_eq_true h4, Bool.and_true, Bool.and_true]; simp
          clear E h4
          go_wp2_with (go_at_call 71; refine (HC3.out _).mono ?_; rintro e w' ⟨rfl, rfl⟩)
          refine (HC2.out _ BX1.out).mono ?_
          rintro e w2 ⟨rfl, hb2⟩
          go_wp2
          go_ret
          exact ⟨ret_bool E2.out.symm, BX1.out.trans (hb2.mono BX1.out.size)⟩
        · have h4' : ¬ (S.length : Int) ≤ 4 := by omega
          have E2 : Hid (R = false) := by show _ = _; rw [E.out, decide_eq_false h4, Bool.and_false]; simp
          clear E h4
          go_wp2_with (go_at_call 71; refine (HC3.out _).mono ?_; rintro e w' ⟨rfl, rfl⟩)
          go_ret
          exact ⟨ret_bool E2.out.symm, BX1.out⟩
end Go.Proofs.Ytdnodaoeflbfkaa
