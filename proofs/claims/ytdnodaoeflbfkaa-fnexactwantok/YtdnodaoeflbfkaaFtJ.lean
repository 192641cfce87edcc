/- Right wants, on both sides. -/
import Derived.Test.YtdnodaoeflbfkaaFtK
import Derived.Test.YtdnodaoeflbfkaaSel2
import Derived.Test.YtdnodaoeflbfkaaTerm2
namespace Go.Proofs.Ytdnodaoeflbfkaa
open Go.RowKit Go.BigFrame
set_option linter.unusedVariables false

set_option maxRecDepth 20000 in
set_option maxHeartbeats 1600000 in
theorem sWantOk_any (W : WaD) (xs : List Value) (w : World) (hq : okWa W) (hx : waH w W xs) :
    Calls Try.prog 17 #[.agg xs.toArray] w fun e w' => e = .returned (.bool (wanB W)) ∧ Below w.heap.size w w' := by
  obtain ⟨c1, c2, c3, rfl, ⟨a1, p1, rfl, h1⟩, ⟨a2, p2, rfl, h2⟩, a, p, rfl, h3⟩ := hx
  obtain ⟨z, T, B, L⟩ := W
  obtain ⟨q0, ⟨q1, q2⟩, ⟨q3, q4⟩, q5, q6⟩ := hq
  have E : Hid (wanB (z, T, B, L) = (inB z 0 10000 && selB T && nmsB B 8 && wgsB L)) := rfl
  dsimp only at *
  have HC0 : Hid (∀ wx, Calls Try.prog 65 #[.int .i64 z, .int .i64 0, .int .i64 10000] wx fun e w' => e = .returned (.bool (inB z 0 10000)) ∧ w' = wx) := fun wx => l1In_any z 0 10000 wx
  have HC1 : Hid (∀ wx, Below w.heap.size w wx → Calls Try.prog 66 #[.slice a1 T.length p1] wx fun e w' => e = .returned (.bool (selB T)) ∧ Below wx.heap.size wx w') := fun wx hb => sselOk_any a1 p1 T wx q1 q2 (h1.below hb)
  have HC2 : Hid (∀ wx, Below w.heap.size w wx → Calls Try.prog 67 #[.slice a2 B.length p2, .int .i64 8] wx fun e w' => e = .returned (.bool (nmsB B 8)) ∧ Below wx.heap.size wx w') := fun wx hb => l10Names_any a2 p2 8 B wx q3 q4 (h2.below hb)
  have OX : Hid (objU (w.alloc (.cells #[.int .i64 z, .slice a1 T.length p1, .slice a2 B.length p2, .slice a L.length p] 41)) w.heap.size 41 [.int .i64 z, .slice a1 T.length p1, .slice a2 B.length p2, .slice a L.length p]) := objU.new _ _ _
  have BX : Hid (Below w.heap.size w (w.alloc (.cells #[.int .i64 z, .slice a1 T.length p1, .slice a2 B.length p2, .slice a L.length p] 41))) := (Below.refl _ _).alloc (Nat.le_refl _) _
  have Hr := hide h3
  have Hz := hide q6
  unfold maxLen at q5
  clear h1 h2 h3 q0 q1 q2 q3 q4 q6
  generalize wanB (z, T, B, L) = R at *
  generalize inB z 0 10000 = b0 at *
  generalize selB T = b1 at *
  generalize nmsB B 8 = b2 at *
  go_enter Try.func17, Try.ntmps17
  go_wp2
  go_loopw [3] (fun i wr => ∃ (k : Nat), k ≤ L.length ∧ i = .int .i64 k ∧ Hid (∀ j, j < k → okW L j) ∧ Hid (objU wr w.heap.size 41 [.int .i64 z, .slice a1 T.length p1, .slice a2 B.length p2, .slice a L.length p]) ∧ Hid (Below w.heap.size w wr)) (fun i _ => L.length - (intOf i).toNat)
  case atStart => exact ⟨0, Nat.zero_le _, rfl, fun j h => by omega, OX, BX⟩
  case round =>
    clear OX BX
    obtain ⟨k, hk, rfl, Hx, HO, HB⟩ := hrel
    have o3 := HO.out.cell 3 _ rfl
    by_cases hlt : k < L.length
    · obtain ⟨b, off, rfl, hat⟩ := (Hr.out.below HB.out) (by omega)
      have c0 : wr.cell? ⟨b, off + k * 2, none⟩ = some (.string (wgK L k)) := by rw [wgK_get hlt]; exact (hat k hlt).1
      have c2 : wr.cell? ⟨b, off + k * 2 + 1, none⟩ = some (.int .i64 (wgN L k)) := by rw [wgN_get hlt]; exact (hat k hlt).2
      have cp : 0 < k → wr.cell? ⟨b, off + (k - 1) * 2, none⟩ = some (.string (wgK L (k - 1))) := fun h => by rw [wgK_get (show k - 1 < L.length by omega)]; exact (hat (k - 1) (by omega)).1
      have hzK : (wgK L k).size ≤ maxLen := by rw [wgK_get hlt]; exact (Hz.out _ (List.getElem_mem hlt)).1
      have Hs : Hid (okW L k → ∀ j, j < k + 1 → okW L j) := fun h => okW_succ Hx.out h
      have Hb : Hid (¬ okW L k → R = false) := fun h => by rw [E.out, wgsB_bad hlt h, Bool.and_false]
      have hcs := okW_cases L k
      clear hat Hx
      generalize wgK L k = K at *
      generalize wgN L k = N at *
      generalize wgK L (k - 1) = Q at *
      have hK := fun wx => (sname_any K wx hzK)
      have hV := fun wx => (l1In_any N 0 1000 wx)
      clear hzK
      rcases hcs with ⟨h1, hok⟩ | ⟨h1, h2, hok⟩ | ⟨h1, h2, h3, hok⟩ | ⟨h1, h2, h3, h4, hok⟩ | ⟨h1, h2, h3, h4, hok⟩
      · rw [h1] at hK
        have HK := hide hK
        have HV := hide hV
        clear hK hV h1 cp
        have Hn := hide (Hb.out hok.out)
        clear Hs Hb Hz Hr E
        go_wp2
        go_quiet (first | (go_at_call_of 64 K; exact Calls.quiet_of_same (HK.out _)) | (go_at_call 65; exact Calls.quiet_of_same (HV.out _)))
        go_wp2
        go_ret
        exact ⟨ret_bool Hn.out.symm, below_drewN HB.out _⟩
      · rw [h1] at hK
        rw [h2] at hV
        have HK := hide hK
        have HV := hide hV
        clear hK hV h1 h2 cp
        have Hn := hide (Hb.out hok.out)
        clear Hs Hb Hz Hr E
        go_wp2
        go_quiet (first | (go_at_call_of 64 K; exact Calls.quiet_of_same (HK.out _)) | (go_at_call 65; exact Calls.quiet_of_same (HV.out _)))
        go_wp2
        go_ret
        exact ⟨ret_bool Hn.out.symm, below_drewN HB.out _⟩
      · rw [h1] at hK
        rw [h2] at hV
        have HK := hide hK
        have HV := hide hV
        have hk0 : k = 0 := h3.out
        have h3' : decide ((0 : Int) < (k : Int)) = false := by rw [decide_eq_false_iff_not]; omega
        have h3'' : decide (0 < k) = false := by rw [decide_eq_false_iff_not]; omega
        have h3a : (k : Int) ≤ 0 := by omega
        clear hK hV h1 h2 cp h3 hk0
        have Hn := hide (Hs.out hok.out)
        clear Hs Hb
        go_wp2
        go_quiet (first | (go_at_call_of 64 K; exact Calls.quiet_of_same (HK.out _)) | (go_at_call 65; exact Calls.quiet_of_same (HV.out _)))
        go_wp2
        go_roundw
        case rel => exact ⟨k + 1, by omega, by go_num, Hn, HO.out.below (below_drewN (Below.refl _ _) _), below_drewN HB.out _⟩
        case measure => simp [intOf]; omega
      · rw [h1] at hK
        rw [h2] at hV
        have HK := hide hK
        have HV := hide hV
        have cp := cp h3
        have h3' : (0 : Int) < (k : Int) := by omega
        clear hK hV h1 h2
        have Hn := hide (Hs.out hok.out)
        clear Hs Hb
        go_wp2
        go_quiet (first | (go_at_call_of 64 K; exact Calls.quiet_of_same (HK.out _)) | (go_at_call 65; exact Calls.quiet_of_same (HV.out _)))
        go_wp2
        go_roundw
        case rel => exact ⟨k + 1, by omega, by go_num, Hn, HO.out.below (below_drewN (Below.refl _ _) _), below_drewN HB.out _⟩
        case measure => simp [intOf]; omega
      · rw [h1] at hK
        rw [h2] at hV
        have HK := hide hK
        have HV := hide hV
        have cp := cp h3
        have h3' : (0 : Int) < (k : Int) := by omega
        clear hK hV h1 h2
        have Hn := hide (Hb.out hok.out)
        clear Hs Hb E
        go_wp2
        go_quiet (first | (go_at_call_of 64 K; exact Calls.quiet_of_same (HK.out _)) | (go_at_call 65; exact Calls.quiet_of_same (HV.out _)))
        go_wp2
        go_ret
        exact ⟨ret_bool Hn.out.symm, below_drewN HB.out _⟩
    · have e : k = L.length := by omega
      subst e
      have E2 : Hid (R = (b0 && b1 && b2 && decide (L.length ≤ 12))) := by show _ = _; rw [E.out, wgsB_end Hx.out]
      clear E Hx Hr Hz
      have x0 := HO.out.cell 0 _ rfl
      cases b0 with
      | false =>
        clear HO
        go_wp2_with (go_at_call 65; refine (HC0.out _).mono ?_; rintro e w' ⟨rfl, rfl⟩)
        go_ret
        exact ⟨ret_bool E2.out.symm, HB.out⟩
      | true =>
        have x1 := HO.out.cell 1 _ rfl
        go_wp2_with (go_at_call 65; refine (HC0.out _).mono ?_; rintro e w' ⟨rfl, rfl⟩)
        refine (HC1.out _ HB.out).mono ?_
        rintro e w1 ⟨rfl, hb1⟩
        have OX1 := hide (HO.out.below hb1)
        have BX1 : Hid (Below w.heap.size w w1) := HB.out.trans (hb1.mono HB.out.size)
        clear HO HB hb1 x1 x0 o3
        cases b1 with
        | false =>
          clear OX1
          go_wp2
          go_ret
          exact ⟨ret_bool E2.out.symm, BX1.out⟩
        | true =>
          have x2 := OX1.out.cell 2 _ rfl
          go_wp2_with fail
          refine (HC2.out _ BX1.out).mono ?_
          rintro e w2 ⟨rfl, hb2⟩
          have OX2 := hide (OX1.out.below hb2)
          have BX2 : Hid (Below w.heap.size w w2) := BX1.out.trans (hb2.mono BX1.out.size)
          clear OX1 BX1 hb2 x2
          cases b2 with
          | false =>
            clear OX2
            go_wp2
            go_ret
            exact ⟨ret_bool E2.out.symm, BX2.out⟩
          | true =>
            have x3 := OX2.out.cell 3 _ rfl
            go_wp2
            go_ret
            exact ⟨ret_bool (by rw [E2.out, Bool.eq_iff_iff]; simp <;> omega), BX2.out⟩
set_option maxHeartbeats 800000 in
theorem iWantOk_any (W : WaD) (xs : List Value) (w : World) (hq : okWa W) (hx : waH w W xs) :
    Calls Try.prog 19 #[.agg xs.toArray] w fun e w' => e = .returned (.bool (wanB W)) ∧ Below w.heap.size w w' := by
  obtain ⟨c1, c2, c3, rfl, ⟨a1, p1, rfl, h1⟩, ⟨a2, p2, rfl, h2⟩, a, p, rfl, h3⟩ := hx
  obtain ⟨z, T, B, L⟩ := W
  obtain ⟨q0, ⟨q1, q2⟩, ⟨q3, q4⟩, q5⟩ := hq
  have E : Hid (wanB (z, T, B, L) = (inB z 0 10000 && selB T && (valsB B && decide (B.length ≤ 8)) && wgsB L)) := rfl
  dsimp only at *
  have HC0 : Hid (∀ wx, Calls Try.prog 71 #[.int .i64 z, .int .i64 10000] wx fun e w' => e = .returned (.bool (inB z 0 10000)) ∧ w' = wx) := fun wx => withinF_any z 10000 wx
  have HC1 : Hid (∀ wx, Below w.heap.size w wx → Calls Try.prog 72 #[.slice a1 T.length p1] wx fun e w' => e = .returned (.bool (selB T)) ∧ Below wx.heap.size wx w') := fun wx hb => iselOk_any a1 p1 T wx q1 (fun t ht => (q2 t ht).2.1) (h1.below hb)
  have HC2 : Hid (∀ wx, Below w.heap.size w wx → Calls Try.prog 74 #[.slice a2 B.length p2] wx fun e w' => e = .returned (.bool (valsB B)) ∧ Below wx.heap.size wx w') := fun wx hb => iasc_any a2 p2 B wx q3 (h2.below hb)
  have HC3 : Hid (∀ wx, Below w.heap.size w wx → Calls Try.prog 73 #[.slice a L.length p] wx fun e w' => e = .returned (.bool (wgsB L)) ∧ Below wx.heap.size wx w') := fun wx hb => weighsOk_any a p L wx q5.1 q5 (h3.below hb)
  have OX : Hid (objU (w.alloc (.cells #[.int .i64 z, .slice a1 T.length p1, .slice a2 B.length p2, .slice a L.length p] 41)) w.heap.size 41 [.int .i64 z, .slice a1 T.length p1, .slice a2 B.length p2, .slice a L.length p]) := objU.new _ _ _
  have BX : Hid (Below w.heap.size w (w.alloc (.cells #[.int .i64 z, .slice a1 T.length p1, .slice a2 B.length p2, .slice a L.length p] 41))) := (Below.refl _ _).alloc (Nat.le_refl _) _
  unfold maxLen at q3
  clear h1 h2 h3 q0 q1 q2 q4 q5
  generalize wanB (z, T, B, L) = R at *
  generalize inB z 0 10000 = b0 at *
  generalize selB T = b1 at *
  generalize valsB B = b2 at *
  generalize wgsB L = b3 at *
  go_enter Try.func19, Try.ntmps19
  have x0 := OX.out.cell 0 _ rfl
  cases b0 with
  | false =>
    go_wp2_with (go_at_call 71; refine (HC0.out _).mono ?_; rintro e w' ⟨rfl, rfl⟩)
    go_ret
    exact ⟨ret_bool E.out.symm, BX.out⟩
  | true =>
    have x1 := OX.out.cell 1 _ rfl
    go_wp2_with (go_at_call 71; refine (HC0.out _).mono ?_; rintro e w' ⟨rfl, rfl⟩)
    refine (HC1.out _ BX.out).mono ?_
    rintro e w1 ⟨rfl, hb1⟩
    have OX1 := hide (OX.out.below hb1)
    have BX1 : Hid (Below w.heap.size w w1) := BX.out.trans (hb1.mono BX.out.size)
    clear OX BX hb1 x1 x0
    cases b1 with
    | false =>
      clear OX1
      go_wp2
      go_ret
      exact ⟨ret_bool E.out.symm, BX1.out⟩
    | true =>
      have x3 := OX1.out.cell 3 _ rfl
      go_wp2_with fail
      refine (HC3.out _ BX1.out).mono ?_
      rintro e w2 ⟨rfl, hb2⟩
      have OX2 := hide (OX1.out.below hb2)
      have BX2 : Hid (Below w.heap.size w w2) := BX1.out.trans (hb2.mono BX1.out.size)
      clear OX1 BX1 hb2 x3
      cases b3 with
      | false =>
        clear OX2
        go_wp2
        go_ret
        exact ⟨ret_bool (by rw [E.out, Bool.and_false]), BX2.out⟩
      | true =>
        have x2 := OX2.out.cell 2 _ rfl
        by_cases h4 : B.length ≤ 8
        · have h4' : (B.length : Int) ≤ 8 := by omega
          have E2 : Hid (R = b2) := by show _ = _; rw [E.out, decide_eq_true h4, Bool.and_true, Bool.and_true]; simp
          clear E h4
          go_wp2_with fail
          refine (HC2.out _ BX2.out).mono ?_
          rintro e w3 ⟨rfl, hb3⟩
          go_wp2
          go_ret
          exact ⟨ret_bool E2.out.symm, BX2.out.trans (hb3.mono BX2.out.size)⟩
        · have h4' : ¬ (B.length : Int) ≤ 8 := by omega
          have E2 : Hid (R = false) := by show _ = _; rw [E.out, decide_eq_false h4, Bool.and_false]; simp
          clear E h4
          go_wp2
          go_ret
          exact ⟨ret_bool E2.out.symm, BX2.out⟩
end Go.Proofs.Ytdnodaoeflbfkaa
