/- impl.Total, impl.FairOk. -/
import Derived.Test.YtidjjgiecaoboaaShrF
namespace Go.Proofs.Ytidjjgiecaoboaa
open Go.RowKit Go.BigFrame
set_option linter.unusedVariables false
theorem no_of {r : Bool} {p : Prop} (h : r = true ↔ p) (hp : ¬ p) : r = false := by
  cases r
  · rfl
  · exact (hp (h.1 rfl)).elim
theorem within_any (n m : Int) (w : World) : Calls Try.prog 37 #[.int .i64 n, .int .i64 m] w fun e w' => e = .returned (.bool (inB n 0 m)) ∧ w' = w := by
  go_enter Try.func37, Try.ntmps37
  go_wp2
  all_goals go_ret
  all_goals exact ⟨ret_bool (by rw [Bool.eq_iff_iff]; simp [inB]; omega), rfl⟩
set_option maxRecDepth 20000 in
set_option maxHeartbeats 3200000 in
theorem allWithin_any (m : Int) (k1 : Nat) (c1 : UD) (v1 : Value) (lo hi : Nat) (w : World) (r : Bool) (ht1 : tyS 1 k1 c1 1) (hx1 : uS w lo hi 1 k1 c1 v1) (hr : r = true ↔ ∀ i, i < k1 → 0 ≤ gI (intL c1) i ∧ gI (intL c1) i ≤ m) :
    Calls Try.prog 38 #[v1, .int .i64 m] w fun e w' => e = .returned (.bool r) ∧ w' = w := by
  obtain ⟨a1, p1, rfl, hy1⟩ := hx1
  have H1 : Hid (uS w lo hi 1 k1 c1 (.slice a1 k1 p1)) := ⟨_, _, rfl, hy1⟩
  have T1 := uhide ht1
  have hm1 := ht1.2.2.1
  unfold maxLen at hm1
  have NO : Hid (∀ i, i < k1 → ¬ (0 ≤ gI (intL c1) i ∧ gI (intL c1) i ≤ m) → r = false) := fun i hi hg => no_of hr (fun h => hg (h i hi))
  have YES : Hid ((∀ i, i < k1 → 0 ≤ gI (intL c1) i ∧ gI (intL c1) i ≤ m) → r = true) := hr.2
  clear hy1 ht1 hr
  go_enter Try.func38, Try.ntmps38
  go_wp2
  go_loopw [9] (fun i wr => ∃ (q : Nat), q ≤ k1 ∧ i = .int .i64 q ∧ Hid (∀ j, j < q → 0 ≤ gI (intL c1) j ∧ gI (intL c1) j ≤ m) ∧ wr = w) (fun i _ => k1 - (intOf i).toNat)
  case atStart => exact ⟨0, Nat.zero_le _, rfl, (fun j h => by omega), rfl⟩
  case round =>
    obtain ⟨q, hq, rfl, HE, rfl⟩ := hrel
    by_cases hlt : q < k1
    · obtain ⟨b1, off1, rfl, hb1, -⟩ := H1.out.cells (by omega)
      have q1 := cell_int T1.out H1.out q hlt
      have HX := uhide (within_any (gI (intL c1) q) m)
      by_cases hx : 0 ≤ gI (intL c1) q ∧ gI (intL c1) q ≤ m
      · rw [inB_t hx] at HX
        have HN : Hid (∀ j, j < q + 1 → 0 ≤ gI (intL c1) j ∧ gI (intL c1) j ≤ m) := fun j hj => by
          by_cases e : j = q
          · subst e; exact hx
          · exact HE.out j (by omega)
        clear HE hx NO
        generalize gI (intL c1) q = X at *
        go_wp2_with fail
        refine (HX.out _).mono ?_
        rintro e w1 ⟨rfl, rfl⟩
        go_wp2
        go_roundw
        case rel => exact ⟨q + 1, by omega, by go_num, HN, trivial⟩
        case measure => simp [intOf]; omega
      · have hrf := NO.out q hlt hx
        subst hrf
        rw [inB_f hx] at HX
        clear HE hx NO YES
        generalize gI (intL c1) q = X at *
        go_wp2_with fail
        refine (HX.out _).mono ?_
        rintro e w1 ⟨rfl, rfl⟩
        go_wp2
        go_ret
        exact ⟨rfl, rfl⟩
    · have e : q = k1 := by omega
      subst e
      have hrt := YES.out HE.out
      subst hrt
      go_wp2
      go_ret
      exact ⟨rfl, rfl⟩
set_option maxRecDepth 20000 in
set_option maxHeartbeats 3200000 in
theorem divisionOk_any (n : Int) (k1 k2 : Nat) (c1 c2 : UD) (v1 v2 : Value) (lo hi lo' hi' : Nat) (w : World) (r : Bool) (ht1 : tyS 1 k1 c1 1) (ht2 : tyS 1 k2 c2 1) (hx1 : uS w lo hi 1 k1 c1 v1) (hx2 : uS w lo' hi' 1 k2 c2 v2) (hr : r = true ↔ rightP n (intL c1) (intL c2)) :
    Calls Try.prog 25 #[.int .i64 n, v1, v2] w fun e w' => e = .returned (.bool r) ∧ w' = w := by
  obtain ⟨r1, hr1⟩ := bool_iff (∀ i, i < k1 → 0 ≤ gI (intL c1) i ∧ gI (intL c1) i ≤ 1000)
  obtain ⟨r2, hr2⟩ := bool_iff (∀ i, i < k2 → 0 ≤ gI (intL c2) i ∧ gI (intL c2) i ≤ 10000)
  have A1 := uhide (allWithin_any 1000 k1 c1 v1 lo hi w r1 ht1 hx1 hr1)
  have A2 := uhide (allWithin_any 10000 k2 c2 v2 lo' hi' w r2 ht2 hx2 hr2)
  have HI := uhide (within_any n 10000)
  obtain ⟨a1, p1, rfl, hy1⟩ := hx1
  obtain ⟨a2, p2, rfl, hy2⟩ := hx2
  have hl1 := intL_len ht1
  have hl2 := intL_len ht2
  have hm1 := ht1.2.2.1
  have hm2 := ht2.2.2.1
  unfold maxLen at hm1 hm2
  unfold rightP at hr
  rw [hl1, hl2] at hr
  clear hy1 hy2 ht1 ht2 hl1 hl2
  by_cases h64 : 64 < k1
  · have hrf := no_of hr (fun h => by omega)
    subst hrf
    clear hr hr1 hr2 A1 A2 HI
    go_enter Try.func25, Try.ntmps25
    go_wp2
    go_ret
    exact ⟨rfl, rfl⟩
  by_cases hk : k1 = k2
  rotate_left
  · have hrf := no_of hr (fun h => hk h.1.2.2)
    subst hrf
    have hk' : ((k2 : Int) != (k1 : Int)) = true := by rw [bne_iff_ne]; omega
    clear hr hr1 hr2 A1 A2 HI
    go_enter Try.func25, Try.ntmps25
    go_wp2
    go_ret
    exact ⟨rfl, rfl⟩
  subst hk
  have hk' : ((k1 : Int) != (k1 : Int)) = false := by simp
  by_cases hn : 0 ≤ n ∧ n ≤ 10000
  rotate_left
  · have hrf := no_of hr (fun h => hn h.1.1)
    subst hrf
    rw [inB_f hn] at HI
    clear hr hr1 hr2 A1 A2 hn
    go_enter Try.func25, Try.ntmps25
    go_wp2_with fail
    refine (HI.out _).mono ?_
    rintro e w1 ⟨rfl, rfl⟩
    go_wp2
    go_ret
    exact ⟨rfl, rfl⟩
  rw [inB_t hn] at HI
  have hr3 : r = (r1 && r2) := by
    rw [Bool.eq_iff_iff, Bool.and_eq_true, hr1, hr2, hr]
    exact ⟨fun h => ⟨fun i hi => (h.2 i hi).1, fun i hi => (h.2 i hi).2⟩, fun h => ⟨⟨hn, by omega, rfl⟩, fun i hi => ⟨h.1 i hi, h.2 i hi⟩⟩⟩
  subst hr3
  clear hr hr1 hr2 hn
  cases r1
  · go_enter Try.func25, Try.ntmps25
    clear A2
    go_wp2_with fail
    refine (HI.out _).mono ?_
    rintro e w1 ⟨rfl, rfl⟩
    go_wp2_with fail
    refine (A1.out).mono ?_
    rintro e w1 ⟨rfl, rfl⟩
    go_wp2
    go_ret
    exact ⟨rfl, rfl⟩
  · go_enter Try.func25, Try.ntmps25
    go_wp2_with fail
    refine (HI.out _).mono ?_
    rintro e w1 ⟨rfl, rfl⟩
    go_wp2_with fail
    refine (A1.out).mono ?_
    rintro e w1 ⟨rfl, rfl⟩
    go_wp2_with fail
    refine (A2.out).mono ?_
    rintro e w1 ⟨rfl, rfl⟩
    go_wp2
    go_ret
    exact ⟨rfl, rfl⟩
set_option maxRecDepth 20000 in
set_option maxHeartbeats 3200000 in
theorem iTotal0_any (n : Int) (k1 k2 : Nat) (c1 c2 : UD) (v1 v2 : Value) (lo hi lo' hi' : Nat) (w : World) (ht1 : tyS 1 k1 c1 1) (ht2 : tyS 1 k2 c2 1) (hx1 : uS w lo hi 1 k1 c1 v1) (hx2 : uS w lo' hi' 1 k2 c2 v2) (z : Int) (hz : (¬ rightP n (intL c1) (intL c2) → z = -1) ∧ (rightP n (intL c1) (intL c2) → z = totI n (intL c1) (intL c2))) :
    Calls Try.prog 11 #[.int .i64 n, v1, v2] w fun e w' => e = .returned (.int .i64 z) ∧ w' = w := by
  obtain ⟨r, hr⟩ := bool_iff (rightP n (intL c1) (intL c2))
  have HR := uhide (divisionOk_any n k1 k2 c1 c2 v1 v2 lo hi lo' hi' w r ht1 ht2 hx1 hx2 hr)
  obtain ⟨a1, p1, rfl, hy1⟩ := hx1
  obtain ⟨a2, p2, rfl, hy2⟩ := hx2
  have H1 : Hid (uS w lo hi 1 k1 c1 (.slice a1 k1 p1)) := ⟨_, _, rfl, hy1⟩
  have H2 : Hid (uS w lo' hi' 1 k2 c2 (.slice a2 k2 p2)) := ⟨_, _, rfl, hy2⟩
  have T1 := uhide ht1
  have T2 := uhide ht2
  have hl1 := intL_len ht1
  have hl2 := intL_len ht2
  cases r
  · have hz1 := hz.1 (fun h => by have := hr.2 h; cases this)
    subst hz1
    clear hy1 hy2 ht1 ht2 hl1 hl2 hr H1 H2 T1 T2
    go_enter Try.func11, Try.ntmps11
    go_wp2_with fail
    refine (HR.out).mono ?_
    rintro e w1 ⟨rfl, rfl⟩
    go_wp2
    go_ret
    exact ⟨rfl, rfl⟩
  have hrp := hr.1 rfl
  have hz1 := hz.2 hrp
  unfold totI at hz1
  unfold rightP at hrp
  rw [hl1, hl2] at hrp
  rw [hl1] at hz1
  obtain ⟨⟨hn, h64, hk⟩, hg⟩ := hrp
  have HG : Hid (∀ i, i < k1 → goodAt (intL c1) (intL c2) i) := hg
  subst hk
  have HZ := uhide hz1
  clear hz hz1 hr hg hl1 hl2 hy1 hy2 ht1 ht2
  go_enter Try.func11, Try.ntmps11
  go_wp2_with fail
  refine (HR.out).mono ?_
  rintro e w1 ⟨rfl, rfl⟩
  clear HR
  go_wp2
  go_loopw [7, 17] (fun s i wr => ∃ (q : Nat), q ≤ k1 ∧ i = .int .i64 q ∧ s = .int .i64 (sumTo (capW (intL c1) (intL c2)) q) ∧ wr = w1) (fun _ i _ => k1 - (intOf i).toNat)
  case atStart => exact ⟨0, Nat.zero_le _, rfl, rfl, rfl⟩
  case round =>
    obtain ⟨q, hq, rfl, rfl, rfl⟩ := hrel
    have hsb := sumTo_bd (capW_bd HG.out) q hq
    by_cases hlt : q < k1
    · obtain ⟨b1, off1, rfl, hb1, -⟩ := H1.out.cells (by omega)
      obtain ⟨b2, off2, rfl, hb2, -⟩ := H2.out.cells (by omega)
      have q1 := cell_int T1.out H1.out q hlt
      have q2 := cell_int T2.out H2.out q hlt
      have hgq := HG.out q hlt
      have HS : Hid (sumTo (capW (intL c1) (intL c2)) (q + 1) = sumTo (capW (intL c1) (intL c2)) q + (if 0 < gI (intL c1) q then gI (intL c2) q else 0)) := rfl
      unfold goodAt at hgq
      obtain ⟨hg1, hg2⟩ := hgq
      generalize sumTo (capW (intL c1) (intL c2)) q = S0 at *
      generalize gI (intL c1) q = X at *
      generalize gI (intL c2) q = Y at *
      have hS0 : S0 ≤ 640000 := by omega
      by_cases hx : 0 < X
      · go_wp2
        go_roundw
        case rel => exact ⟨q + 1, by omega, by go_num, by rw [HS.out, if_pos hx], trivial⟩
        case measure => simp [intOf]; omega
      · go_wp2
        go_roundw
        case rel => exact ⟨q + 1, by omega, by go_num, by rw [HS.out, if_neg hx, Int.add_zero], trivial⟩
        case measure => simp [intOf]; omega
    · have e : q = k1 := by omega
      subst e
      generalize sumTo (capW (intL c1) (intL c2)) q = S0 at *
      go_wp2
      all_goals go_ret
      all_goals exact ⟨by rw [HZ.out]; exact ret_int (by split <;> omega), rfl⟩
theorem iTotal_any (n : Int) (k1 k2 : Nat) (c1 c2 : UD) (v1 v2 : Value) (lo hi lo' hi' : Nat) (w : World) (hn0 : inK .i64 n) (ht1 : tyS 1 k1 c1 1) (ht2 : tyS 1 k2 c2 1) (hx1 : uS w lo hi 1 k1 c1 v1) (hx2 : uS w lo' hi' 1 k2 c2 v2) (z : Int) (hz : (¬ rightP n (intL c1) (intL c2) → z = -1) ∧ (rightP n (intL c1) (intL c2) → z = totI n (intL c1) (intL c2))) :
    Calls Try.prog 11 #[.int .i64 n, v1, v2] w fun e w' => e = .returned (.int .i64 z) ∧ Below w.heap.size w w' := (iTotal0_any n k1 k2 c1 c2 v1 v2 lo hi lo' hi' w ht1 ht2 hx1 hx2 z hz).mono (fun e w' h => ⟨h.1, by rw [h.2]; exact Below.refl _ _⟩)
set_option maxRecDepth 20000 in
set_option maxHeartbeats 3200000 in
theorem sharesFit_any (k1 k3 : Nat) (c1 c2 c3 : UD) (v1 v2 v3 : Value) (lo hi lo' hi' lo2 hi2 : Nat) (w : World) (r : Bool) (ht1 : tyS 1 k1 c1 1) (ht2 : tyS 1 k1 c2 1) (ht3 : tyS 1 k3 c3 1) (hx1 : uS w lo hi 1 k1 c1 v1) (hx2 : uS w lo' hi' 1 k1 c2 v2) (hx3 : uS w lo2 hi2 1 k3 c3 v3)
    (hr : r = true ↔ k3 = k1 ∧ ∀ i, i < k1 → okRow (intL c1) (intL c2) (intL c3) i) :
    Calls Try.prog 32 #[v1, v2, v3] w fun e w' => e = .returned (.bool r) ∧ w' = w := by
  obtain ⟨a1, p1, rfl, hy1⟩ := hx1
  obtain ⟨a2, p2, rfl, hy2⟩ := hx2
  obtain ⟨a3, p3, rfl, hy3⟩ := hx3
  have H1 : Hid (uS w lo hi 1 k1 c1 (.slice a1 k1 p1)) := ⟨_, _, rfl, hy1⟩
  have H2 : Hid (uS w lo' hi' 1 k1 c2 (.slice a2 k1 p2)) := ⟨_, _, rfl, hy2⟩
  have H3 : Hid (uS w lo2 hi2 1 k3 c3 (.slice a3 k3 p3)) := ⟨_, _, rfl, hy3⟩
  have T1 := uhide ht1
  have T2 := uhide ht2
  have T3 := uhide ht3
  have hm3 := ht3.2.2.1
  unfold maxLen at hm3
  clear hy1 hy2 hy3 ht1 ht2 ht3
  by_cases h31 : k3 = k1
  rotate_left
  · have hrf := no_of hr (fun h => h31 h.1)
    subst hrf
    have hk' : ((k3 : Int) != (k1 : Int)) = true := by rw [bne_iff_ne]; omega
    clear hr H1 H2 H3 T1 T2 T3
    go_enter Try.func32, Try.ntmps32
    go_wp2
    go_ret
    exact ⟨rfl, rfl⟩
  subst h31
  have hk' : ((k3 : Int) != (k3 : Int)) = false := by simp
  have NO : Hid (∀ i, i < k3 → ¬ okRow (intL c1) (intL c2) (intL c3) i → r = false) := fun i hi hg => no_of hr (fun h => hg (h.2 i hi))
  have YES : Hid ((∀ i, i < k3 → okRow (intL c1) (intL c2) (intL c3) i) → r = true) := fun h => hr.2 ⟨rfl, h⟩
  clear hr
  go_enter Try.func32, Try.ntmps32
  go_wp2
  go_loopw [16] (fun i wr => ∃ (q : Nat), q ≤ k3 ∧ i = .int .i64 q ∧ Hid (∀ j, j < q → okRow (intL c1) (intL c2) (intL c3) j) ∧ wr = w) (fun i _ => k3 - (intOf i).toNat)
  case atStart => exact ⟨0, Nat.zero_le _, rfl, (fun j h => by omega), rfl⟩
  case round =>
    obtain ⟨q, hq, rfl, HE, rfl⟩ := hrel
    by_cases hlt : q < k3
    · obtain ⟨b1, off1, rfl, hb1, -⟩ := H1.out.cells (by omega)
      obtain ⟨b2, off2, rfl, hb2, -⟩ := H2.out.cells (by omega)
      obtain ⟨b3, off3, rfl, hb3, -⟩ := H3.out.cells (by omega)
      have q1 := cell_int T1.out H1.out q hlt
      have q2 := cell_int T2.out H2.out q hlt
      have q3 := cell_int T3.out H3.out q hlt
      have HX := uhide (within_any (gI (intL c3) q) (gI (intL c2) q))
      have HN : Hid (okRow (intL c1) (intL c2) (intL c3) q → ∀ j, j < q + 1 → okRow (intL c1) (intL c2) (intL c3) j) := fun hg j hj => by
        by_cases e : j = q
        · subst e; exact hg
        · exact HE.out j (by omega)
      have HF : Hid (¬ okRow (intL c1) (intL c2) (intL c3) q → r = false) := NO.out q hlt
      have DR : Hid (okRow (intL c1) (intL c2) (intL c3) q ↔ (0 ≤ gI (intL c3) q ∧ gI (intL c3) q ≤ gI (intL c2) q) ∧ ¬ (gI (intL c1) q = 0 ∧ 0 < gI (intL c3) q)) := Iff.rfl
      clear HE NO H1 H2 H3 T1 T2 T3
      generalize gI (intL c1) q = W at *
      generalize gI (intL c2) q = C at *
      generalize gI (intL c3) q = X at *
      by_cases hx : 0 ≤ X ∧ X ≤ C
      rotate_left
      · have hrf := HF.out (fun h => hx (DR.out.1 h).1)
        subst hrf
        rw [inB_f hx] at HX
        clear HF HN DR YES hx
        go_wp2_with fail
        refine (HX.out _).mono ?_
        rintro e w1 ⟨rfl, rfl⟩
        go_wp2
        go_ret
        exact ⟨rfl, rfl⟩
      rw [inB_t hx] at HX
      by_cases hw : W = 0
      · subst hw
        by_cases hx0 : X = 0
        · subst hx0
          have HN2 := uhide (HN.out (DR.out.2 ⟨hx, by omega⟩))
          have e1 : ((0 : Int) != 0) = false := by decide
          clear HF HN DR hx
          go_wp2_with fail
          refine (HX.out _).mono ?_
          rintro e w1 ⟨rfl, rfl⟩
          go_wp2
          go_roundw
          case rel => exact ⟨q + 1, by omega, by go_num, HN2, trivial⟩
          case measure => simp [intOf]; omega
        · have hrf := HF.out (fun h => (DR.out.1 h).2 ⟨rfl, by omega⟩)
          subst hrf
          have e1 : (X != 0) = true := by rw [bne_iff_ne]; exact hx0
          clear HF HN DR YES hx
          go_wp2_with fail
          refine (HX.out _).mono ?_
          rintro e w1 ⟨rfl, rfl⟩
          go_wp2
          go_ret
          exact ⟨rfl, rfl⟩
      · have HN2 := uhide (HN.out (DR.out.2 ⟨hx, fun h => hw h.1⟩))
        have e1 : (W == 0) = false := by rw [beq_eq_false_iff_ne]; exact hw
        clear HF HN DR hx
        go_wp2_with fail
        refine (HX.out _).mono ?_
        rintro e w1 ⟨rfl, rfl⟩
        go_wp2
        go_roundw
        case rel => exact ⟨q + 1, by omega, by go_num, HN2, trivial⟩
        case measure => simp [intOf]; omega
    · have e : q = k3 := by omega
      subst e
      have hrt := YES.out HE.out
      subst hrt
      go_wp2
      go_ret
      exact ⟨rfl, rfl⟩
/-- who is behind whom, as the program asks it -/
def behindAt (ws cs sh : List Int) (i k : Nat) : Prop := gI sh i ≠ gI cs i ∧ (gI sh i + 1) * gI ws k < (gI sh k - 1) * gI ws i
theorem behind_pair {ws cs sh : List Int} {i k : Nat} (gi : goodAt ws cs i) (gk : goodAt ws cs k) (oi : okRow ws cs sh i) (ok : okRow ws cs sh k) : behindAt ws cs sh i k ↔ ¬ okPair ws cs sh i k := by
  unfold goodAt at gi gk
  unfold okRow at oi ok
  unfold behindAt okPair
  rw [Decidable.not_not]
  constructor
  · rintro ⟨h1, h2⟩
    have hwi : 0 < gI ws i := by
      refine Int.not_le.1 (fun h => ?_)
      have e : gI ws i = 0 := by omega
      rw [e, Int.mul_zero] at h2
      have := Int.mul_nonneg (show 0 ≤ gI sh i + 1 by omega) gk.1.1
      omega
    have hwk : 0 < gI ws k := by
      refine Int.not_le.1 (fun h => ?_)
      have e : gI ws k = 0 := by omega
      have e2 : gI sh k = 0 := by omega
      rw [e, e2, Int.mul_zero] at h2
      omega
    refine ⟨?_, hwi, hwk, by omega, ok.1, h2⟩
    rintro rfl
    have := Int.mul_le_mul_of_nonneg_right (show gI sh k - 1 ≤ gI sh k + 1 by omega) (show 0 ≤ gI ws k by omega)
    omega
  · rintro ⟨-, -, -, h4, -, h6⟩
    exact ⟨by omega, h6⟩
set_option maxRecDepth 20000 in
set_option maxHeartbeats 6400000 in
theorem behind_any (k : Nat) (c1 c2 c3 : UD) (v1 v2 v3 : Value) (lo hi lo' hi' lo2 hi2 : Nat) (w : World) (r : Bool) (ht1 : tyS 1 k c1 1) (ht2 : tyS 1 k c2 1) (ht3 : tyS 1 k c3 1) (hx1 : uS w lo hi 1 k c1 v1) (hx2 : uS w lo' hi' 1 k c2 v2) (hx3 : uS w lo2 hi2 1 k c3 v3)
    (hg : ∀ i, i < k → goodAt (intL c1) (intL c2) i) (ho : ∀ i, i < k → okRow (intL c1) (intL c2) (intL c3) i) (hr : r = true ↔ ∃ i j, i < k ∧ j < k ∧ behindAt (intL c1) (intL c2) (intL c3) i j) :
    Calls Try.prog 33 #[v1, v2, v3] w fun e w' => e = .returned (.bool r) ∧ Below w.heap.size w w' := by
  obtain ⟨a1, p1, rfl, hy1⟩ := hx1
  obtain ⟨a2, p2, rfl, hy2⟩ := hx2
  obtain ⟨a3, p3, rfl, hy3⟩ := hx3
  have H1 : Hid (uS w lo hi 1 k c1 (.slice a1 k p1)) := ⟨_, _, rfl, hy1⟩
  have H2 : Hid (uS w lo' hi' 1 k c2 (.slice a2 k p2)) := ⟨_, _, rfl, hy2⟩
  have H3 : Hid (uS w lo2 hi2 1 k c3 (.slice a3 k p3)) := ⟨_, _, rfl, hy3⟩
  have T1 := uhide ht1
  have T2 := uhide ht2
  have T3 := uhide ht3
  have hm3 := ht3.2.2.1
  unfold maxLen at hm3
  have HG := uhide hg
  have HO := uhide ho
  have YES : Hid (∀ i j, i < k → j < k → behindAt (intL c1) (intL c2) (intL c3) i j → r = true) := fun i j hi hj h => hr.2 ⟨i, j, hi, hj, h⟩
  have NO : Hid ((∀ i j, i < k → j < k → ¬ behindAt (intL c1) (intL c2) (intL c3) i j) → r = false) := fun h => no_of hr (fun ⟨i, j, hi, hj, hb⟩ => h i j hi hj hb)
  clear hy1 hy2 hy3 ht1 ht2 ht3 hr hg ho
  go_enter Try.func33, Try.ntmps33
  go_wp2
  go_loopw [13] (fun i wr => ∃ (q : Nat), q ≤ k ∧ i = .int .i64 q ∧ Hid (∀ i, i < q → ∀ j, j < k → ¬ behindAt (intL c1) (intL c2) (intL c3) i j) ∧ Hid (Below w.heap.size w wr)) (fun i _ => k - (intOf i).toNat)
  case atStart => exact ⟨0, Nat.zero_le _, rfl, (fun j h => by omega), Below.refl _ _⟩
  case round =>
    obtain ⟨q, hq, rfl, HE, HB⟩ := hrel
    by_cases hlt : q < k
    · obtain ⟨b1, off1, rfl, hb1, -⟩ := (H1.out.below HB.out).cells (by omega)
      obtain ⟨b2, off2, rfl, hb2, -⟩ := (H2.out.below HB.out).cells (by omega)
      obtain ⟨b3, off3, rfl, hb3, -⟩ := (H3.out.below HB.out).cells (by omega)
      have q1 := cell_int T1.out (H1.out.below HB.out) q hlt
      have q2 := cell_int T2.out (H2.out.below HB.out) q hlt
      have q3 := cell_int T3.out (H3.out.below HB.out) q hlt
      have hgq := HG.out q hlt
      have hoq := HO.out q hlt
      unfold goodAt at hgq
      unfold okRow at hoq
      have HN : Hid ((∀ j, j < k → ¬ behindAt (intL c1) (intL c2) (intL c3) q j) → ∀ i, i < q + 1 → ∀ j, j < k → ¬ behindAt (intL c1) (intL c2) (intL c3) i j) := fun h i hi => by
        by_cases e : i = q
        · subst e; exact h
        · exact HE.out i (by omega)
      have HY : Hid (∀ j, j < k → behindAt (intL c1) (intL c2) (intL c3) q j → r = true) := fun j hj h => YES.out q j hlt hj h
      have DB : Hid (∀ j, behindAt (intL c1) (intL c2) (intL c3) q j ↔ gI (intL c3) q ≠ gI (intL c2) q ∧ (gI (intL c3) q + 1) * gI (intL c1) j < (gI (intL c3) j - 1) * gI (intL c1) q) := fun j => Iff.rfl
      have C1 : Hid (∀ wx, Below wr.heap.size wr wx → wx.cell? ⟨b1, off1 + q, none⟩ = some (.int .i64 (gI (intL c1) q))) := fun wx h => cell_int T1.out ((H1.out.below HB.out).below h) q hlt
      have BND : Hid (∀ wx, Below wr.heap.size wr wx → Below w.heap.size w wx) := fun wx h => HB.out.trans (h.mono HB.out.size)
      obtain ⟨⟨hg1, hg1'⟩, hg2, hg2'⟩ := hgq
      obtain ⟨⟨ho1, ho1'⟩, -⟩ := hoq
      clear HE YES NO
      generalize gI (intL c1) q = W at *
      generalize gI (intL c2) q = C at *
      generalize gI (intL c3) q = X at *
      by_cases hxc : X = C
      · have e1 : (X == C) = true := by rw [beq_iff_eq]; exact hxc
        have HN2 := uhide (HN.out (fun j hj h => (DB.out j |>.1 h).1 hxc))
        clear HN HY DB C1 BND HG HO H1 H2 H3 T1 T2 T3 hxc
        go_wp2
        go_roundw
        case rel => exact ⟨q + 1, by omega, by go_num, HN2, HB⟩
        case measure => simp [intOf]; omega
      · have e1 : (X == C) = false := by rw [beq_eq_false_iff_ne]; exact hxc
        go_wp2
        go_loopw [26] (fun i wx => ∃ (p : Nat), p ≤ k ∧ i = .int .i64 p ∧ Hid (∀ j, j < p → ¬ behindAt (intL c1) (intL c2) (intL c3) q j) ∧ Hid (Below wr.heap.size wr wx)) (fun i _ => k - (intOf i).toNat)
        case atStart => exact ⟨0, Nat.zero_le _, rfl, (fun j h => by omega), Below.refl _ _⟩
        case round =>
          obtain ⟨p, hp, rfl, HQ, HBx⟩ := hrel
          have HB2 := uhide (BND.out _ HBx.out)
          by_cases hpl : p < k
          · have q1 := C1.out _ HBx.out
            have r1 := cell_int T1.out (H1.out.below HB2.out) p hpl
            have r3 := cell_int T3.out (H3.out.below HB2.out) p hpl
            have hgp := HG.out p hpl
            have hop := HO.out p hpl
            unfold goodAt at hgp
            unfold okRow at hop
            obtain ⟨⟨hp1, hp1'⟩, hp2, hp2'⟩ := hgp
            obtain ⟨⟨hpo1, hpo1'⟩, -⟩ := hop
            have HD := uhide (DB.out p)
            have HF := uhide (HY.out p hpl)
            have HK : Hid (¬ behindAt (intL c1) (intL c2) (intL c3) q p → ∀ j, j < p + 1 → ¬ behindAt (intL c1) (intL c2) (intL c3) q j) := fun h j hj => by
              by_cases e : j = p
              · subst e; exact h
              · exact HQ.out j (by omega)
            generalize gI (intL c1) p = V at *
            generalize gI (intL c2) p = D at *
            generalize gI (intL c3) p = Y at *
            clear HQ HY DB C1 HG HO H1 H2 H3 T1 T2 T3 BND
            have m1 := prod_bd (a := X + 1) (b := V) (m := 10001) (n := 1000) (by omega) (by omega) (by omega) (by omega)
            have m2 := prod_bd (a := Y) (b := W) (m := 10000) (n := 1000) (by omega) (by omega) (by omega) (by omega)
            have m3 : -1000 ≤ (Y - 1) * W ∧ (Y - 1) * W ≤ 10000000 := by
              rw [Int.sub_mul, Int.one_mul]; omega
            clear m2
            by_cases hL : (X + 1) * V < (Y - 1) * W
            · have hrf := HF.out (HD.out.2 ⟨hxc, hL⟩)
              subst hrf
              clear HK HD HF HN
              go_wp2
              go_quiet (fail)
              go_wp2
              go_ret
              exact ⟨rfl, below_drewN HB2.out _⟩
            · have HK2 := uhide (HK.out (fun h => hL (HD.out.1 h).2))
              have z1 : decide ((X + 1) * V < (Y - 1) * W) = false := by rw [decide_eq_false_iff_not]; exact hL
              clear HK HD HF
              go_wp2
              go_quiet (fail)
              go_wp2
              go_roundw
              case rel => exact ⟨p + 1, by omega, by go_num, HK2, below_drewN HBx.out _⟩
              case measure => simp [intOf]; omega
          · have e : p = k := by omega
            subst e
            have HN3 := uhide (HN.out HQ.out)
            clear HQ HY DB C1 HG HO H1 H2 H3 T1 T2 T3 BND HN
            go_wp2
            go_roundw
            case rel => exact ⟨q + 1, by omega, by go_num, HN3, HB2⟩
            case measure => simp [intOf]; omega
    · have e : q = k := by omega
      subst e
      have hrf := NO.out (fun i j hi hj => HE.out i hi j hj)
      subst hrf
      go_wp2
      go_ret
      exact ⟨rfl, HB.out⟩
set_option maxRecDepth 20000 in
set_option maxHeartbeats 6400000 in
theorem iFair_any (n : Int) (k1 k2 k3 : Nat) (c1 c2 c3 : UD) (v1 v2 v3 : Value) (lo hi lo' hi' lo2 hi2 : Nat) (w : World) (r : Bool) (hn0 : inK .i64 n) (ht1 : tyS 1 k1 c1 1) (ht2 : tyS 1 k2 c2 1) (ht3 : tyS 1 k3 c3 1) (hx1 : uS w lo hi 1 k1 c1 v1) (hx2 : uS w lo' hi' 1 k2 c2 v2) (hx3 : uS w lo2 hi2 1 k3 c3 v3)
    (hr : r = true ↔ fairP n (intL c1) (intL c2) (intL c3)) :
    Calls Try.prog 14 #[.int .i64 n, v1, v2, v3] w fun e w' => e = .returned (.bool r) ∧ Below w.heap.size w w' := by
  obtain ⟨rr, hrr⟩ := bool_iff (rightP n (intL c1) (intL c2))
  have HR := uhide (divisionOk_any n k1 k2 c1 c2 v1 v2 lo hi lo' hi' w rr ht1 ht2 hx1 hx2 hrr)
  have hl1 := intL_len ht1
  have hl2 := intL_len ht2
  have hl3 := intL_len ht3
  have hm3 := ht3.2.2.1
  unfold maxLen at hm3
  clear hn0
  unfold fairP at hr
  cases rr
  · have hrf := no_of hr (fun h => by have := hrr.2 h.1; cases this)
    subst hrf
    obtain ⟨a1, p1, rfl, hy1⟩ := hx1
    obtain ⟨a2, p2, rfl, hy2⟩ := hx2
    obtain ⟨a3, p3, rfl, hy3⟩ := hx3
    clear hr hrr hl1 hl2 hl3 ht1 ht2 ht3 hy1 hy2 hy3
    go_enter Try.func14, Try.ntmps14
    go_wp2_with fail
    refine (HR.out).mono ?_
    rintro e w1 ⟨rfl, rfl⟩
    go_wp2
    go_ret
    exact ⟨rfl, Below.refl _ _⟩
  have hrp := hrr.1 rfl
  have HT : Hid (Calls Try.prog 11 #[.int .i64 n, v1, v2] w fun e w' => e = .returned (.int .i64 (totI n (intL c1) (intL c2))) ∧ w' = w) := iTotal0_any n k1 k2 c1 c2 v1 v2 lo hi lo' hi' w ht1 ht2 hx1 hx2 _ ⟨fun h => (h hrp).elim, fun _ => rfl⟩
  unfold rightP at hrp
  rw [hl1, hl2] at hrp
  obtain ⟨⟨hn, h64, hk2⟩, hg⟩ := hrp
  subst hk2
  obtain ⟨rs, hrs⟩ := bool_iff (k3 = k1 ∧ ∀ i, i < k1 → okRow (intL c1) (intL c2) (intL c3) i)
  have HS := uhide (sharesFit_any k1 k3 c1 c2 c3 v1 v2 v3 lo hi lo' hi' lo2 hi2 w rs ht1 ht2 ht3 hx1 hx2 hx3 hrs)
  cases rs
  · have hrf := no_of hr (fun h => by
      have := hrs.2 ⟨by rw [← hl3, ← hl1]; exact h.2.1, fun i hi => (h.2.2.1 i (by omega)).1⟩
      cases this)
    subst hrf
    obtain ⟨a1, p1, rfl, hy1⟩ := hx1
    obtain ⟨a2, p2, rfl, hy2⟩ := hx2
    obtain ⟨a3, p3, rfl, hy3⟩ := hx3
    clear hr hrr hl1 hl2 hl3 ht1 ht2 ht3 hy1 hy2 hy3 hg hrs HT
    go_enter Try.func14, Try.ntmps14
    go_wp2_with fail
    refine (HR.out).mono ?_
    rintro e w1 ⟨rfl, rfl⟩
    go_wp2_with fail
    refine (HS.out).mono ?_
    rintro e w1 ⟨rfl, rfl⟩
    go_wp2
    go_ret
    exact ⟨rfl, Below.refl _ _⟩
  obtain ⟨h31, ho⟩ := hrs.1 rfl
  subst h31
  obtain ⟨rb, hrb⟩ := bool_iff (∃ i j, i < k3 ∧ j < k3 ∧ behindAt (intL c1) (intL c2) (intL c3) i j)
  have HBH := uhide (behind_any k3 c1 c2 c3 v1 v2 v3 lo hi lo' hi' lo2 hi2 w rb ht1 ht2 ht3 hx1 hx2 hx3 hg ho hrb)
  have hr2 : r = true ↔ sumTo (gI (intL c3)) k3 = totI n (intL c1) (intL c2) ∧ rb = false := by
    rw [hr, hl1]
    constructor
    · rintro ⟨h1, h2, h3, h4⟩
      refine ⟨h4, no_of hrb ?_⟩
      rintro ⟨i, j, hi, hj, hb⟩
      exact (behind_pair (hg i hi) (hg j hj) (ho i hi) (ho j hj)).1 hb ((h3 i hi).2 j (by rw [hl1]; exact hj))
    · rintro ⟨h1, h2⟩
      refine ⟨hrr.1 rfl, by rw [hl3], fun i hi => ⟨ho i hi, fun j hj => ?_⟩, h1⟩
      rw [hl1] at hj
      refine Classical.byContradiction (fun hp => ?_)
      have := hrb.2 ⟨i, j, hi, hj, (behind_pair (hg i hi) (hg j hj) (ho i hi) (ho j hj)).2 hp⟩
      rw [h2] at this; cases this
  have SB : Hid (∀ q, q ≤ k3 → 0 ≤ sumTo (gI (intL c3)) q ∧ sumTo (gI (intL c3)) q ≤ 640000) := fun q hq => by
    have := sumTo_bd (f := gI (intL c3)) (m := 10000) (n := q) (fun i hi => by
      have h1 := (ho i (by omega)).1
      have h2 := (hg i (by omega)).2
      omega) q (Nat.le_refl _)
    omega
  obtain ⟨a1, p1, rfl, hy1⟩ := hx1
  obtain ⟨a2, p2, rfl, hy2⟩ := hx2
  obtain ⟨a3, p3, rfl, hy3⟩ := hx3
  have H3 : Hid (uS w lo2 hi2 1 k3 c3 (.slice a3 k3 p3)) := ⟨_, _, rfl, hy3⟩
  have T3 := uhide ht3
  have HR2 : Hid (r = true ↔ sumTo (gI (intL c3)) k3 = totI n (intL c1) (intL c2) ∧ rb = false) := hr2
  clear hr hr2 hrr hl1 hl2 hl3 ht1 ht2 ht3 hy1 hy2 hy3 hg hrs ho hrb
  go_enter Try.func14, Try.ntmps14
  go_wp2_with fail
  refine (HR.out).mono ?_
  rintro e w1 ⟨rfl, rfl⟩
  go_wp2_with fail
  refine (HS.out).mono ?_
  rintro e w1 ⟨rfl, rfl⟩
  clear HR HS
  go_wp2
  go_loopw [9, 26] (fun s i wr => ∃ (q : Nat), q ≤ k3 ∧ i = .int .i64 q ∧ s = .int .i64 (sumTo (gI (intL c3)) q) ∧ wr = w1) (fun _ i _ => k3 - (intOf i).toNat)
  case atStart => exact ⟨0, Nat.zero_le _, rfl, rfl, rfl⟩
  case round =>
    obtain ⟨q, hq, rfl, rfl, rfl⟩ := hrel
    have hsb := SB.out q hq
    by_cases hlt : q < k3
    · obtain ⟨b3, off3, rfl, hb3, -⟩ := H3.out.cells (by omega)
      have q3 := cell_int T3.out H3.out q hlt
      have hsb2 := SB.out (q + 1) (by omega)
      have hX := gI_in T3.out q hlt
      have HSS : Hid (sumTo (gI (intL c3)) (q + 1) = sumTo (gI (intL c3)) q + gI (intL c3) q) := rfl
      rw [show sumTo (gI (intL c3)) (q + 1) = sumTo (gI (intL c3)) q + gI (intL c3) q from rfl] at hsb2
      generalize sumTo (gI (intL c3)) q = S0 at *
      generalize gI (intL c3) q = X at *
      clear HR2 HBH HT SB
      go_wp2
      go_roundw
      case rel => exact ⟨q + 1, by omega, by go_num, by rw [HSS.out], trivial⟩
      case measure => simp [intOf]; omega
    · have e : q = k3 := by omega
      subst e
      clear H3 T3 SB
      generalize totI n (intL c1) (intL c2) = Z at *
      generalize sumTo (gI (intL c3)) q = S0 at *
      by_cases hz : S0 = Z
      · have e1 : (S0 == Z) = true := by rw [beq_iff_eq]; exact hz
        have HR3 : Hid (r = !rb) := by
          show r = !rb
          rw [Bool.eq_iff_iff, HR2.out]
          cases rb <;> simp [hz]
        clear HR2 hz
        go_wp2_with fail
        refine (HT.out).mono ?_
        rintro e w2 ⟨rfl, rfl⟩
        go_wp2_with fail
        refine (HBH.out).mono ?_
        rintro e w2 ⟨rfl, hb⟩
        go_wp2
        go_ret
        exact ⟨ret_bool HR3.out.symm, hb⟩
      · have e1 : (S0 == Z) = false := by rw [beq_eq_false_iff_ne]; exact hz
        have hrf := no_of HR2.out (fun h => hz h.1)
        subst hrf
        clear HR2 hz HBH
        go_wp2_with fail
        refine (HT.out).mono ?_
        rintro e w2 ⟨rfl, rfl⟩
        go_wp2
        go_ret
        exact ⟨rfl, Below.refl _ _⟩
end Go.Proofs.Ytidjjgiecaoboaa
