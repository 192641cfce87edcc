/- spec.FairOk. -/
import Derived.Test.YtidjjgiecaoboaaShrS
namespace Go.Proofs.Ytidjjgiecaoboaa
open Go.RowKit Go.BigFrame
set_option linter.unusedVariables false
/-- one share is as told -/
def okRow (ws cs sh : List Int) (i : Nat) : Prop := (0 ≤ gI sh i ∧ gI sh i ≤ gI cs i) ∧ ¬ (gI ws i = 0 ∧ 0 < gI sh i)
/-- of two nobody lacks what the other has too much -/
def okPair (ws cs sh : List Int) (i k : Nat) : Prop := ¬ (k ≠ i ∧ 0 < gI ws i ∧ 0 < gI ws k ∧ gI sh i < gI cs i ∧ (0 ≤ gI sh k ∧ gI sh k ≤ gI cs k) ∧ (gI sh i + 1) * gI ws k < (gI sh k - 1) * gI ws i)
def okAll (ws cs sh : List Int) (i : Nat) : Prop := okRow ws cs sh i ∧ ∀ k, k < ws.length → okPair ws cs sh i k
def fairP (n : Int) (ws cs sh : List Int) : Prop := rightP n ws cs ∧ sh.length = ws.length ∧ (∀ i, i < ws.length → okAll ws cs sh i) ∧ sumTo (gI sh) ws.length = totI n ws cs
theorem prod_bd {a b m n : Int} (ha : 0 ≤ a) (ha' : a ≤ m) (hb : 0 ≤ b) (hb' : b ≤ n) : 0 ≤ a * b ∧ a * b ≤ m * n := ⟨Int.mul_nonneg ha hb, Int.mul_le_mul ha' hb' hb (by omega)⟩
set_option maxRecDepth 20000 in
set_option maxHeartbeats 6400000 in
theorem sFair_any (n : Int) (k1 k2 k3 : Nat) (c1 c2 c3 : UD) (v1 v2 v3 : Value) (lo hi lo' hi' lo2 hi2 : Nat) (w : World) (r : Bool) (ht1 : tyS 1 k1 c1 1) (ht2 : tyS 1 k2 c2 1) (ht3 : tyS 1 k3 c3 1) (hx1 : uS w lo hi 1 k1 c1 v1) (hx2 : uS w lo' hi' 1 k2 c2 v2) (hx3 : uS w lo2 hi2 1 k3 c3 v3)
    (hr : r = true ↔ fairP n (intL c1) (intL c2) (intL c3)) :
    Calls Try.prog 15 #[.int .i64 n, v1, v2, v3] w fun e w' => e = .returned (.bool r) ∧ Below w.heap.size w w' := by
  obtain ⟨rr, hrr⟩ := bool_iff (rightP n (intL c1) (intL c2))
  have HR := uhide (l6Right_any n k1 k2 c1 c2 v1 v2 lo hi lo' hi' w rr ht1 ht2 hx1 hx2 hrr)
  have HT : Hid (∀ wx, Below w.heap.size w wx → rightP n (intL c1) (intL c2) → Calls Try.prog 12 #[.int .i64 n, v1, v2] wx fun e w' => e = .returned (.int .i64 (totI n (intL c1) (intL c2))) ∧ w' = wx) := fun wx hb hp => sTotal_any n k1 k2 c1 c2 v1 v2 lo hi lo' hi' wx ht1 ht2 (hx1.below hb) (hx2.below hb) _ ⟨fun h => (h hp).elim, fun _ => rfl⟩
  obtain ⟨a1, p1, rfl, hy1⟩ := hx1
  obtain ⟨a2, p2, rfl, hy2⟩ := hx2
  obtain ⟨a3, p3, rfl, hy3⟩ := hx3
  have H1 : Hid (uS w lo hi 1 k1 c1 (.slice a1 k1 p1)) := ⟨_, _, rfl, hy1⟩
  have H2 : Hid (uS w lo' hi' 1 k2 c2 (.slice a2 k2 p2)) := ⟨_, _, rfl, hy2⟩
  have H3 : Hid (uS w lo2 hi2 1 k3 c3 (.slice a3 k3 p3)) := ⟨_, _, rfl, hy3⟩
  have T1 := uhide ht1
  have T2 := uhide ht2
  have T3 := uhide ht3
  have hl1 := intL_len ht1
  have hl2 := intL_len ht2
  have hl3 := intL_len ht3
  have hm3 := ht3.2.2.1
  have hm1 := ht1.2.2.1
  unfold maxLen at hm1 hm3
  unfold fairP at hr
  have no : ∀ {p : Prop}, (r = true ↔ p) → ¬ p → r = false := fun h hp => by
    cases r
    · rfl
    · exact (hp (h.1 rfl)).elim
  cases rr
  · have hrf := no hr (fun h => by have := hrr.2 h.1; cases this)
    subst hrf
    clear hy1 hy2 hy3 ht1 ht2 ht3 hl1 hl2 hl3 hr no HT hrr H1 H2 H3 T1 T2 T3
    go_enter Try.func15, Try.ntmps15
    go_wp2_with fail
    refine (HR.out).mono ?_
    rintro e w1 ⟨rfl, rfl⟩
    go_wp2
    go_ret
    exact ⟨rfl, Below.refl _ _⟩
  have hrp := hrr.1 rfl
  by_cases h31 : k3 = k1
  rotate_left
  · have hrf := no hr (fun h => by rw [hl1, hl3] at h; exact h31 h.2.1)
    subst hrf
    have hk' : ((k3 : Int) != (k1 : Int)) = true := by rw [bne_iff_ne]; omega
    clear hy1 hy2 hy3 ht1 ht2 ht3 hl1 hl2 hl3 hr no HT hrr H1 H2 H3 T1 T2 T3 hrp
    go_enter Try.func15, Try.ntmps15
    go_wp2_with fail
    refine (HR.out).mono ?_
    rintro e w1 ⟨rfl, rfl⟩
    go_wp2
    go_ret
    exact ⟨rfl, Below.refl _ _⟩
  subst h31
  have hk' : ((k3 : Int) != (k3 : Int)) = false := by simp
  have HT2 : Hid (∀ wx, Below w.heap.size w wx → Calls Try.prog 12 #[.int .i64 n, .slice a1 k3 p1, .slice a2 k2 p2] wx fun e w' => e = .returned (.int .i64 (totI n (intL c1) (intL c2))) ∧ w' = wx) := fun wx hb => HT.out wx hb hrp
  have HR2 : Hid (r = true ↔ (∀ i, i < k3 → okAll (intL c1) (intL c2) (intL c3) i) ∧ sumTo (gI (intL c3)) k3 = totI n (intL c1) (intL c2)) := by
    show _ ↔ _
    rw [hr, hl1, hl3]
    exact ⟨fun h => h.2.2, fun h => ⟨hrp, rfl, h⟩⟩
  have NO : Hid (∀ i, i < k3 → ¬ okRow (intL c1) (intL c2) (intL c3) i → r = false) := fun i hi hg => no hr (fun h => hg (h.2.2.1 i (by omega)).1)
  have NP : Hid (∀ i k, i < k3 → k < k3 → ¬ okPair (intL c1) (intL c2) (intL c3) i k → r = false) := fun i k hi hk hg => no hr (fun h => hg ((h.2.2.1 i (by omega)).2 k (by omega)))
  have MK : Hid (∀ i, okRow (intL c1) (intL c2) (intL c3) i → (∀ k, k < k3 → okPair (intL c1) (intL c2) (intL c3) i k) → okAll (intL c1) (intL c2) (intL c3) i) := fun i h1 h2 => ⟨h1, fun k hk => h2 k (by omega)⟩
  have MR : Hid (∀ i, okAll (intL c1) (intL c2) (intL c3) i → okRow (intL c1) (intL c2) (intL c3) i) := fun i h => h.1
  unfold rightP at hrp
  rw [hl1, hl2] at hrp
  obtain ⟨⟨hn, h64, hk2⟩, hg⟩ := hrp
  have HG : Hid (∀ i, i < k3 → goodAt (intL c1) (intL c2) i) := hg
  subst hk2
  clear hr no hrr hg hl1 hl2 hl3 hy1 hy2 hy3 ht1 ht2 ht3 HT
  have SB : Hid (∀ q, q ≤ k3 → (∀ j, j < q → okAll (intL c1) (intL c2) (intL c3) j) → 0 ≤ sumTo (gI (intL c3)) q ∧ sumTo (gI (intL c3)) q ≤ 640000) := fun q hq h => by
    have := sumTo_bd (f := gI (intL c3)) (m := 10000) (n := q) (fun i hi => by
      have h1 := (h i hi).1.1
      have h2 := (HG.out i (by omega)).2
      omega) q (Nat.le_refl _)
    omega
  go_enter Try.func15, Try.ntmps15
  go_wp2_with fail
  refine (HR.out).mono ?_
  rintro e w1 ⟨rfl, rfl⟩
  clear HR
  go_wp2
  go_loopw [9, 10] (fun s i wr => ∃ (q : Nat), q ≤ k3 ∧ i = .int .i64 q ∧ s = .int .i64 (sumTo (gI (intL c3)) q) ∧ Hid (∀ j, j < q → okAll (intL c1) (intL c2) (intL c3) j) ∧ Hid (Below w1.heap.size w1 wr)) (fun _ i _ => k3 - (intOf i).toNat)
  case atStart => exact ⟨0, Nat.zero_le _, rfl, rfl, (fun j h => by omega), Below.refl _ _⟩
  case round =>
    obtain ⟨q, hq, rfl, rfl, HE, HB⟩ := hrel
    have hsb := SB.out q hq HE.out
    by_cases hlt : q < k3
    · obtain ⟨b1, off1, rfl, hb1, -⟩ := (H1.out.below HB.out).cells (by omega)
      obtain ⟨b2, off2, rfl, hb2, -⟩ := (H2.out.below HB.out).cells (by omega)
      obtain ⟨b3, off3, rfl, hb3, -⟩ := (H3.out.below HB.out).cells (by omega)
      have q1 := cell_int T1.out (H1.out.below HB.out) q hlt
      have q2 := cell_int T2.out (H2.out.below HB.out) q hlt
      have q3 := cell_int T3.out (H3.out.below HB.out) q hlt
      have hX := gI_in T3.out q hlt
      have hgq := HG.out q hlt
      unfold goodAt at hgq
      have HNO := uhide (NO.out q hlt)
      have HNP : Hid (∀ k, k < k3 → ¬ okPair (intL c1) (intL c2) (intL c3) q k → r = false) := fun k hk => NP.out q k hlt hk
      have HS : Hid (sumTo (gI (intL c3)) (q + 1) = sumTo (gI (intL c3)) q + gI (intL c3) q) := rfl
      have HN : Hid (okRow (intL c1) (intL c2) (intL c3) q → (∀ k, k < k3 → okPair (intL c1) (intL c2) (intL c3) q k) → ∀ j, j < q + 1 → okAll (intL c1) (intL c2) (intL c3) j) := fun h1 h2 j hj => by
        by_cases e : j = q
        · subst e; exact MK.out j h1 h2
        · exact HE.out j (by omega)
      have DR : Hid (okRow (intL c1) (intL c2) (intL c3) q ↔ (0 ≤ gI (intL c3) q ∧ gI (intL c3) q ≤ gI (intL c2) q) ∧ ¬ (gI (intL c1) q = 0 ∧ 0 < gI (intL c3) q)) := Iff.rfl
      have DP : Hid (∀ k, okPair (intL c1) (intL c2) (intL c3) q k ↔ ¬ (k ≠ q ∧ 0 < gI (intL c1) q ∧ 0 < gI (intL c1) k ∧ gI (intL c3) q < gI (intL c2) q ∧ (0 ≤ gI (intL c3) k ∧ gI (intL c3) k ≤ gI (intL c2) k) ∧ (gI (intL c3) q + 1) * gI (intL c1) k < (gI (intL c3) k - 1) * gI (intL c1) q)) := fun k => Iff.rfl
      have HI := uhide (l1In_any (gI (intL c3) q) 0 (gI (intL c2) q))
      have C1 : Hid (∀ wx, Below wr.heap.size wr wx → wx.cell? ⟨b1, off1 + q, none⟩ = some (.int .i64 (gI (intL c1) q))) := fun wx h => cell_int T1.out ((H1.out.below HB.out).below h) q hlt
      have C2 : Hid (∀ wx, Below wr.heap.size wr wx → wx.cell? ⟨b2, off2 + q, none⟩ = some (.int .i64 (gI (intL c2) q))) := fun wx h => cell_int T2.out ((H2.out.below HB.out).below h) q hlt
      have C3 : Hid (∀ wx, Below wr.heap.size wr wx → wx.cell? ⟨b3, off3 + q, none⟩ = some (.int .i64 (gI (intL c3) q))) := fun wx h => cell_int T3.out ((H3.out.below HB.out).below h) q hlt
      have HGG := HG
      obtain ⟨hg1, hg2⟩ := hgq
      generalize sumTo (gI (intL c3)) q = S0 at *
      generalize gI (intL c1) q = W at *
      generalize gI (intL c2) q = C at *
      generalize gI (intL c3) q = X at *
      have BND : Hid (∀ wx, Below wr.heap.size wr wx → Below w1.heap.size w1 wx) := fun wx h => HB.out.trans (h.mono HB.out.size)
      clear NO NP MK MR SB HT2 HR2 HE
      by_cases hx : 0 ≤ X ∧ X ≤ C
      rotate_left
      · have hrf := HNO.out (fun h => hx (DR.out.1 h).1)
        subst hrf
        rw [inB_f hx] at HI
        clear HNO HNP HN DR DP HG H1 H2 H3 T1 T2 T3
        go_wp2
        go_quiet ((go_at_call 34; exact Calls.quiet_of_same (HI.out _)))
        go_wp2
        go_ret
        exact ⟨rfl, below_drewN HB.out _⟩
      rw [inB_t hx] at HI
      by_cases hw0 : W = 0
      · have w0 : (W == 0) = true := by rw [beq_iff_eq]; exact hw0
        by_cases hxp : 0 < X
        · have hrf := HNO.out (fun h => (DR.out.1 h).2 ⟨hw0, hxp⟩)
          subst hrf
          have x0 : decide ((0 : Int) < X) = true := by rw [decide_eq_true_eq]; exact hxp
          clear HNO HNP HN DR DP HG H1 H2 H3 T1 T2 T3
          go_wp2
          go_quiet ((go_at_call 34; exact Calls.quiet_of_same (HI.out _)))
          go_wp2
          go_ret
          exact ⟨rfl, below_drewN HB.out _⟩
        · have HN2 := uhide (HN.out (DR.out.2 ⟨hx, fun h => hxp h.2⟩))
          have x0 : decide ((0 : Int) < X) = false := by rw [decide_eq_false_iff_not]; exact hxp
          clear HN DR HNO HG
          go_wp2
          go_quiet ((go_at_call 34; exact Calls.quiet_of_same (HI.out _)))
          go_wp2
          clear HI q1 q2 q3
          go_loopw [11] (fun k wx => ∃ (p : Nat), p ≤ k3 ∧ k = .int .i64 p ∧ Hid (∀ j, j < p → okPair (intL c1) (intL c2) (intL c3) q j) ∧ Hid (Below wr.heap.size wr wx)) (fun k _ => k3 - (intOf k).toNat)
          case atStart => exact ⟨0, Nat.zero_le _, rfl, (fun j h => by omega), below_drewN (Below.refl _ _) _⟩
          case round =>
            obtain ⟨p, hp, rfl, HQ, HBx⟩ := hrel
            have HB2 := uhide (BND.out _ HBx.out)
            by_cases hpl : p < k3
            · have q1 := C1.out _ HBx.out
              have q2 := C2.out _ HBx.out
              have q3 := C3.out _ HBx.out
              have r1 := cell_int T1.out (H1.out.below HB2.out) p hpl
              have r2 := cell_int T2.out (H2.out.below HB2.out) p hpl
              have r3 := cell_int T3.out (H3.out.below HB2.out) p hpl
              have hgp := HGG.out p hpl
              unfold goodAt at hgp
              obtain ⟨hp1, hp2⟩ := hgp
              have HP := uhide (DP.out p)
              have HF := uhide (HNP.out p hpl)
              have HK : Hid (okPair (intL c1) (intL c2) (intL c3) q p → ∀ j, j < p + 1 → okPair (intL c1) (intL c2) (intL c3) q j) := fun h j hj => by
                by_cases e : j = p
                · subst e; exact h
                · exact HQ.out j (by omega)
              have HI := uhide (l1In_any (gI (intL c3) p) 0 (gI (intL c2) p))
              generalize gI (intL c1) p = V at *
              generalize gI (intL c2) p = D at *
              generalize gI (intL c3) p = Y at *
              clear HQ HNP DP HGG C1 C2 C3
              by_cases hpq : p = q
              · have z0 : ((p : Int) != (q : Int)) = false := by rw [bne_eq_false_iff_eq]; omega
                have HK2 := uhide (HK.out (HP.out.2 (fun h => h.1 hpq)))
                clear HK HP HF
                clear H1 H2 H3 T1 T2 T3
                go_wp2
                go_quiet ((go_at_call 34; exact Calls.quiet_of_same (HI.out _)))
                go_wp2
                go_roundw
                case rel => exact ⟨p + 1, by omega, by go_num, HK2, below_drewN HBx.out _⟩
                case measure => simp [intOf]; omega
              have z0 : ((p : Int) != (q : Int)) = true := by rw [bne_iff_ne]; omega
              by_cases hW : 0 < W
              rotate_left
              · have z1 : decide ((0 : Int) < W) = false := by rw [decide_eq_false_iff_not]; exact hW
                have HK2 := uhide (HK.out (HP.out.2 (fun h => hW h.2.1)))
                clear HK HP HF
                clear H1 H2 H3 T1 T2 T3
                go_wp2
                go_quiet ((go_at_call 34; exact Calls.quiet_of_same (HI.out _)))
                go_wp2
                go_roundw
                case rel => exact ⟨p + 1, by omega, by go_num, HK2, below_drewN HBx.out _⟩
                case measure => simp [intOf]; omega
              exfalso; omega
            · have e : p = k3 := by omega
              subst e
              have HN3 := uhide (HN2.out HQ.out)
              clear HQ HNP DP HGG C1 C2 C3 H1 H2 H3 T1 T2 T3 HN2
              go_wp2
              go_roundw
              case rel => exact ⟨q + 1, by omega, by go_num, by rw [HS.out], HN3, HB2⟩
              case measure => simp [intOf]; omega
      · have w0 : (W == 0) = false := by rw [beq_eq_false_iff_ne]; exact hw0
        have HN2 := uhide (HN.out (DR.out.2 ⟨hx, fun h => hw0 h.1⟩))
        clear HN DR HNO HG
        go_wp2
        go_quiet ((go_at_call 34; exact Calls.quiet_of_same (HI.out _)))
        go_wp2
        clear HI q1 q2 q3
        go_loopw [11] (fun k wx => ∃ (p : Nat), p ≤ k3 ∧ k = .int .i64 p ∧ Hid (∀ j, j < p → okPair (intL c1) (intL c2) (intL c3) q j) ∧ Hid (Below wr.heap.size wr wx)) (fun k _ => k3 - (intOf k).toNat)
        case atStart => exact ⟨0, Nat.zero_le _, rfl, (fun j h => by omega), below_drewN (Below.refl _ _) _⟩
        case round =>
          obtain ⟨p, hp, rfl, HQ, HBx⟩ := hrel
          have HB2 := uhide (BND.out _ HBx.out)
          by_cases hpl : p < k3
          · have q1 := C1.out _ HBx.out
            have q2 := C2.out _ HBx.out
            have q3 := C3.out _ HBx.out
            have r1 := cell_int T1.out (H1.out.below HB2.out) p hpl
            have r2 := cell_int T2.out (H2.out.below HB2.out) p hpl
            have r3 := cell_int T3.out (H3.out.below HB2.out) p hpl
            have hgp := HGG.out p hpl
            unfold goodAt at hgp
            obtain ⟨hp1, hp2⟩ := hgp
            have HP := uhide (DP.out p)
            have HF := uhide (HNP.out p hpl)
            have HK : Hid (okPair (intL c1) (intL c2) (intL c3) q p → ∀ j, j < p + 1 → okPair (intL c1) (intL c2) (intL c3) q j) := fun h j hj => by
              by_cases e : j = p
              · subst e; exact h
              · exact HQ.out j (by omega)
            have HI := uhide (l1In_any (gI (intL c3) p) 0 (gI (intL c2) p))
            generalize gI (intL c1) p = V at *
            generalize gI (intL c2) p = D at *
            generalize gI (intL c3) p = Y at *
            clear HQ HNP DP HGG C1 C2 C3
            by_cases hpq : p = q
            · have z0 : ((p : Int) != (q : Int)) = false := by rw [bne_eq_false_iff_eq]; omega
              have HK2 := uhide (HK.out (HP.out.2 (fun h => h.1 hpq)))
              clear HK HP HF
              clear H1 H2 H3 T1 T2 T3
              go_wp2
              go_quiet ((go_at_call 34; exact Calls.quiet_of_same (HI.out _)))
              go_wp2
              go_roundw
              case rel => exact ⟨p + 1, by omega, by go_num, HK2, below_drewN HBx.out _⟩
              case measure => simp [intOf]; omega
            have z0 : ((p : Int) != (q : Int)) = true := by rw [bne_iff_ne]; omega
            by_cases hW : 0 < W
            rotate_left
            · have z1 : decide ((0 : Int) < W) = false := by rw [decide_eq_false_iff_not]; exact hW
              have HK2 := uhide (HK.out (HP.out.2 (fun h => hW h.2.1)))
              clear HK HP HF
              clear H1 H2 H3 T1 T2 T3
              go_wp2
              go_quiet ((go_at_call 34; exact Calls.quiet_of_same (HI.out _)))
              go_wp2
              go_roundw
              case rel => exact ⟨p + 1, by omega, by go_num, HK2, below_drewN HBx.out _⟩
              case measure => simp [intOf]; omega
            by_cases hV : 0 < V
            rotate_left
            · have z1 : decide ((0 : Int) < V) = false := by rw [decide_eq_false_iff_not]; exact hV
              have HK2 := uhide (HK.out (HP.out.2 (fun h => hV h.2.2.1)))
              clear HK HP HF
              clear H1 H2 H3 T1 T2 T3
              go_wp2
              go_quiet ((go_at_call 34; exact Calls.quiet_of_same (HI.out _)))
              go_wp2
              go_roundw
              case rel => exact ⟨p + 1, by omega, by go_num, HK2, below_drewN HBx.out _⟩
              case measure => simp [intOf]; omega
            by_cases hXC : X < C
            rotate_left
            · have z1 : decide (X < C) = false := by rw [decide_eq_false_iff_not]; exact hXC
              have HK2 := uhide (HK.out (HP.out.2 (fun h => hXC h.2.2.2.1)))
              clear HK HP HF
              clear H1 H2 H3 T1 T2 T3
              go_wp2
              go_quiet ((go_at_call 34; exact Calls.quiet_of_same (HI.out _)))
              go_wp2
              go_roundw
              case rel => exact ⟨p + 1, by omega, by go_num, HK2, below_drewN HBx.out _⟩
              case measure => simp [intOf]; omega
            by_cases hY : 0 ≤ Y ∧ Y ≤ D
            rotate_left
            · have HK2 := uhide (HK.out (HP.out.2 (fun h => hY h.2.2.2.2.1)))
              rw [inB_f hY] at HI
              clear HK HP HF
              clear H1 H2 H3 T1 T2 T3
              go_wp2
              go_quiet ((go_at_call 34; exact Calls.quiet_of_same (HI.out _)))
              go_wp2
              go_roundw
              case rel => exact ⟨p + 1, by omega, by go_num, HK2, below_drewN HBx.out _⟩
              case measure => simp [intOf]; omega
            rw [inB_t hY] at HI
            have m1 := prod_bd (a := X + 1) (b := V) (m := 10001) (n := 1000) (by omega) (by omega) (by omega) (by omega)
            have m2 := prod_bd (a := Y) (b := W) (m := 10000) (n := 1000) (by omega) (by omega) (by omega) (by omega)
            have m3 : -1000 ≤ (Y - 1) * W ∧ (Y - 1) * W ≤ 10000000 := by
              rw [Int.sub_mul, Int.one_mul]; omega
            clear m2
            by_cases hL : (X + 1) * V < (Y - 1) * W
            · have hrf := HF.out (fun h => HP.out.1 h ⟨hpq, hW, hV, hXC, hY, hL⟩)
              subst hrf
              clear HK HP HF H1 H2 H3 T1 T2 T3
              go_wp2
              go_quiet ((go_at_call 34; exact Calls.quiet_of_same (HI.out _)))
              go_wp2
              go_ret
              exact ⟨rfl, below_drewN HB2.out _⟩
            · have HK2 := uhide (HK.out (HP.out.2 (fun h => hL h.2.2.2.2.2)))
              have z1 : decide ((X + 1) * V < (Y - 1) * W) = false := by rw [decide_eq_false_iff_not]; exact hL
              clear HK HP HF
              clear H1 H2 H3 T1 T2 T3
              go_wp2
              go_quiet ((go_at_call 34; exact Calls.quiet_of_same (HI.out _)))
              go_wp2
              go_roundw
              case rel => exact ⟨p + 1, by omega, by go_num, HK2, below_drewN HBx.out _⟩
              case measure => simp [intOf]; omega
          · have e : p = k3 := by omega
            subst e
            have HN3 := uhide (HN2.out HQ.out)
            clear HQ HNP DP HGG C1 C2 C3 H1 H2 H3 T1 T2 T3 HN2
            go_wp2
            go_roundw
            case rel => exact ⟨q + 1, by omega, by go_num, by rw [HS.out], HN3, HB2⟩
            case measure => simp [intOf]; omega
    · have e : q = k3 := by omega
      subst e
      clear NO NP MK MR SB HG
      have HRz : Hid (r = true ↔ sumTo (gI (intL c3)) q = totI n (intL c1) (intL c2)) := HR2.out.trans ⟨fun h => h.2, fun h => ⟨HE.out, h⟩⟩
      have HTz := uhide (HT2.out _ HB.out)
      generalize totI n (intL c1) (intL c2) = Z at *
      generalize sumTo (gI (intL c3)) q = S0 at *
      clear HR2 HT2 HE H1 H2 H3 T1 T2 T3
      go_wp2_with fail
      refine (HTz.out).mono ?_
      rintro e w2 ⟨rfl, rfl⟩
      go_wp2
      go_ret
      exact ⟨ret_bool (by rw [Bool.eq_iff_iff, HRz.out]; simp), HB.out⟩
end Go.Proofs.Ytidjjgiecaoboaa
