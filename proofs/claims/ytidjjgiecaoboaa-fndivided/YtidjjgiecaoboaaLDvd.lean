/- FnDivided: the walk. -/
import Derived.Test.YtidjjgiecaoboaaDrwE
import Derived.Test.YtidjjgiecaoboaaShrT
import Derived.Test.YtidjjgiecaoboaaShrV
import Derived.Deep.QuietTactic
namespace Go.Proofs.Ytidjjgiecaoboaa
open Go.RowKit Go.BigFrame
set_option linter.unusedVariables false
/-- what the program's Total, Divide answer -/
def TotI : Prop := ∀ (n : Int) (k1 k2 : Nat) (c1 c2 : UD) (v1 v2 : Value) (lo hi lo' hi' : Nat) (w : World) (hn : inK .i64 n) (ht1 : tyS 1 k1 c1 1) (ht2 : tyS 1 k2 c2 1) (hx1 : uS w lo hi 1 k1 c1 v1) (hx2 : uS w lo' hi' 1 k2 c2 v2) (z : Int) (hz : (¬ rightP n (intL c1) (intL c2) → z = -1) ∧ (rightP n (intL c1) (intL c2) → z = totI n (intL c1) (intL c2))),
    Calls Try.prog 11 #[.int .i64 n, v1, v2] w fun e w' => e = .returned (.int .i64 z) ∧ Below w.heap.size w w'
def DivI : Prop := ∀ (n : Int) (k1 k2 : Nat) (c1 c2 : UD) (v1 v2 : Value) (lo hi lo' hi' : Nat) (w : World) (hn : inK .i64 n) (ht1 : tyS 1 k1 c1 1) (ht2 : tyS 1 k2 c2 1) (hx1 : uS w lo hi 1 k1 c1 v1) (hx2 : uS w lo' hi' 1 k2 c2 v2) (z : List Int) (hz : (¬ rightP n (intL c1) (intL c2) → z = []) ∧ (rightP n (intL c1) (intL c2) → z = divL n (intL c1) (intL c2))),
    Calls Try.prog 10 #[.int .i64 n, v1, v2] w fun e w' => ∃ c S, e = .returned c ∧ oS w' 1 z.length (ofInts z) c S ∧ own2 S w.heap.size w'.heap.size ∧ Below w.heap.size w w'
theorem gI_ofFn {n : Nat} {f : Nat → Int} {q : Nat} (h : q < n) : gI (ofFn n f) q = f q := by
  rw [gI_get (by rw [ofFn_len]; exact h), ofFn_get]
theorem tot_bd {n : Int} {ws cs : List Int} (h : rightP n ws cs) : 0 ≤ totI n ws cs ∧ totI n ws cs ≤ 640000 := by
  unfold rightP at h
  have := sumTo_bd (f := capW ws cs) (m := 10000) (n := ws.length) (fun i hi => by
    have := h.2 i hi
    unfold capW; split <;> omega) ws.length (Nat.le_refl _)
  unfold totI
  split <;> omega
set_option maxRecDepth 100000 in
set_option maxHeartbeats 3200000 in
theorem fnDivided_walk (HIT : TotI) (HID : DivI) (n cap : Nat) (a : Option Addr) (w : World) (hl : n ≤ maxLen) (hc : codeAll w a n) :
    Calls Try.prog 3 #[.slice a n cap] w fun e w' => e = .returned (.bool true) ∧ Below w.heap.size w w' := by
  have hbig := fun wx => big_any n cap a wx
  by_cases hb : 1048576 < n
  · rw [decide_eq_true hb] at hbig
    have HB := hide hbig
    clear hbig hc hl
    go_enter Try.func3, Try.ntmps3
    go_wp2_with (go_at_call 8; refine (HB.out _).mono ?_; rintro e w ⟨rfl, rfl⟩)
    go_ret
    exact ⟨rfl, Below.refl _ _⟩
  rw [decide_eq_false hb] at hbig
  have HB := hide hbig
  have HD := hide (drawDivide_any n cap a w (by omega) hc)
  clear hbig hc hl hb
  go_enter Try.func3, Try.ntmps3
  go_wp2_with (first | (go_at_call 8; refine (HB.out _).mono ?_; rintro e w ⟨rfl, rfl⟩) | (go_at_call 9; refine HD.out.mono ?_; rintro e w1 ⟨z, v, u, ws, cs, rfl, hz, Gw, Gc, V0, U0, B1⟩))
  have V := hide V0.out.uS
  have U := hide U0.out.uS
  have T1 := hide (Gw.out.ty (by omega))
  have T2 := hide (Gc.out.ty (by omega))
  have hz' := hz.out
  have hlw := Gw.out.1
  have hlc := Gc.out.1
  clear V0 U0 HD HB
  by_cases hp : rightP z ws cs
  rotate_left
  · have H1 := hide (fun wx hb => HID z ws.length cs.length (ofInts ws) (ofInts cs) v u 0 w1.heap.size 0 w1.heap.size wx hz' T1.out T2.out (V.out.below hb) (U.out.below hb) [] ⟨fun _ => rfl, fun h => by rw [intL_of, intL_of] at h; exact (hp h).elim⟩)
    have H2 := hide (fun wx hb => HIT z ws.length cs.length (ofInts ws) (ofInts cs) v u 0 w1.heap.size 0 w1.heap.size wx hz' T1.out T2.out (V.out.below hb) (U.out.below hb) (-1) ⟨fun _ => rfl, fun h => by rw [intL_of, intL_of] at h; exact (hp h).elim⟩)
    have H3 := hide (fun wx hb => sTotal_any z ws.length cs.length (ofInts ws) (ofInts cs) v u 0 w1.heap.size 0 w1.heap.size wx T1.out T2.out (V.out.below hb) (U.out.below hb) (-1) ⟨fun _ => rfl, fun h => by rw [intL_of, intL_of] at h; exact (hp h).elim⟩)
    clear V U T1 T2 Gw Gc HID HIT hp
    go_wp2_with fail
    refine (H1.out w1 (Below.refl _ _)).mono ?_
    rintro e w2 ⟨c, S, rfl, ho, hS, hb2⟩
    obtain ⟨ca, cp, rfl⟩ := ho.slice
    have B2 := hide hb2
    clear ho hS hb2
    go_wp2_with fail
    refine (H2.out w2 B2.out).mono ?_
    rintro e w3 ⟨rfl, hb3⟩
    have B3 : Hid (Below w1.heap.size w1 w3) := B2.out.trans (hb3.mono B2.out.size)
    clear hb3 B2
    go_wp2_with fail
    refine (H3.out w3 B3.out).mono ?_
    rintro e w4 ⟨rfl, rfl⟩
    go_wp2_with fail
    refine (H3.out _ B3.out).mono ?_
    rintro e w5 ⟨rfl, rfl⟩
    go_wp2
    go_ret
    exact ⟨rfl, B1.out.trans (B3.out.mono B1.out.size)⟩
  · have hp' := hp
    unfold rightP at hp'
    obtain ⟨⟨hzb, h64, hk⟩, hg⟩ := hp'
    obtain ⟨ht0, ht1⟩ := tot_bd hp
    have hws : ∀ i, 0 ≤ gI ws i := gI_nn (fun i hi => (hg i hi).1.1)
    have hdb := divF_bd (L := ws.length) (w := gI ws) (c := gI cs) hws z.toNat z (fun _ => 0) (fun j hj => ⟨Int.le_refl _, (hg j hj).2.1⟩)
    have hdz := (divF_sum (L := ws.length) (w := gI ws) (c := gI cs) hws z.toNat z (fun _ => 0) (Nat.le_refl _) hzb.1 (fun i hi => ⟨Int.le_refl _, (hg i hi).2.1⟩) (fun i hi _ => rfl)).2
    have hds := divide_total hp
    have hmore := tot_more z ws cs
    have H1 := hide (fun wx hb => HID z ws.length cs.length (ofInts ws) (ofInts cs) v u 0 w1.heap.size 0 w1.heap.size wx hz' T1.out T2.out (V.out.below hb) (U.out.below hb) (divL z ws cs) ⟨fun h => by rw [intL_of, intL_of] at h; exact (h hp).elim, fun _ => by rw [intL_of, intL_of]⟩)
    have H2 := hide (fun wx hb => HIT z ws.length cs.length (ofInts ws) (ofInts cs) v u 0 w1.heap.size 0 w1.heap.size wx hz' T1.out T2.out (V.out.below hb) (U.out.below hb) (totI z ws cs) ⟨fun h => by rw [intL_of, intL_of] at h; exact (h hp).elim, fun _ => by rw [intL_of, intL_of]⟩)
    have H3 := hide (fun wx hb => sTotal_any z ws.length cs.length (ofInts ws) (ofInts cs) v u 0 w1.heap.size 0 w1.heap.size wx T1.out T2.out (V.out.below hb) (U.out.below hb) (totI z ws cs) ⟨fun h => by rw [intL_of, intL_of] at h; exact (h hp).elim, fun _ => by rw [intL_of, intL_of]⟩)
    have H4 : Hid (z ≠ 10000 → ∀ wx (hb : Below w1.heap.size w1 wx), Calls Try.prog 11 #[.int .i64 (z + 1), v, u] wx fun e w' => e = .returned (.int .i64 (totI (z + 1) ws cs)) ∧ Below wx.heap.size wx w') := fun hne wx hb => by
      have hp2 : rightP (z + 1) ws cs := ⟨⟨by omega, h64, hk⟩, hg⟩
      exact HIT (z + 1) ws.length cs.length (ofInts ws) (ofInts cs) v u 0 w1.heap.size 0 w1.heap.size wx (show -9223372036854775808 ≤ z + 1 ∧ z + 1 ≤ 9223372036854775807 by omega) T1.out T2.out (V.out.below hb) (U.out.below hb) (totI (z + 1) ws cs) ⟨fun h => by rw [intL_of, intL_of] at h; exact (h hp2).elim, fun _ => by rw [intL_of, intL_of]⟩
    obtain ⟨hzk, hzl⟩ := div_small (n := z) (ws := ws) (cs := cs) (z := divL z ws cs) ⟨fun h => (h hp).elim, fun _ => rfl⟩
    have hrl : (divL z ws cs).length = ws.length := by unfold divL; rw [ofFn_len]
    have HRG : Hid (∀ q, q < ws.length → gI (divL z ws cs) q = divF ws.length (gI ws) (gI cs) z.toNat z (fun _ => 0) q) := fun q hq => by unfold divL; rw [gI_ofFn hq]
    have TR := hide (ofInts_tyS hzk (by unfold maxLen; omega))
    have HDB := hide hdb
    have HDZ := hide hdz
    have HDS := hide hds
    have HG := hide hg
    obtain ⟨av, pv, hv, -⟩ := V.out
    subst hv
    obtain ⟨au, pu, hu, -⟩ := U.out
    subst hu
    rw [hrl] at TR H1
    generalize divL z ws cs = r at *
    generalize divF ws.length (gI ws) (gI cs) z.toNat z (fun _ => 0) = D at *
    generalize totI z ws cs = T at *
    generalize totI (z + 1) ws cs = T2x at *
    have HK : Hid (ws.length = cs.length) := hk
    clear HIT HID hp hws hdb hdz hds hg hzk hzl hrl hk
    have e0 : (T != T) = false := by simp
    have e1 : decide (T < 0) = false := by rw [decide_eq_false_iff_not]; omega
    have e2 : ((ws.length : Int) != (ws.length : Int)) = false := by simp
    have e3 : (T == T) = true := by simp
    have e4 : ((ws.length : Int) == (ws.length : Int)) = true := by simp
    go_wp2_with fail
    refine (H1.out w1 (Below.refl _ _)).mono ?_
    rintro e w2 ⟨c, S, rfl, ho, hS, hb2⟩
    obtain ⟨ca, cp, rfl⟩ := ho.slice
    have R2 := hide (ho.u (lo := w1.heap.size) (hi := w2.heap.size) hS.2)
    have B2 := hide hb2
    clear ho hS hb2 H1
    go_wp2_with fail
    refine (H2.out w2 B2.out).mono ?_
    rintro e w3 ⟨rfl, hb3⟩
    have B3 : Hid (Below w1.heap.size w1 w3) := B2.out.trans (hb3.mono B2.out.size)
    have R3 := hide (R2.out.below hb3)
    clear hb3 B2 R2 H2
    go_wp2_with fail
    refine (H3.out w3 B3.out).mono ?_
    rintro e w4 ⟨rfl, rfl⟩
    clear H3
    go_wp2
    clear e1
    go_loopw [8, 9] (fun s i wr => ∃ (q : Nat), q ≤ ws.length ∧ i = .int .i64 q ∧ s = .int .i64 (sumTo D q) ∧ Hid (Below w4.heap.size w4 wr)) (fun _ i _ => ws.length - (intOf i).toNat)
    case atStart => exact ⟨0, Nat.zero_le _, rfl, rfl, Below.refl _ _⟩
    case round =>
      obtain ⟨w5, rfl⟩ : ∃ w5, w5 = wr := ⟨_, rfl⟩
      obtain ⟨q, hq, rfl, rfl, HB5⟩ := hrel
      have HB15 : Hid (Below w1.heap.size w1 w5) := B3.out.trans (HB5.out.mono B3.out.size)
      have hsb := sumTo_bd (f := D) (m := 10000) (n := q) (fun i hi => by
        have := HDB.out i (by omega)
        have := HG.out i (by omega)
        omega) q (Nat.le_refl _)
      by_cases hlt : q < ws.length
      · have hlc2 : q < cs.length := by have := HK.out; omega
        obtain ⟨b1, off1, rfl, -, -⟩ := (V.out.below HB15.out).cells (by omega)
        obtain ⟨b2, off2, rfl, -, -⟩ := (U.out.below HB15.out).cells (by omega)
        obtain ⟨b3, off3, rfl, -, -⟩ := (R3.out.below HB5.out).cells (by omega)
        have q1 := cell_int T1.out (V.out.below HB15.out) q hlt
        have q2 := cell_int T2.out (U.out.below HB15.out) q (by omega)
        have q3 := cell_int TR.out (R3.out.below HB5.out) q hlt
        rw [intL_of] at q1 q2 q3
        rw [HRG.out q hlt] at q3
        have hd := HDB.out q hlt
        have hdz := HDZ.out q hlt
        have hgq := HG.out q hlt
        have HS : Hid (sumTo D (q + 1) = sumTo D q + D q) := rfl
        generalize sumTo D q = SQ at *
        generalize D q = Dq at *
        generalize gI ws q = X at *
        generalize gI cs q = Y at *
        have y0 : decide (Dq < 0) = false := by rw [decide_eq_false_iff_not]; omega
        have y1 : decide (Y < Dq) = false := by rw [decide_eq_false_iff_not]; omega
        clear V U R3 T1 T2 TR HRG HDB HDZ HDS HG H4
        by_cases hx : X = 0
        · have y2 : (X == 0) = true := by rw [beq_iff_eq]; exact hx
          have y3 : decide ((0 : Int) < Dq) = false := by rw [decide_eq_false_iff_not]; have := hdz hx; omega
          clear hdz
          go_wp2
          go_quiet (fail)
          go_wp2
          go_roundw
          case rel => exact ⟨q + 1, by omega, by go_num, by rw [HS.out], below_drewN HB5.out _⟩
          case measure => simp [intOf]; omega
        · have y2 : (X == 0) = false := by rw [beq_eq_false_iff_ne]; exact hx
          clear hdz
          go_wp2
          go_quiet (fail)
          go_wp2
          go_roundw
          case rel => exact ⟨q + 1, by omega, by go_num, by rw [HS.out], below_drewN HB5.out _⟩
          case measure => simp [intOf]; omega
      · have e : q = ws.length := by omega
        subst e
        rw [HDS.out]
        have BE : Hid (Below w.heap.size w w5) := B1.out.trans (HB15.out.mono B1.out.size)
        clear V U R3 T1 T2 TR HRG HDB HDZ HDS HG
        by_cases hm : z = 10000
        · have z0 : (z == 10000) = true := by rw [beq_iff_eq]; exact hm
          clear H4
          go_wp2
          go_ret
          exact ⟨rfl, BE.out⟩
        · have z0 : (z == 10000) = false := by rw [beq_eq_false_iff_ne]; exact hm
          go_wp2_with fail
          refine (H4.out hm w5 HB15.out).mono ?_
          rintro e w6 ⟨rfl, hb6⟩
          have BF : Hid (Below w.heap.size w w6) := BE.out.trans (hb6.mono BE.out.size)
          clear hb6
          by_cases hmm : T2x = T
          · have z1 : (T2x == T) = true := by rw [beq_iff_eq]; exact hmm
            go_wp2
            go_ret
            exact ⟨rfl, BF.out⟩
          · have z1 : (T2x == T) = false := by rw [beq_eq_false_iff_ne]; exact hmm
            have z2 : (T2x == T + 1) = true := by rw [beq_iff_eq]; omega
            go_wp2
            go_ret
            exact ⟨rfl, BF.out⟩
end Go.Proofs.Ytidjjgiecaoboaa
