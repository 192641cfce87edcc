/- spec.Divide. -/
import Derived.Test.YtdnodaoeflbfkaaShrW
namespace Go.Proofs.Ytdnodaoeflbfkaa
open Go.RowKit Go.BigFrame
set_option linter.unusedVariables false
theorem rowIs_drewN {w : World} {b : Nat} {t : TypeId} {n : Nat} {f : Nat → Value} (h : w.rowIs b t n f) (k : Nat) : (w.drewN k).rowIs b t n f := rowIs_below h (below_drewN (Below.refl _ _) k)
theorem uM_ofInts {w : World} {lo hi b : Nat} : ∀ (l : List Int) (o : Nat), (∀ j (h : j < l.length), w.cell? ⟨b, o + j, none⟩ = some (.int .i64 (l[j]'h))) → uM w lo hi (ofInts l) b o
  | [], o, _ => trivial
  | z :: r, o, h => ⟨h 0 (by simp), uM_ofInts r (o + 1) (fun j hj => by
      have := h (j + 1) (by simpa using hj)
      rw [show o + (j + 1) = o + 1 + j by omega] at this
      simpa using this)⟩
def ofFn (n : Nat) (f : Nat → Int) : List Int := (List.range n).map f
theorem ofFn_len (n : Nat) (f : Nat → Int) : (ofFn n f).length = n := by unfold ofFn; simp
theorem ofFn_get (n : Nat) (f : Nat → Int) (j : Nat) (h : j < (ofFn n f).length) : (ofFn n f)[j]'h = f j := by simp [ofFn]
theorem rowIs_uS {w : World} {lo hi b n : Nat} {t : TypeId} {f : Nat → Int} (h : w.rowIs b t n (fun j => .int .i64 (f j))) (h1 : lo ≤ b) (h2 : b < hi) : uS w lo hi 1 n (ofInts (ofFn n f)) (.slice (some ⟨b, 0, none⟩) n n) := by
  refine ⟨_, _, rfl, ⟨Nat.le_refl _, fun e => (by cases e), by decide, by rw [ofInts_len, ofFn_len, Nat.mul_one]⟩, fun _ => ⟨b, 0, rfl, h1, h2, ?_⟩⟩
  refine uM_ofInts _ _ (fun j hj => ?_)
  rw [ofFn_get, Nat.zero_add]
  exact h.cell (by rw [ofFn_len] at hj; exact hj)
/-- what is divided -/
noncomputable def divL (n : Int) (ws cs : List Int) : List Int := ofFn ws.length (divF ws.length (gI ws) (gI cs) n.toNat n (fun _ => 0))
theorem gI_nn {ws : List Int} (h : ∀ i, i < ws.length → 0 ≤ gI ws i) : ∀ i, 0 ≤ gI ws i := fun i => by
  by_cases hi : i < ws.length
  · exact h i hi
  · unfold gI; rw [List.getD_eq_getElem?_getD, List.getElem?_eq_none (by omega)]; exact Int.le_refl _
/-- the numbers are small, and few -/
theorem div_small {n : Int} {ws cs z : List Int} (hz : (¬ rightP n ws cs → z = []) ∧ (rightP n ws cs → z = divL n ws cs)) : (∀ x ∈ z, inK .i64 x) ∧ z.length ≤ 64 := by
  by_cases h : rightP n ws cs
  · rw [hz.2 h]
    unfold rightP at h
    refine ⟨fun x hx => ?_, by unfold divL; rw [ofFn_len]; exact h.1.2.1⟩
    unfold divL ofFn at hx
    obtain ⟨i, hi, rfl⟩ := List.mem_map.1 hx
    have hi' : i < ws.length := by simpa using hi
    have hb := divF_bd (L := ws.length) (w := gI ws) (c := gI cs) (gI_nn (fun i hi => (h.2 i hi).1.1)) n.toNat n (fun _ => 0) (fun j hj => ⟨Int.le_refl _, (h.2 j hj).2.1⟩) i hi'
    have hc := h.2 i hi'
    have h1 : -9223372036854775808 ≤ divF ws.length (gI ws) (gI cs) n.toNat n (fun _ => 0) i ∧ divF ws.length (gI ws) (gI cs) n.toNat n (fun _ => 0) i ≤ 9223372036854775807 := by omega
    exact h1
  · rw [hz.1 h]
    exact ⟨fun x hx => (by cases hx), by simp⟩
theorem Try.infoUBool : (Try.prog.info? 4).map (fun i => (i.zero, i.size, i.bytes)) = some (some (.bool false), 1, 1) := by kernel_rfl
set_option maxRecDepth 20000 in
set_option maxHeartbeats 6400000 in
theorem sDivide_any (n : Int) (k1 k2 : Nat) (c1 c2 : UD) (v1 v2 : Value) (lo hi lo' hi' : Nat) (w : World) (ht1 : tyS 1 k1 c1 1) (ht2 : tyS 1 k2 c2 1) (hx1 : uS w lo hi 1 k1 c1 v1) (hx2 : uS w lo' hi' 1 k2 c2 v2) (z : List Int) (hz : (¬ rightP n (intL c1) (intL c2) → z = []) ∧ (rightP n (intL c1) (intL c2) → z = divL n (intL c1) (intL c2))) :
    Calls Try.prog 181 #[.int .i64 n, v1, v2] w fun e w' => ∃ c, e = .returned c ∧ uS w' 0 w'.heap.size 1 z.length (ofInts z) c ∧ Below w.heap.size w w' := by
  obtain ⟨r, hr⟩ := bool_iff (rightP n (intL c1) (intL c2))
  have HR : Hid (∀ wx, Below w.heap.size w wx → Calls Try.prog 218 #[.int .i64 n, v1, v2] wx fun e w' => e = .returned (.bool r) ∧ w' = wx) := fun wx hb => l6Right_any n k1 k2 c1 c2 v1 v2 lo hi lo' hi' wx r ht1 ht2 (hx1.below hb) (hx2.below hb) hr
  obtain ⟨a1, p1, rfl, hy1⟩ := hx1
  obtain ⟨a2, p2, rfl, hy2⟩ := hx2
  have H1 : Hid (uS w lo hi 1 k1 c1 (.slice a1 k1 p1)) := ⟨_, _, rfl, hy1⟩
  have H2 : Hid (uS w lo' hi' 1 k2 c2 (.slice a2 k2 p2)) := ⟨_, _, rfl, hy2⟩
  have T1 := uhide ht1
  have T2 := uhide ht2
  have hl1 := intL_len ht1
  have hl2 := intL_len ht2
  have HA : Hid (∀ o, Below w.heap.size w (w.alloc o)) := fun o => (Below.refl _ _).alloc (Nat.le_refl _) _
  cases r
  · have hz1 := hz.1 (fun h => by have := hr.2 h; cases this)
    subst hz1
    clear hy1 hy2 ht1 ht2 hl1 hl2 hr H1 H2 T1 T2 hz
    go_enter Try.func181, Try.ntmps181
    go_wp2_with fail
    refine (HR.out _ (by first | exact Below.refl _ _ | exact HA.out _)).mono ?_
    rintro e w1 ⟨rfl, rfl⟩
    go_wp2
    go_ret
    exact ⟨_, rfl, ⟨_, _, rfl, ⟨Nat.zero_le _, fun e => (by cases e), by decide, rfl⟩, fun h => (by cases h)⟩, by first | exact Below.refl _ _ | exact HA.out _⟩
  have hrp := hr.1 rfl
  have hz1 := hz.2 hrp
  unfold divL at hz1
  rw [hl1] at hz1
  unfold rightP at hrp
  rw [hl1, hl2] at hrp
  obtain ⟨⟨hn, h64, hk⟩, hg⟩ := hrp
  have HG : Hid (∀ i, i < k1 → goodAt (intL c1) (intL c2) i) := hg
  subst hk
  have HZ := uhide hz1
  have HWN : Hid (∀ i, 0 ≤ gI (intL c1) i) := fun i => by
    by_cases h : i < k1
    · exact (HG.out i h).1.1
    · unfold gI; rw [List.getD_eq_getElem?_getD, List.getElem?_eq_none (by omega)]; exact Int.le_refl _
  clear hz hz1 hr hg hl1 hl2 hy1 hy2 ht1 ht2
  have hmk := run_make_row' (P := Try.prog) 79 3 (.int .i64 0) 8 Try.underlying79 Try.infoDInt rfl .i64 .i64 k1 (by omega) (by omega)
  go_enter Try.func181, Try.ntmps181
  go_wp2_with fail
  refine (HR.out _ (by first | exact Below.refl _ _ | exact HA.out _)).mono ?_
  rintro e w1 ⟨rfl, rfl⟩
  clear HR
  go_wp2
  have R0 : Hid (World.rowIs ((w.alloc (.cells #[] 3)).alloc (.cells (madeCells #[.int .i64 0] k1) 3)) (w.heap.size + 1) 3 k1 (fun j => .int .i64 ((fun _ => 0 : Nat → Int) j))) := by
    have h := (World.rowIs_made (w.alloc (.cells #[] 3)) (.int .i64 0) k1 3)
    have e : (w.alloc (.cells #[] 3)).heap.size = w.heap.size + 1 := by simp
    rw [e] at h
    exact h
  have HB0 : Hid (Below w.heap.size w ((w.alloc (.cells #[] 3)).alloc (.cells (madeCells #[.int .i64 0] k1) 3))) := ((Below.refl _ _).alloc (Nat.le_refl _) _).alloc (by simp) _
  have HD : Hid (divF k1 (gI (intL c1)) (gI (intL c2)) n.toNat n (fun _ => 0) = divF k1 (gI (intL c1)) (gI (intL c2)) n.toNat n (fun _ => 0)) := rfl
  generalize hRES : divF k1 (gI (intL c1)) (gI (intL c2)) n.toNat n (fun _ => 0) = RES at HZ
  have HD : Hid (divF k1 (gI (intL c1)) (gI (intL c2)) n.toNat n (fun _ => 0) = RES) := hRES
  have HC : Hid (∀ i, i < k1 → 0 ≤ (gI (intL c2)) i ∧ (gI (intL c2)) i ≤ 10000) := fun i hi => (HG.out i hi).2
  have HWB : Hid (∀ i, i < k1 → 0 ≤ (gI (intL c1)) i ∧ (gI (intL c1)) i ≤ 1000) := fun i hi => (HG.out i hi).1
  have HO0 : Hid (∀ i, i < k1 → 0 ≤ (fun _ => 0 : Nat → Int) i ∧ (fun _ => 0 : Nat → Int) i ≤ (gI (intL c2)) i) := fun i hi => ⟨Int.le_refl _, (HC.out i hi).1⟩
  clear hmk hRES
  go_loopw [0] (fun nn w2 => ∃ (f : Nat) (m : Int) (out : Nat → Int), nn = .int .i64 m ∧ 0 ≤ m ∧ m ≤ 10000 ∧ m.toNat ≤ f ∧ Hid (divF k1 (gI (intL c1)) (gI (intL c2)) f m out = RES) ∧ Hid (∀ i, i < k1 → 0 ≤ out i ∧ out i ≤ (gI (intL c2)) i) ∧ Hid (w2.rowIs (w.heap.size + 1) 3 k1 (fun j => .int .i64 (out j))) ∧ Hid (Below w.heap.size w w2)) (fun nn _ => (intOf nn).toNat)
  case atStart => exact ⟨n.toNat, n, fun _ => 0, rfl, hn.1, hn.2, Nat.le_refl _, HD, HO0, R0, HB0⟩
  case round =>
    clear R0 HB0 HD HO0
    obtain ⟨w2, rfl⟩ : ∃ w2, w2 = wr := ⟨_, rfl⟩
    obtain ⟨f, m, out, rfl, hm0, hm1, hf, HD, HO, R0, HB⟩ := hrel
    by_cases hmp : 0 < m
    · have hmk := run_make_row' (P := Try.prog) 289 4 (.bool false) 1 Try.underlying289 Try.infoUBool rfl .i64 .i64 k1 (by omega) (by omega)
      go_wp2
      have S0 : Hid (World.rowIs (w2.alloc (.cells (madeCells #[.bool false] k1) 4)) w2.heap.size 4 k1 (fun j => .bool (if j < 0 then openF k1 (gI (intL c1)) (gI (intL c2)) out j else false))) := (World.rowIs_made w2 (.bool false) k1 4).congr (fun i _ => by rw [if_neg (by omega)])
      have HBS : Hid (Below w2.heap.size w2 (w2.alloc (.cells (madeCells #[.bool false] k1) 4))) := (Below.refl _ _).alloc (Nat.le_refl _) _
      clear hmk
      have hg2 : w.heap.size + 1 < w2.heap.size := R0.out.lt
      go_loopw [9, 10] (fun s i w3 => ∃ (p : Nat), p ≤ k1 ∧ i = .int .i64 p ∧ s = .int .i64 (sumTo (onO (openF k1 (gI (intL c1)) (gI (intL c2)) out) (gI (intL c1))) p) ∧ Hid (w3.rowIs w2.heap.size 4 k1 (fun j => .bool (if j < p then openF k1 (gI (intL c1)) (gI (intL c2)) out j else false))) ∧ Hid (Below w2.heap.size w2 w3)) (fun _ i _ => k1 - (intOf i).toNat)
      case atStart => exact ⟨0, Nat.zero_le _, rfl, rfl, S0, HBS⟩
      case round =>
        clear S0 HBS
        obtain ⟨w3, rfl⟩ : ∃ w3, w3 = wr := ⟨_, rfl⟩
        obtain ⟨p, hp, rfl, rfl, S0, HBS⟩ := hrel
        have HB3 : Hid (Below w.heap.size w w3) := HB.out.trans (HBS.out.mono HB.out.size)
        have hsb := sumTo_bd (f := onO (openF k1 (gI (intL c1)) (gI (intL c2)) out) (gI (intL c1))) (m := 1000) (n := p) (fun i hi => by
          have := HWB.out i (by omega)
          unfold onO; split <;> omega) p (Nat.le_refl _)
        by_cases hpl : p < k1
        · obtain ⟨b1, off1, rfl, hb1, -⟩ := (H1.out.below HB3.out).cells (by omega)
          obtain ⟨b2, off2, rfl, hb2, -⟩ := (H2.out.below HB3.out).cells (by omega)
          have q1 := cell_int T1.out (H1.out.below HB3.out) p hpl
          have q2 := cell_int T2.out (H2.out.below HB3.out) p hpl
          have hb1l : b1 < w.heap.size := cell_lt (cell_int T1.out H1.out p hpl)
          have hb2l : b2 < w.heap.size := cell_lt (cell_int T2.out H2.out p hpl)
          have qo := (rowIs_below R0.out HBS.out).cell hpl
          have xs := S0.out.cell hpl
          have fs := S0.out.frozen p
          have hne : b1 ≠ w2.heap.size := by omega
          have hne' : b2 ≠ w2.heap.size := by omega
          have hne2 : w.heap.size + 1 ≠ w2.heap.size := by omega
          have HSS : Hid (∀ v, openF k1 (gI (intL c1)) (gI (intL c2)) out p = v → World.rowIs (w3.setCell ⟨w2.heap.size, p, none⟩ (.bool v)) w2.heap.size 4 k1 (fun j => .bool (if j < p + 1 then openF k1 (gI (intL c1)) (gI (intL c2)) out j else false))) := fun v hv => (S0.out.set p (.bool v)).congr (fun j _ => by
            by_cases e : j = p
            · subst e; rw [if_pos rfl, if_pos (by omega), hv]
            · rw [if_neg e]
              by_cases h : j < p
              · rw [if_pos h, if_pos (by omega)]
              · rw [if_neg h, if_neg (by omega)])
          have HOP : Hid (openF k1 (gI (intL c1)) (gI (intL c2)) out p = decide (p < k1 ∧ 0 < (gI (intL c1)) p ∧ out p < (gI (intL c2)) p)) := rfl
          have HSQ : Hid (sumTo (onO (openF k1 (gI (intL c1)) (gI (intL c2)) out) (gI (intL c1))) (p + 1) = sumTo (onO (openF k1 (gI (intL c1)) (gI (intL c2)) out) (gI (intL c1))) p + (if openF k1 (gI (intL c1)) (gI (intL c2)) out p = true then (gI (intL c1)) p else 0)) := rfl
          have HBQ : Hid (∀ v, Below w2.heap.size w2 (w3.setCell ⟨w2.heap.size, p, none⟩ v)) := fun v => HBS.out.setCell (by simp) v
          have hwp := HWB.out p hpl
          generalize sumTo (onO (openF k1 (gI (intL c1)) (gI (intL c2)) out) (gI (intL c1))) p = SP at *
          generalize (gI (intL c1)) p = X at *
          generalize (gI (intL c2)) p = Y at *
          generalize out p = Z at *
          generalize openF k1 (gI (intL c1)) (gI (intL c2)) out p = OP at *
          clear S0 R0 H1 H2 T1 T2 HC HWB HO HD HG HWN HZ
          by_cases hx : 0 < X
          rotate_left
          · have z0 : decide ((0 : Int) < X) = false := by rw [decide_eq_false_iff_not]; exact hx
            have hop : OP = false := by rw [HOP.out, decide_eq_false_iff_not]; exact fun h => hx h.2.1
            have SS := uhide (HSS.out false hop)
            have SQ := HSQ.out
            rw [hop, if_neg (by decide), Int.add_zero] at SQ
            have HSQ2 := uhide SQ
            have HBQ2 := uhide (HBQ.out (.bool false))
            clear HSS HSQ HBQ HOP SQ
            go_wp2
            go_region
            all_goals (
              go_wp2
              go_roundw
              case rel => exact ⟨p + 1, by omega, by go_num, by rw [HSQ2.out], rowIs_below SS.out (by repeat (first | with_reducible exact Below.refl _ _ | with_reducible refine Below.drew ?_ | with_reducible refine below_drewN ?_ _)), uhide (by repeat (first | with_reducible exact HBQ2.out | with_reducible refine Below.drew ?_ | with_reducible refine below_drewN ?_ _))⟩
              case measure => simp [intOf]; omega)
          by_cases hzy : Z < Y
          · have hop : OP = true := by rw [HOP.out, decide_eq_true_eq]; exact ⟨hpl, hx, hzy⟩
            have SS := uhide (HSS.out true hop)
            have SQ := HSQ.out
            rw [hop, if_pos rfl] at SQ
            have HSQ2 := uhide SQ
            have HBQ2 := uhide (HBQ.out (.bool true))
            clear HSS HSQ HBQ HOP SQ
            go_wp2
            go_region
            all_goals (
              go_wp2
              go_roundw
              case rel => exact ⟨p + 1, by omega, by go_num, by rw [HSQ2.out], rowIs_below SS.out (by repeat (first | with_reducible exact Below.refl _ _ | with_reducible refine Below.drew ?_ | with_reducible refine below_drewN ?_ _)), uhide (by repeat (first | with_reducible exact HBQ2.out | with_reducible refine Below.drew ?_ | with_reducible refine below_drewN ?_ _))⟩
              case measure => simp [intOf]; omega)
          · have z0 : decide (Z < Y) = false := by rw [decide_eq_false_iff_not]; exact hzy
            have hop : OP = false := by rw [HOP.out, decide_eq_false_iff_not]; exact fun h => hzy h.2.2
            have SS := uhide (HSS.out false hop)
            have SQ := HSQ.out
            rw [hop, if_neg (by decide), Int.add_zero] at SQ
            have HSQ2 := uhide SQ
            have HBQ2 := uhide (HBQ.out (.bool false))
            clear HSS HSQ HBQ HOP SQ
            go_wp2
            go_region
            all_goals (
              go_wp2
              go_roundw
              case rel => exact ⟨p + 1, by omega, by go_num, by rw [HSQ2.out], rowIs_below SS.out (by repeat (first | with_reducible exact Below.refl _ _ | with_reducible refine Below.drew ?_ | with_reducible refine below_drewN ?_ _)), uhide (by repeat (first | with_reducible exact HBQ2.out | with_reducible refine Below.drew ?_ | with_reducible refine below_drewN ?_ _))⟩
              case measure => simp [intOf]; omega)
        · have e : p = k1 := by omega
          subst e
          have HGA := fun hs => gets_all (L := p) (n := m) (w := (gI (intL c1))) (c := (gI (intL c2))) (out := out) hmp HWN.out HO.out hs
          have S1 : Hid (w3.rowIs w2.heap.size 4 p (fun j => .bool (openF p (gI (intL c1)) (gI (intL c2)) out j))) := S0.out.congr (fun j hj => by rw [if_pos hj])
          have HOS : sumTo (onO (openF p (gI (intL c1)) (gI (intL c2)) out) (gI (intL c1))) p = openS p (gI (intL c1)) (gI (intL c2)) out := rfl
          have hsw : openS p (gI (intL c1)) (gI (intL c2)) out ≤ 64000 := by omega
          have hsw0 : 0 ≤ openS p (gI (intL c1)) (gI (intL c2)) out := by omega
          have HSE : Hid (openS p (gI (intL c1)) (gI (intL c2)) out = sumTo (onO (openF p (gI (intL c1)) (gI (intL c2)) out) (gI (intL c1))) p) := rfl
          rw [HOS]
          by_cases hs : openS p (gI (intL c1)) (gI (intL c2)) out = 0
          · have z0 : (openS p (gI (intL c1)) (gI (intL c2)) out == 0) = true := by rw [beq_iff_eq]; exact hs
            have hres : RES = out := by rw [← HD.out]; exact divF_end (fun h => by omega)
            subst hres
            have R3 := uhide (rowIs_below R0.out HBS.out)
            generalize openS p (gI (intL c1)) (gI (intL c2)) RES = SS at *
            clear S0 S1 R0 H1 H2 T1 T2 HC HWB HO HD HG HWN HGA HSE HOS
            go_wp2
            go_ret
            exact ⟨_, rfl, by rw [HZ.out, ofFn_len]; exact rowIs_uS R3.out (Nat.zero_le _) R3.out.lt, HB3.out⟩
          · have z0 : (openS p (gI (intL c1)) (gI (intL c2)) out == 0) = false := by rw [beq_eq_false_iff_ne]; exact hs
            have hs1 : 0 < openS p (gI (intL c1)) (gI (intL c2)) out := by omega
            obtain ⟨hga, hgb, hgc⟩ := HGA hs1
            have HL := uhide (l6Wants_any m (openS p (gI (intL c1)) (gI (intL c2)) out) p c1 (.slice a1 p p1) lo hi w2.heap.size (openF p (gI (intL c1)) (gI (intL c2)) out) w3 T1.out (H1.out.below HB3.out) S1.out h64 ⟨hmp, hm1⟩ HWB.out ⟨hs1, hsw⟩ rfl)
            have HWT : Hid (∀ j, j < p → 0 ≤ wantsF p m (openS p (gI (intL c1)) (gI (intL c2)) out) (gI (intL c1)) (openF p (gI (intL c1)) (gI (intL c2)) out) j ∧ wantsF p m (openS p (gI (intL c1)) (gI (intL c2)) out) (gI (intL c1)) (openF p (gI (intL c1)) (gI (intL c2)) out) j ≤ m) := fun j hj => by
              have := wants_bd (L := p) (m := m) (O := openF p (gI (intL c1)) (gI (intL c2)) out) (w := (gI (intL c1))) (by omega) HWN.out hs1 rfl j
              exact ⟨this.1, this.2.1 hj⟩
            have HGD : Hid (∀ j, getsF p m (gI (intL c1)) (gI (intL c2)) out j = if (gI (intL c2)) j - out j < wantsF p m (openS p (gI (intL c1)) (gI (intL c2)) out) (gI (intL c1)) (openF p (gI (intL c1)) (gI (intL c2)) out) j then (gI (intL c2)) j - out j else wantsF p m (openS p (gI (intL c1)) (gI (intL c2)) out) (gI (intL c1)) (openF p (gI (intL c1)) (gI (intL c2)) out) j) := fun j => rfl
            have HGB := uhide hga
            have HD2 : Hid (∃ f', f = f' + 1 ∧ divF p (gI (intL c1)) (gI (intL c2)) f' (m - sumTo (getsF p m (gI (intL c1)) (gI (intL c2)) out) p) (fun i => out i + getsF p m (gI (intL c1)) (gI (intL c2)) out i) = RES) := by
              cases f with
              | zero => omega
              | succ f' => exact ⟨f', rfl, by rw [← HD.out]; exact (divF_go ⟨hmp, hs1⟩).symm⟩
            have R3 := uhide (rowIs_below R0.out HBS.out)
            have hsz : w2.heap.size ≤ w3.heap.size := HBS.out.size
            clear S0 S1 R0 HWB HD HGA HOS HSE hga
            go_wp2_with fail
            refine (HL.out).mono ?_
            rintro e w4 ⟨bW, rfl, hbW, hRW, hb4⟩
            have R4 := uhide (rowIs_below R3.out hb4)
            have RW4 : Hid (w4.rowIs bW 3 p (fun j => .int .i64 (if j < 0 then getsF p m (gI (intL c1)) (gI (intL c2)) out j else wantsF p m (openS p (gI (intL c1)) (gI (intL c2)) out) (gI (intL c1)) (openF p (gI (intL c1)) (gI (intL c2)) out) j))) := hRW.congr (fun j _ => by rw [if_neg (by omega)])
            have R40 : Hid (w4.rowIs (w.heap.size + 1) 3 p (fun j => .int .i64 (if j < 0 then out j + getsF p m (gI (intL c1)) (gI (intL c2)) out j else out j))) := R4.out.congr (fun j _ => by rw [if_neg (by omega)])
            have HB4 : Hid (Below w.heap.size w w4) := HB3.out.trans (hb4.mono HB3.out.size)
            clear hRW hb4 HL R3 R4 HWN
            generalize wantsF p m (openS p (gI (intL c1)) (gI (intL c2)) out) (gI (intL c1)) (openF p (gI (intL c1)) (gI (intL c2)) out) = WT at *
            generalize getsF p m (gI (intL c1)) (gI (intL c2)) out = G at *
            generalize openS p (gI (intL c1)) (gI (intL c2)) out = SS at *
            go_wp2
            go_loopw [0, 12] (fun nn i w5 => ∃ (j0 : Nat), j0 ≤ p ∧ i = .int .i64 j0 ∧ nn = .int .i64 (m - sumTo G j0) ∧ Hid (w5.rowIs (w.heap.size + 1) 3 p (fun j => .int .i64 (if j < j0 then out j + G j else out j))) ∧ Hid (w5.rowIs bW 3 p (fun j => .int .i64 (if j < j0 then G j else WT j))) ∧ Hid (Below w.heap.size w w5)) (fun _ i _ => p - (intOf i).toNat)
            case atStart => exact ⟨0, Nat.zero_le _, rfl, by simp [sumTo], R40, RW4, HB4⟩
            case round =>
              clear R40 RW4 HB4
              obtain ⟨w5, rfl⟩ : ∃ w5, w5 = wr := ⟨_, rfl⟩
              obtain ⟨j0, hj0, rfl, rfl, R0, RW, HB5⟩ := hrel
              by_cases hjl : j0 < p
              · obtain ⟨b2, off2, rfl, hb2, -⟩ := (H2.out.below HB5.out).cells (by omega)
                have hb2l : b2 < w.heap.size := cell_lt (cell_int T2.out H2.out j0 hjl)
                have q2 := cell_int T2.out (H2.out.below HB5.out) j0 hjl
                have xo := R0.out.cell hjl
                have fo := R0.out.frozen j0
                have xw := RW.out.cell hjl
                have fw := RW.out.frozen j0
                rw [if_neg (by omega)] at xo xw
                have hoj := HO.out j0 hjl
                have hcj := HC.out j0 hjl
                have hgj := HGB.out j0 hjl
                have hwj := HWT.out j0 hjl
                have hdj := HGD.out j0
                have hsj := sumTo_bd (f := G) (m := 10000) (n := p) (fun i hi => by
                  have := HGB.out i hi
                  have := HO.out i hi
                  have := HC.out i hi
                  omega) j0 hj0
                have HSQ : Hid (m - sumTo G (j0 + 1) = m - sumTo G j0 - G j0) := by
                  show _ = _
                  rw [sumTo_succ]; omega
                have RG : Hid (∀ (wx : World) (v : Value), v = .int .i64 (out j0 + G j0) → wx.rowIs (w.heap.size + 1) 3 p (fun j => .int .i64 (if j < j0 then out j + G j else out j)) → World.rowIs (wx.setCell ⟨w.heap.size + 1, j0, none⟩ v) (w.heap.size + 1) 3 p (fun j => .int .i64 (if j < j0 + 1 then out j + G j else out j))) := fun wx v hv h => (h.set j0 v).congr (fun j _ => by
                  by_cases e : j = j0
                  · subst e; rw [if_pos rfl, if_pos (by omega), hv]
                  · rw [if_neg e]
                    by_cases h : j < j0
                    · rw [if_pos h, if_pos (by omega)]
                    · rw [if_neg h, if_neg (by omega)])
                have RX : Hid (∀ (wx : World) (v : Value), v = .int .i64 (G j0) → wx.rowIs bW 3 p (fun j => .int .i64 (if j < j0 then G j else WT j)) → World.rowIs (wx.setCell ⟨bW, j0, none⟩ v) bW 3 p (fun j => .int .i64 (if j < j0 + 1 then G j else WT j))) := fun wx v hv h => (h.set j0 v).congr (fun j _ => by
                  by_cases e : j = j0
                  · subst e; rw [if_pos rfl, if_pos (by omega), hv]
                  · rw [if_neg e]
                    by_cases h : j < j0
                    · rw [if_pos h, if_pos (by omega)]
                    · rw [if_neg h, if_neg (by omega)])
                have RY : Hid (G j0 = WT j0 → w5.rowIs bW 3 p (fun j => .int .i64 (if j < j0 + 1 then G j else WT j))) := fun hv => RW.out.congr (fun j _ => by
                  by_cases e : j = j0
                  · subst e; rw [if_neg (by omega), if_pos (by omega), hv]
                  · by_cases h : j < j0
                    · rw [if_pos h, if_pos (by omega)]
                    · rw [if_neg h, if_neg (by omega)])
                have hn1 : bW ≠ w.heap.size + 1 := by omega
                have hn2 : b2 ≠ w.heap.size + 1 := by omega
                have hn3 : b2 ≠ bW := by omega
                generalize sumTo G j0 = SG at *
                generalize (gI (intL c2)) j0 = Y at *
                generalize hGz : G j0 = Gz at *
                generalize hWz : WT j0 = Wz at *
                generalize hOz : out j0 = Oz at *
                clear H1 H2 T1 T2 HC HO HD2 HG HZ HWT HGD HGB hGz hWz hOz
                by_cases hlt : Y - Oz < Wz
                · rw [if_pos hlt] at hdj
                  subst hdj
                  clear RY
                  go_wp2
                  go_quiet (fail)
                  go_wp2
                  go_region
                  all_goals (
                    go_wp2
                    go_region
                    all_goals (
                      go_wp2
                      go_roundw
                      case rel =>
                        exact ⟨j0 + 1, by omega, by go_num, by rw [HSQ.out], uhide (by
                          repeat (first
                            | with_reducible exact R0.out
                            | with_reducible refine World.rowIs.drew ?_
                            | with_reducible refine rowIs_drewN ?_ _
                            | with_reducible refine RG.out _ _ (by first | rfl | go_num | (congr 1; omega)) ?_
                            | with_reducible refine World.rowIs.setOther ?_ (by simp <;> omega) _)), uhide (by
                          repeat (first
                            | with_reducible exact RW.out
                            | with_reducible refine World.rowIs.drew ?_
                            | with_reducible refine rowIs_drewN ?_ _
                            | with_reducible refine RX.out _ _ (by first | rfl | go_num | (congr 1; omega)) ?_
                            | with_reducible refine World.rowIs.setOther ?_ (by simp <;> omega) _)), uhide (by
                          repeat (first
                            | with_reducible exact HB5.out
                            | with_reducible refine Below.drew ?_
                            | with_reducible refine below_drewN ?_ _
                            | with_reducible refine Below.setCell ?_ (by simp <;> omega) _))⟩
                      case measure => simp [intOf]; omega))
                · rw [if_neg hlt] at hdj
                  subst hdj
                  have RW1 := uhide (RY.out rfl)
                  have z0 : decide (Y - Oz < Gz) = false := by rw [decide_eq_false_iff_not]; exact hlt
                  clear RY RX RW
                  have RX : Hid (∀ (wx : World) (v : Value), False → True → World.rowIs (wx.setCell ⟨bW, j0, none⟩ v) bW 3 p (fun j => .int .i64 (if j < j0 + 1 then G j else WT j))) := fun _ _ h => h.elim
                  go_wp2
                  go_quiet (fail)
                  go_wp2
                  go_region
                  all_goals (
                    go_wp2
                    go_roundw
                    case rel =>
                      exact ⟨j0 + 1, by omega, by go_num, by rw [HSQ.out], uhide (by
                        repeat (first
                          | with_reducible exact R0.out
                          | with_reducible refine World.rowIs.drew ?_
                          | with_reducible refine rowIs_drewN ?_ _
                          | with_reducible refine RG.out _ _ (by first | rfl | go_num | (congr 1; omega)) ?_
                          | with_reducible refine World.rowIs.setOther ?_ (by simp <;> omega) _)), uhide (by
                        repeat (first
                          | with_reducible exact RW1.out
                          | with_reducible refine World.rowIs.drew ?_
                          | with_reducible refine rowIs_drewN ?_ _
                          | with_reducible refine RX.out _ _ (by first | rfl | go_num | (congr 1; omega)) ?_
                          | with_reducible refine World.rowIs.setOther ?_ (by simp <;> omega) _)), uhide (by
                        repeat (first
                          | with_reducible exact HB5.out
                          | with_reducible refine Below.drew ?_
                          | with_reducible refine below_drewN ?_ _
                          | with_reducible refine Below.setCell ?_ (by simp <;> omega) _))⟩
                    case measure => simp [intOf]; omega)
              · have e : j0 = p := by omega
                subst e
                obtain ⟨f', hf', hd⟩ := HD2.out
                subst hf'
                have HDn := uhide hd
                have HOn : Hid (∀ i, i < j0 → 0 ≤ (fun i => out i + G i : Nat → Int) i ∧ (fun i => out i + G i : Nat → Int) i ≤ (gI (intL c2)) i) := fun i hi => by
                  have := HGB.out i hi
                  have := HO.out i hi
                  show 0 ≤ out i + G i ∧ out i + G i ≤ _
                  omega
                have R0' : Hid (w5.rowIs (w.heap.size + 1) 3 j0 (fun j => .int .i64 ((fun i => out i + G i : Nat → Int) j))) := R0.out.congr (fun j hj => by rw [if_pos hj])
                clear HD2 hd R0 RW HGB HO HGD HWT H1 H2 T1 T2
                go_wp2
                go_roundw
                case rel => exact ⟨f', m - sumTo G j0, fun i => out i + G i, rfl, by omega, by omega, by omega, HDn, HOn, R0', HB5⟩
                case measure => simp [intOf]; omega
    · have hres : RES = out := by rw [← HD.out]; exact divF_end (fun h => hmp h.1)
      subst hres
      clear H1 H2 T1 T2 HC HWB HO HD HG HWN
      go_wp2
      go_ret
      exact ⟨_, rfl, by rw [HZ.out, ofFn_len]; exact rowIs_uS R0.out (Nat.zero_le _) R0.out.lt, HB.out⟩
end Go.Proofs.Ytdnodaoeflbfkaa
