/- Texts of one claim, joined: each in its own section, in build order. -/
import Derived.Test.YtdnodaoeflbfkaaGreatJ3
import Derived.Test.YtdnodaoeflbfkaaGreatJ2
import Derived.Test.YtdnodaoeflbfkaaGreatJ1
import Derived.Deep.AppendLies
import Derived.WideShapes
import Derived.WalkKit
import Derived.Deep.RegionLaw
import Derived.Shelf.SlicesQ.Load
import Derived.OwnWalk
import Derived.Deep.MidRow
import Derived.Laws.Rows
import Derived.Deep.QuietTactic
/- spec.Divide. -/
namespace Go.Proofs.YtdnodaoeflbfkaaGreat
open Go.RowKit Go.BigFrame
set_option linter.unusedVariables false
theorem rowIs_drewN {w : World} {b : Nat} {t : TypeId} {n : Nat} {f : Nat → Value} (h : w.rowIs b t n f) (k : Nat) : (w.drewN k).rowIs b t n f := rowIs_below h (below_drewN (Below.refl _ _) k)
theorem uM_ofInts {w : World} {lo hi b : Nat} : ∀ (l : List Int) (o : Nat), (∀ j (h : j < l.length), w.cell? ⟨b, o + j, none⟩ = some (.int .i64 (l[j]'h))) → uM w lo hi (ofInts l) b o
  | [], o, _ => trivial
  | z :: r, o, h => ⟨h 0 (by simp), uM_ofInts r (o + 1) (fun j hj => by
      have := h (j + 1) (by simpa using hj)
      rw [show o + (j + 1) = o + 1 + j by omega] at this
      simpa using this)⟩
def ofFn (n : Nat) (f : Nat → Int) : List Int := (List.range n).map f
theorem ofFn_len (n : Nat) (f : Nat → Int) : (ofFn n f).length = n := by unfold ofFn; simp
theorem ofFn_get (n : Nat) (f : Nat → Int) (j : Nat) (h : j < (ofFn n f).length) : (ofFn n f)[j]'h = f j := by simp [ofFn]
theorem rowIs_uS {w : World} {lo hi b n : Nat} {t : TypeId} {f : Nat → Int} (h : w.rowIs b t n (fun j => .int .i64 (f j))) (h1 : lo ≤ b) (h2 : b < hi) : uS w lo hi 1 n (ofInts (ofFn n f)) (.slice (some ⟨b, 0, none⟩) n n) := by
  refine ⟨_, _, rfl, ⟨Nat.le_refl _, fun e => (by cases e), by decide, by rw [ofInts_len, ofFn_len, Nat.mul_one]⟩, fun _ => ⟨b, 0, rfl, h1, h2, ?_⟩⟩
  refine uM_ofInts _ _ (fun j hj => ?_)
  rw [ofFn_get, Nat.zero_add]
  exact h.cell (by rw [ofFn_len] at hj; exact hj)
/-- what is divided -/
noncomputable def divL (n : Int) (ws cs : List Int) : List Int := ofFn ws.length (divF ws.length (gI ws) (gI cs) n.toNat n (fun _ => 0))
theorem gI_nn {ws : List Int} (h : ∀ i, i < ws.length → 0 ≤ gI ws i) : ∀ i, 0 ≤ gI ws i := fun i => by
  by_cases hi : i < ws.length
  · exact h i hi
  · unfold gI; rw [List.getD_eq_getElem?_getD, List.getElem?_eq_none (by omega)]; exact Int.le_refl _
/-- the numbers are small, and few -/
theorem div_small {n : Int} {ws cs z : List Int} (hz : (¬ rightP n ws cs → z = []) ∧ (rightP n ws cs → z = divL n ws cs)) : (∀ x ∈ z, inK .i64 x) ∧ z.length ≤ 64 := by
  by_cases h : rightP n ws cs
  · rw [hz.2 h]
    unfold rightP at h
    refine ⟨fun x hx => ?_, by unfold divL; rw [ofFn_len]; exact h.1.2.1⟩
    unfold divL ofFn at hx
    obtain ⟨i, hi, rfl⟩ := List.mem_map.1 hx
    have hi' : i < ws.length := by simpa using hi
    have hb := divF_bd (L := ws.length) (w := gI ws) (c := gI cs) (gI_nn (fun i hi => (h.2 i hi).1.1)) n.toNat n (fun _ => 0) (fun j hj => ⟨Int.le_refl _, (h.2 j hj).2.1⟩) i hi'
    have hc := h.2 i hi'
    have h1 : -9223372036854775808 ≤ divF ws.length (gI ws) (gI cs) n.toNat n (fun _ => 0) i ∧ divF ws.length (gI ws) (gI cs) n.toNat n (fun _ => 0) i ≤ 9223372036854775807 := by omega
    exact h1
  · rw [hz.1 h]
    exact ⟨fun x hx => (by cases hx), by simp⟩
theorem Tryz.infoUBool : (Tryz.prog.info? 4).map (fun i => (i.zero, i.size, i.bytes)) = some (some (.bool false), 1, 1) := by kernel_rfl
set_option maxRecDepth 20000 in
set_option maxHeartbeats 6400000 in
theorem sDivide_any (n : Int) (k1 k2 : Nat) (c1 c2 : UD) (v1 v2 : Value) (lo hi lo' hi' : Nat) (w : World) (ht1 : tyS 1 k1 c1 1) (ht2 : tyS 1 k2 c2 1) (hx1 : uS w lo hi 1 k1 c1 v1) (hx2 : uS w lo' hi' 1 k2 c2 v2) (z : List Int) (hz : (¬ rightP n (intL c1) (intL c2) → z = []) ∧ (rightP n (intL c1) (intL c2) → z = divL n (intL c1) (intL c2))) :
    Calls Tryz.prog 69 #[.int .i64 n, v1, v2] w fun e w' => ∃ c, e = .returned c ∧ uS w' 0 w'.heap.size 1 z.length (ofInts z) c ∧ Below w.heap.size w w' := by
  obtain ⟨r, hr⟩ := bool_iff (rightP n (intL c1) (intL c2))
  have HR : Hid (∀ wx, Below w.heap.size w wx → Calls Tryz.prog 141 #[.int .i64 n, v1, v2] wx fun e w' => e = .returned (.bool r) ∧ w' = wx) := fun wx hb => l6Right_any n k1 k2 c1 c2 v1 v2 lo hi lo' hi' wx r ht1 ht2 (hx1.below hb) (hx2.below hb) hr
  obtain ⟨a1, p1, rfl, hy1⟩ := hx1
  obtain ⟨a2, p2, rfl, hy2⟩ := hx2
  have H1 : Hid (uS w lo hi 1 k1 c1 (.slice a1 k1 p1)) := ⟨_, _, rfl, hy1⟩
  have H2 : Hid (uS w lo' hi' 1 k2 c2 (.slice a2 k2 p2)) := ⟨_, _, rfl, hy2⟩
  have T1 := uhide ht1
  have T2 := uhide ht2
  have hl1 := intL_len ht1
  have hl2 := intL_len ht2
  have HA : Hid (∀ o, Below w.heap.size w (w.alloc o)) := fun o => (Below.refl _ _).alloc (Nat.le_refl _) _
  cases r
  · have hz1 := hz.1 (fun h => by have := hr.2 h; cases this)
    subst hz1
    clear hy1 hy2 ht1 ht2 hl1 hl2 hr H1 H2 T1 T2 hz
    go_enter Tryz.func69, Tryz.ntmps69
    go_wp2_with fail
    refine (HR.out _ (by first | exact Below.refl _ _ | exact HA.out _)).mono ?_
    rintro e w1 ⟨rfl, rfl⟩
    go_wp2
    go_ret
    exact ⟨_, rfl, ⟨_, _, rfl, ⟨Nat.zero_le _, fun e => (by cases e), by decide, rfl⟩, fun h => (by cases h)⟩, by first | exact Below.refl _ _ | exact HA.out _⟩
  have hrp := hr.1 rfl
  have hz1 := hz.2 hrp
  unfold divL at hz1
  rw [hl1] at hz1
  unfold rightP at hrp
  rw [hl1, hl2] at hrp
  obtain ⟨⟨hn, h64, hk⟩, hg⟩ := hrp
  have HG : Hid (∀ i, i < k1 → goodAt (intL c1) (intL c2) i) := hg
  subst hk
  have HZ := uhide hz1
  have HWN : Hid (∀ i, 0 ≤ gI (intL c1) i) := fun i => by
    by_cases h : i < k1
    · exact (HG.out i h).1.1
    · unfold gI; rw [List.getD_eq_getElem?_getD, List.getElem?_eq_none (by omega)]; exact Int.le_refl _
  clear hz hz1 hr hg hl1 hl2 hy1 hy2 ht1 ht2
  have hmk := run_make_row' (P := Tryz.prog) 28 3 (.int .i64 0) 8 Tryz.underlying28 Tryz.infoDInt rfl .i64 .i64 k1 (by omega) (by omega)
  go_enter Tryz.func69, Tryz.ntmps69
  go_wp2_with fail
  refine (HR.out _ (by first | exact Below.refl _ _ | exact HA.out _)).mono ?_
  rintro e w1 ⟨rfl, rfl⟩
  clear HR
  go_wp2
  have R0 : Hid (World.rowIs ((w.alloc (.cells #[] 3)).alloc (.cells (madeCells #[.int .i64 0] k1) 3)) (w.heap.size + 1) 3 k1 (fun j => .int .i64 ((fun _ => 0 : Nat → Int) j))) := by
    have h := (World.rowIs_made (w.alloc (.cells #[] 3)) (.int .i64 0) k1 3)
    have e : (w.alloc (.cells #[] 3)).heap.size = w.heap.size + 1 := by simp
    rw [e] at h
    exact h
  have HB0 : Hid (Below w.heap.size w ((w.alloc (.cells #[] 3)).alloc (.cells (madeCells #[.int .i64 0] k1) 3))) := ((Below.refl _ _).alloc (Nat.le_refl _) _).alloc (by simp) _
  have HD : Hid (divF k1 (gI (intL c1)) (gI (intL c2)) n.toNat n (fun _ => 0) = divF k1 (gI (intL c1)) (gI (intL c2)) n.toNat n (fun _ => 0)) := rfl
  generalize hRES : divF k1 (gI (intL c1)) (gI (intL c2)) n.toNat n (fun _ => 0) = RES at HZ
  have HD : Hid (divF k1 (gI (intL c1)) (gI (intL c2)) n.toNat n (fun _ => 0) = RES) := hRES
  have HC : Hid (∀ i, i < k1 → 0 ≤ (gI (intL c2)) i ∧ (gI (intL c2)) i ≤ 10000) := fun i hi => (HG.out i hi).2
  have HWB : Hid (∀ i, i < k1 → 0 ≤ (gI (intL c1)) i ∧ (gI (intL c1)) i ≤ 1000) := fun i hi => (HG.out i hi).1
  have HO0 : Hid (∀ i, i < k1 → 0 ≤ (fun _ => 0 : Nat → Int) i ∧ (fun _ => 0 : Nat → Int) i ≤ (gI (intL c2)) i) := fun i hi => ⟨Int.le_refl _, (HC.out i hi).1⟩
  clear hmk hRES
  go_loopw [0] (fun nn w2 => ∃ (f : Nat) (m : Int) (out : Nat → Int), nn = .int .i64 m ∧ 0 ≤ m ∧ m ≤ 10000 ∧ m.toNat ≤ f ∧ Hid (divF k1 (gI (intL c1)) (gI (intL c2)) f m out = RES) ∧ Hid (∀ i, i < k1 → 0 ≤ out i ∧ out i ≤ (gI (intL c2)) i) ∧ Hid (w2.rowIs (w.heap.size + 1) 3 k1 (fun j => .int .i64 (out j))) ∧ Hid (Below w.heap.size w w2)) (fun nn _ => (intOf nn).toNat)
  case atStart => exact ⟨n.toNat, n, fun _ => 0, rfl, hn.1, hn.2, Nat.le_refl _, HD, HO0, R0, HB0⟩
  case round =>
    clear R0 HB0 HD HO0
    obtain ⟨w2, rfl⟩ : ∃ w2, w2 = wr := ⟨_, rfl⟩
    obtain ⟨f, m, out, rfl, hm0, hm1, hf, HD, HO, R0, HB⟩ := hrel
    by_cases hmp : 0 < m
    · have hmk := run_make_row' (P := Tryz.prog) 188 4 (.bool false) 1 Tryz.underlying188 Tryz.infoUBool rfl .i64 .i64 k1 (by omega) (by omega)
      go_wp2
      have S0 : Hid (World.rowIs (w2.alloc (.cells (madeCells #[.bool false] k1) 4)) w2.heap.size 4 k1 (fun j => .bool (if j < 0 then openF k1 (gI (intL c1)) (gI (intL c2)) out j else false))) := (World.rowIs_made w2 (.bool false) k1 4).congr (fun i _ => by rw [if_neg (by omega)])
      have HBS : Hid (Below w2.heap.size w2 (w2.alloc (.cells (madeCells #[.bool false] k1) 4))) := (Below.refl _ _).alloc (Nat.le_refl _) _
      clear hmk
      have hg2 : w.heap.size + 1 < w2.heap.size := R0.out.lt
      go_loopw [9, 10] (fun s i w3 => ∃ (p : Nat), p ≤ k1 ∧ i = .int .i64 p ∧ s = .int .i64 (sumTo (onO (openF k1 (gI (intL c1)) (gI (intL c2)) out) (gI (intL c1))) p) ∧ Hid (w3.rowIs w2.heap.size 4 k1 (fun j => .bool (if j < p then openF k1 (gI (intL c1)) (gI (intL c2)) out j else false))) ∧ Hid (Below w2.heap.size w2 w3)) (fun _ i _ => k1 - (intOf i).toNat)
      case atStart => exact ⟨0, Nat.zero_le _, rfl, rfl, S0, HBS⟩
      case round =>
        clear S0 HBS
        obtain ⟨w3, rfl⟩ : ∃ w3, w3 = wr := ⟨_, rfl⟩
        obtain ⟨p, hp, rfl, rfl, S0, HBS⟩ := hrel
        have HB3 : Hid (Below w.heap.size w w3) := HB.out.trans (HBS.out.mono HB.out.size)
        have hsb := sumTo_bd (f := onO (openF k1 (gI (intL c1)) (gI (intL c2)) out) (gI (intL c1))) (m := 1000) (n := p) (fun i hi => by
          have := HWB.out i (by omega)
          unfold onO; split <;> omega) p (Nat.le_refl _)
        by_cases hpl : p < k1
        · obtain ⟨b1, off1, rfl, hb1, -⟩ := (H1.out.below HB3.out).cells (by omega)
          obtain ⟨b2, off2, rfl, hb2, -⟩ := (H2.out.below HB3.out).cells (by omega)
          have q1 := cell_int T1.out (H1.out.below HB3.out) p hpl
          have q2 := cell_int T2.out (H2.out.below HB3.out) p hpl
          have hb1l : b1 < w.heap.size := cell_lt (cell_int T1.out H1.out p hpl)
          have hb2l : b2 < w.heap.size := cell_lt (cell_int T2.out H2.out p hpl)
          have qo := (rowIs_below R0.out HBS.out).cell hpl
          have xs := S0.out.cell hpl
          have fs := S0.out.frozen p
          have hne : b1 ≠ w2.heap.size := by omega
          have hne' : b2 ≠ w2.heap.size := by omega
          have hne2 : w.heap.size + 1 ≠ w2.heap.size := by omega
          have HSS : Hid (∀ v, openF k1 (gI (intL c1)) (gI (intL c2)) out p = v → World.rowIs (w3.setCell ⟨w2.heap.size, p, none⟩ (.bool v)) w2.heap.size 4 k1 (fun j => .bool (if j < p + 1 then openF k1 (gI (intL c1)) (gI (intL c2)) out j else false))) := fun v hv => (S0.out.set p (.bool v)).congr (fun j _ => by
            by_cases e : j = p
            · subst e; rw [if_pos rfl, if_pos (by omega), hv]
            · rw [if_neg e]
              by_cases h : j < p
              · rw [if_pos h, if_pos (by omega)]
              · rw [if_neg h, if_neg (by omega)])
          have HOP : Hid (openF k1 (gI (intL c1)) (gI (intL c2)) out p = decide (p < k1 ∧ 0 < (gI (intL c1)) p ∧ out p < (gI (intL c2)) p)) := rfl
          have HSQ : Hid (sumTo (onO (openF k1 (gI (intL c1)) (gI (intL c2)) out) (gI (intL c1))) (p + 1) = sumTo (onO (openF k1 (gI (intL c1)) (gI (intL c2)) out) (gI (intL c1))) p + (if openF k1 (gI (intL c1)) (gI (intL c2)) out p = true then (gI (intL c1)) p else 0)) := rfl
          have HBQ : Hid (∀ v, Below w2.heap.size w2 (w3.setCell ⟨w2.heap.size, p, none⟩ v)) := fun v => HBS.out.setCell (by simp) v
          have hwp := HWB.out p hpl
          generalize sumTo (onO (openF k1 (gI (intL c1)) (gI (intL c2)) out) (gI (intL c1))) p = SP at *
          generalize (gI (intL c1)) p = X at *
          generalize (gI (intL c2)) p = Y at *
          generalize out p = Z at *
          generalize openF k1 (gI (intL c1)) (gI (intL c2)) out p = OP at *
          clear S0 R0 H1 H2 T1 T2 HC HWB HO HD HG HWN HZ
          by_cases hx : 0 < X
          rotate_left
          · have z0 : decide ((0 : Int) < X) = false := by rw [decide_eq_false_iff_not]; exact hx
            have hop : OP = false := by rw [HOP.out, decide_eq_false_iff_not]; exact fun h => hx h.2.1
            have SS := uhide (HSS.out false hop)
            have SQ := HSQ.out
            rw [hop, if_neg (by decide), Int.add_zero] at SQ
            have HSQ2 := uhide SQ
            have HBQ2 := uhide (HBQ.out (.bool false))
            clear HSS HSQ HBQ HOP SQ
            go_wp2
            go_region
            all_goals (
              go_wp2
              go_roundw
              case rel => exact ⟨p + 1, by omega, by go_num, by rw [HSQ2.out], rowIs_below SS.out (by repeat (first | with_reducible exact Below.refl _ _ | with_reducible refine Below.drew ?_ | with_reducible refine below_drewN ?_ _)), uhide (by repeat (first | with_reducible exact HBQ2.out | with_reducible refine Below.drew ?_ | with_reducible refine below_drewN ?_ _))⟩
              case measure => simp [intOf]; omega)
          by_cases hzy : Z < Y
          · have hop : OP = true := by rw [HOP.out, decide_eq_true_eq]; exact ⟨hpl, hx, hzy⟩
            have SS := uhide (HSS.out true hop)
            have SQ := HSQ.out
            rw [hop, if_pos rfl] at SQ
            have HSQ2 := uhide SQ
            have HBQ2 := uhide (HBQ.out (.bool true))
            clear HSS HSQ HBQ HOP SQ
            go_wp2
            go_region
            all_goals (
              go_wp2
              go_roundw
              case rel => exact ⟨p + 1, by omega, by go_num, by rw [HSQ2.out], rowIs_below SS.out (by repeat (first | with_reducible exact Below.refl _ _ | with_reducible refine Below.drew ?_ | with_reducible refine below_drewN ?_ _)), uhide (by repeat (first | with_reducible exact HBQ2.out | with_reducible refine Below.drew ?_ | with_reducible refine below_drewN ?_ _))⟩
              case measure => simp [intOf]; omega)
          · have z0 : decide (Z < Y) = false := by rw [decide_eq_false_iff_not]; exact hzy
            have hop : OP = false := by rw [HOP.out, decide_eq_false_iff_not]; exact fun h => hzy h.2.2
            have SS := uhide (HSS.out false hop)
            have SQ := HSQ.out
            rw [hop, if_neg (by decide), Int.add_zero] at SQ
            have HSQ2 := uhide SQ
            have HBQ2 := uhide (HBQ.out (.bool false))
            clear HSS HSQ HBQ HOP SQ
            go_wp2
            go_region
            all_goals (
              go_wp2
              go_roundw
              case rel => exact ⟨p + 1, by omega, by go_num, by rw [HSQ2.out], rowIs_below SS.out (by repeat (first | with_reducible exact Below.refl _ _ | with_reducible refine Below.drew ?_ | with_reducible refine below_drewN ?_ _)), uhide (by repeat (first | with_reducible exact HBQ2.out | with_reducible refine Below.drew ?_ | with_reducible refine below_drewN ?_ _))⟩
              case measure => simp [intOf]; omega)
        · have e : p = k1 := by omega
          subst e
          have HGA := fun hs => gets_all (L := p) (n := m) (w := (gI (intL c1))) (c := (gI (intL c2))) (out := out) hmp HWN.out HO.out hs
          have S1 : Hid (w3.rowIs w2.heap.size 4 p (fun j => .bool (openF p (gI (intL c1)) (gI (intL c2)) out j))) := S0.out.congr (fun j hj => by rw [if_pos hj])
          have HOS : sumTo (onO (openF p (gI (intL c1)) (gI (intL c2)) out) (gI (intL c1))) p = openS p (gI (intL c1)) (gI (intL c2)) out := rfl
          have hsw : openS p (gI (intL c1)) (gI (intL c2)) out ≤ 64000 := by omega
          have hsw0 : 0 ≤ openS p (gI (intL c1)) (gI (intL c2)) out := by omega
          have HSE : Hid (openS p (gI (intL c1)) (gI (intL c2)) out = sumTo (onO (openF p (gI (intL c1)) (gI (intL c2)) out) (gI (intL c1))) p) := rfl
          rw [HOS]
          by_cases hs : openS p (gI (intL c1)) (gI (intL c2)) out = 0
          · have z0 : (openS p (gI (intL c1)) (gI (intL c2)) out == 0) = true := by rw [beq_iff_eq]; exact hs
            have hres : RES = out := by rw [← HD.out]; exact divF_end (fun h => by omega)
            subst hres
            have R3 := uhide (rowIs_below R0.out HBS.out)
            generalize openS p (gI (intL c1)) (gI (intL c2)) RES = SS at *
            clear S0 S1 R0 H1 H2 T1 T2 HC HWB HO HD HG HWN HGA HSE HOS
            go_wp2
            go_ret
            exact ⟨_, rfl, by rw [HZ.out, ofFn_len]; exact rowIs_uS R3.out (Nat.zero_le _) R3.out.lt, HB3.out⟩
          · have z0 : (openS p (gI (intL c1)) (gI (intL c2)) out == 0) = false := by rw [beq_eq_false_iff_ne]; exact hs
            have hs1 : 0 < openS p (gI (intL c1)) (gI (intL c2)) out := by omega
            obtain ⟨hga, hgb, hgc⟩ := HGA hs1
            have HL := uhide (l6Wants_any m (openS p (gI (intL c1)) (gI (intL c2)) out) p c1 (.slice a1 p p1) lo hi w2.heap.size (openF p (gI (intL c1)) (gI (intL c2)) out) w3 T1.out (H1.out.below HB3.out) S1.out h64 ⟨hmp, hm1⟩ HWB.out ⟨hs1, hsw⟩ rfl)
            have HWT : Hid (∀ j, j < p → 0 ≤ wantsF p m (openS p (gI (intL c1)) (gI (intL c2)) out) (gI (intL c1)) (openF p (gI (intL c1)) (gI (intL c2)) out) j ∧ wantsF p m (openS p (gI (intL c1)) (gI (intL c2)) out) (gI (intL c1)) (openF p (gI (intL c1)) (gI (intL c2)) out) j ≤ m) := fun j hj => by
              have := wants_bd (L := p) (m := m) (O := openF p (gI (intL c1)) (gI (intL c2)) out) (w := (gI (intL c1))) (by omega) HWN.out hs1 rfl j
              exact ⟨this.1, this.2.1 hj⟩
            have HGD : Hid (∀ j, getsF p m (gI (intL c1)) (gI (intL c2)) out j = if (gI (intL c2)) j - out j < wantsF p m (openS p (gI (intL c1)) (gI (intL c2)) out) (gI (intL c1)) (openF p (gI (intL c1)) (gI (intL c2)) out) j then (gI (intL c2)) j - out j else wantsF p m (openS p (gI (intL c1)) (gI (intL c2)) out) (gI (intL c1)) (openF p (gI (intL c1)) (gI (intL c2)) out) j) := fun j => rfl
            have HGB := uhide hga
            have HD2 : Hid (∃ f', f = f' + 1 ∧ divF p (gI (intL c1)) (gI (intL c2)) f' (m - sumTo (getsF p m (gI (intL c1)) (gI (intL c2)) out) p) (fun i => out i + getsF p m (gI (intL c1)) (gI (intL c2)) out i) = RES) := by
              cases f with
              | zero => omega
              | succ f' => exact ⟨f', rfl, by rw [← HD.out]; exact (divF_go ⟨hmp, hs1⟩).symm⟩
            have R3 := uhide (rowIs_below R0.out HBS.out)
            have hsz : w2.heap.size ≤ w3.heap.size := HBS.out.size
            clear S0 S1 R0 HWB HD HGA HOS HSE hga
            go_wp2_with fail
            refine (HL.out).mono ?_
            rintro e w4 ⟨bW, rfl, hbW, hRW, hb4⟩
            have R4 := uhide (rowIs_below R3.out hb4)
            have RW4 : Hid (w4.rowIs bW 3 p (fun j => .int .i64 (if j < 0 then getsF p m (gI (intL c1)) (gI (intL c2)) out j else wantsF p m (openS p (gI (intL c1)) (gI (intL c2)) out) (gI (intL c1)) (openF p (gI (intL c1)) (gI (intL c2)) out) j))) := hRW.congr (fun j _ => by rw [if_neg (by omega)])
            have R40 : Hid (w4.rowIs (w.heap.size + 1) 3 p (fun j => .int .i64 (if j < 0 then out j + getsF p m (gI (intL c1)) (gI (intL c2)) out j else out j))) := R4.out.congr (fun j _ => by rw [if_neg (by omega)])
            have HB4 : Hid (Below w.heap.size w w4) := HB3.out.trans (hb4.mono HB3.out.size)
            clear hRW hb4 HL R3 R4 HWN
            generalize wantsF p m (openS p (gI (intL c1)) (gI (intL c2)) out) (gI (intL c1)) (openF p (gI (intL c1)) (gI (intL c2)) out) = WT at *
            generalize getsF p m (gI (intL c1)) (gI (intL c2)) out = G at *
            generalize openS p (gI (intL c1)) (gI (intL c2)) out = SS at *
            go_wp2
            go_loopw [0, 12] (fun nn i w5 => ∃ (j0 : Nat), j0 ≤ p ∧ i = .int .i64 j0 ∧ nn = .int .i64 (m - sumTo G j0) ∧ Hid (w5.rowIs (w.heap.size + 1) 3 p (fun j => .int .i64 (if j < j0 then out j + G j else out j))) ∧ Hid (w5.rowIs bW 3 p (fun j => .int .i64 (if j < j0 then G j else WT j))) ∧ Hid (Below w.heap.size w w5)) (fun _ i _ => p - (intOf i).toNat)
            case atStart => exact ⟨0, Nat.zero_le _, rfl, by simp [sumTo], R40, RW4, HB4⟩
            case round =>
              clear R40 RW4 HB4
              obtain ⟨w5, rfl⟩ : ∃ w5, w5 = wr := ⟨_, rfl⟩
              obtain ⟨j0, hj0, rfl, rfl, R0, RW, HB5⟩ := hrel
              by_cases hjl : j0 < p
              · obtain ⟨b2, off2, rfl, hb2, -⟩ := (H2.out.below HB5.out).cells (by omega)
                have hb2l : b2 < w.heap.size := cell_lt (cell_int T2.out H2.out j0 hjl)
                have q2 := cell_int T2.out (H2.out.below HB5.out) j0 hjl
                have xo := R0.out.cell hjl
                have fo := R0.out.frozen j0
                have xw := RW.out.cell hjl
                have fw := RW.out.frozen j0
                rw [if_neg (by omega)] at xo xw
                have hoj := HO.out j0 hjl
                have hcj := HC.out j0 hjl
                have hgj := HGB.out j0 hjl
                have hwj := HWT.out j0 hjl
                have hdj := HGD.out j0
                have hsj := sumTo_bd (f := G) (m := 10000) (n := p) (fun i hi => by
                  have := HGB.out i hi
                  have := HO.out i hi
                  have := HC.out i hi
                  omega) j0 hj0
                have HSQ : Hid (m - sumTo G (j0 + 1) = m - sumTo G j0 - G j0) := by
                  show _ = _
                  rw [sumTo_succ]; omega
                have RG : Hid (∀ (wx : World) (v : Value), v = .int .i64 (out j0 + G j0) → wx.rowIs (w.heap.size + 1) 3 p (fun j => .int .i64 (if j < j0 then out j + G j else out j)) → World.rowIs (wx.setCell ⟨w.heap.size + 1, j0, none⟩ v) (w.heap.size + 1) 3 p (fun j => .int .i64 (if j < j0 + 1 then out j + G j else out j))) := fun wx v hv h => (h.set j0 v).congr (fun j _ => by
                  by_cases e : j = j0
                  · subst e; rw [if_pos rfl, if_pos (by omega), hv]
                  · rw [if_neg e]
                    by_cases h : j < j0
                    · rw [if_pos h, if_pos (by omega)]
                    · rw [if_neg h, if_neg (by omega)])
                have RX : Hid (∀ (wx : World) (v : Value), v = .int .i64 (G j0) → wx.rowIs bW 3 p (fun j => .int .i64 (if j < j0 then G j else WT j)) → World.rowIs (wx.setCell ⟨bW, j0, none⟩ v) bW 3 p (fun j => .int .i64 (if j < j0 + 1 then G j else WT j))) := fun wx v hv h => (h.set j0 v).congr (fun j _ => by
                  by_cases e : j = j0
                  · subst e; rw [if_pos rfl, if_pos (by omega), hv]
                  · rw [if_neg e]
                    by_cases h : j < j0
                    · rw [if_pos h, if_pos (by omega)]
                    · rw [if_neg h, if_neg (by omega)])
                have RY : Hid (G j0 = WT j0 → w5.rowIs bW 3 p (fun j => .int .i64 (if j < j0 + 1 then G j else WT j))) := fun hv => RW.out.congr (fun j _ => by
                  by_cases e : j = j0
                  · subst e; rw [if_neg (by omega), if_pos (by omega), hv]
                  · by_cases h : j < j0
                    · rw [if_pos h, if_pos (by omega)]
                    · rw [if_neg h, if_neg (by omega)])
                have hn1 : bW ≠ w.heap.size + 1 := by omega
                have hn2 : b2 ≠ w.heap.size + 1 := by omega
                have hn3 : b2 ≠ bW := by omega
                generalize sumTo G j0 = SG at *
                generalize (gI (intL c2)) j0 = Y at *
                generalize hGz : G j0 = Gz at *
                generalize hWz : WT j0 = Wz at *
                generalize hOz : out j0 = Oz at *
                clear H1 H2 T1 T2 HC HO HD2 HG HZ HWT HGD HGB hGz hWz hOz
                by_cases hlt : Y - Oz < Wz
                · rw [if_pos hlt] at hdj
                  subst hdj
                  clear RY
                  go_wp2
                  go_quiet (fail)
                  go_wp2
                  go_region
                  all_goals (
                    go_wp2
                    go_region
                    all_goals (
                      go_wp2
                      go_roundw
                      case rel =>
                        exact ⟨j0 + 1, by omega, by go_num, by rw [HSQ.out], uhide (by
                          repeat (first
                            | with_reducible exact R0.out
                            | with_reducible refine World.rowIs.drew ?_
                            | with_reducible refine rowIs_drewN ?_ _
                            | with_reducible refine RG.out _ _ (by first | rfl | go_num | (congr 1; omega)) ?_
                            | with_reducible refine World.rowIs.setOther ?_ (by simp <;> omega) _)), uhide (by
                          repeat (first
                            | with_reducible exact RW.out
                            | with_reducible refine World.rowIs.drew ?_
                            | with_reducible refine rowIs_drewN ?_ _
                            | with_reducible refine RX.out _ _ (by first | rfl | go_num | (congr 1; omega)) ?_
                            | with_reducible refine World.rowIs.setOther ?_ (by simp <;> omega) _)), uhide (by
                          repeat (first
                            | with_reducible exact HB5.out
                            | with_reducible refine Below.drew ?_
                            | with_reducible refine below_drewN ?_ _
                            | with_reducible refine Below.setCell ?_ (by simp <;> omega) _))⟩
                      case measure => simp [intOf]; omega))
                · rw [if_neg hlt] at hdj
                  subst hdj
                  have RW1 := uhide (RY.out rfl)
                  have z0 : decide (Y - Oz < Gz) = false := by rw [decide_eq_false_iff_not]; exact hlt
                  clear RY RX RW
                  have RX : Hid (∀ (wx : World) (v : Value), False → True → World.rowIs (wx.setCell ⟨bW, j0, none⟩ v) bW 3 p (fun j => .int .i64 (if j < j0 + 1 then G j else WT j))) := fun _ _ h => h.elim
                  go_wp2
                  go_quiet (fail)
                  go_wp2
                  go_region
                  all_goals (
                    go_wp2
                    go_roundw
                    case rel =>
                      exact ⟨j0 + 1, by omega, by go_num, by rw [HSQ.out], uhide (by
                        repeat (first
                          | with_reducible exact R0.out
                          | with_reducible refine World.rowIs.drew ?_
                          | with_reducible refine rowIs_drewN ?_ _
                          | with_reducible refine RG.out _ _ (by first | rfl | go_num | (congr 1; omega)) ?_
                          | with_reducible refine World.rowIs.setOther ?_ (by simp <;> omega) _)), uhide (by
                        repeat (first
                          | with_reducible exact RW1.out
                          | with_reducible refine World.rowIs.drew ?_
                          | with_reducible refine rowIs_drewN ?_ _
                          | with_reducible refine RX.out _ _ (by first | rfl | go_num | (congr 1; omega)) ?_
                          | with_reducible refine World.rowIs.setOther ?_ (by simp <;> omega) _)), uhide (by
                        repeat (first
                          | with_reducible exact HB5.out
                          | with_reducible refine Below.drew ?_
                          | with_reducible refine below_drewN ?_ _
                          | with_reducible refine Below.setCell ?_ (by simp <;> omega) _))⟩
                    case measure => simp [intOf]; omega)
              · have e : j0 = p := by omega
                subst e
                obtain ⟨f', hf', hd⟩ := HD2.out
                subst hf'
                have HDn := uhide hd
                have HOn : Hid (∀ i, i < j0 → 0 ≤ (fun i => out i + G i : Nat → Int) i ∧ (fun i => out i + G i : Nat → Int) i ≤ (gI (intL c2)) i) := fun i hi => by
                  have := HGB.out i hi
                  have := HO.out i hi
                  show 0 ≤ out i + G i ∧ out i + G i ≤ _
                  omega
                have R0' : Hid (w5.rowIs (w.heap.size + 1) 3 j0 (fun j => .int .i64 ((fun i => out i + G i : Nat → Int) j))) := R0.out.congr (fun j hj => by rw [if_pos hj])
                clear HD2 hd R0 RW HGB HO HGD HWT H1 H2 T1 T2
                go_wp2
                go_roundw
                case rel => exact ⟨f', m - sumTo G j0, fun i => out i + G i, rfl, by omega, by omega, by omega, HDn, HOn, R0', HB5⟩
                case measure => simp [intOf]; omega
    · have hres : RES = out := by rw [← HD.out]; exact divF_end (fun h => hmp h.1)
      subst hres
      clear H1 H2 T1 T2 HC HWB HO HD HG HWN
      go_wp2
      go_ret
      exact ⟨_, rfl, by rw [HZ.out, ofFn_len]; exact rowIs_uS R0.out (Nat.zero_le _) R0.out.lt, HB.out⟩
end Go.Proofs.YtdnodaoeflbfkaaGreat
/- Islands and wants: what is asked of them, as plain functions. -/
namespace Go.Proofs.YtdnodaoeflbfkaaGreat
open Go.RowKit Go.BigFrame
set_option linter.unusedVariables false

/-- the names of a want's weights are in order, each weight is in its bounds -/
def wgK (l : List WgD) (i : Nat) : ByteArray := (l[i]?.getD (ByteArray.empty, 0)).1
def wgN (l : List WgD) (i : Nat) : Int := (l[i]?.getD (ByteArray.empty, 0)).2
theorem wgK_get {l : List WgD} {i : Nat} (h : i < l.length) : wgK l i = (l[i]'h).1 := by unfold wgK; rw [List.getElem?_eq_getElem h]; rfl
theorem wgN_get {l : List WgD} {i : Nat} (h : i < l.length) : wgN l i = (l[i]'h).2 := by unfold wgN; rw [List.getElem?_eq_getElem h]; rfl
def okW (l : List WgD) (i : Nat) : Prop := nameB (wgK l i) = true ∧ inB (wgN l i) 0 1000 = true ∧ (0 < i → ltS (wgK l (i - 1)) (wgK l i) = true)
def wgsB (l : List WgD) : Bool := decide (l.length ≤ 12 ∧ ∀ i, i < l.length → nameB (wgK l i) = true ∧ inB (wgN l i) 0 1000 = true ∧ (0 < i → ltS (wgK l (i - 1)) (wgK l i) = true))
theorem wgsB_bad {l : List WgD} {k : Nat} (hk : k < l.length) (h : ¬ okW l k) : wgsB l = false := by
  unfold wgsB; rw [decide_eq_false_iff_not]; exact fun g => h (g.2 k hk)
theorem wgsB_end {l : List WgD} (h : ∀ i, i < l.length → okW l i) : wgsB l = decide (l.length ≤ 12) := by
  unfold wgsB; rw [decide_eq_decide]; exact ⟨fun g => g.1, fun g => ⟨g, h⟩⟩
theorem okW_succ {l : List WgD} {k : Nat} (h : ∀ i, i < k → okW l i) (hk : okW l k) : ∀ i, i < k + 1 → okW l i := by
  intro i hi
  by_cases e : i = k
  · rw [e]; exact hk
  · exact h i (by omega)
theorem okW_cases (l : List WgD) (k : Nat) :
    (nameB (wgK l k) = false ∧ Hid (¬ okW l k)) ∨ (nameB (wgK l k) = true ∧ inB (wgN l k) 0 1000 = false ∧ Hid (¬ okW l k)) ∨
    (nameB (wgK l k) = true ∧ inB (wgN l k) 0 1000 = true ∧ Hid (k = 0) ∧ Hid (okW l k)) ∨
    (nameB (wgK l k) = true ∧ inB (wgN l k) 0 1000 = true ∧ 0 < k ∧ Op.bytesLess (wgK l (k - 1)).toList (wgK l k).toList = true ∧ Hid (okW l k)) ∨
    (nameB (wgK l k) = true ∧ inB (wgN l k) 0 1000 = true ∧ 0 < k ∧ Op.bytesLess (wgK l (k - 1)).toList (wgK l k).toList = false ∧ Hid (¬ okW l k)) := by
  have hd : okW l k ↔ nameB (wgK l k) = true ∧ inB (wgN l k) 0 1000 = true ∧ (0 < k → Op.bytesLess (wgK l (k - 1)).toList (wgK l k).toList = true) := Iff.rfl
  unfold Hid
  rw [hd]
  rcases Bool.eq_false_or_eq_true (nameB (wgK l k)) with h1 | h1
  · rcases Bool.eq_false_or_eq_true (inB (wgN l k) 0 1000) with h2 | h2
    · by_cases h3 : 0 < k
      · rcases Bool.eq_false_or_eq_true (Op.bytesLess (wgK l (k - 1)).toList (wgK l k).toList) with h4 | h4
        · exact .inr (.inr (.inr (.inl ⟨h1, h2, h3, h4, h1, h2, fun _ => h4⟩)))
        · refine .inr (.inr (.inr (.inr ⟨h1, h2, h3, h4, fun g => ?_⟩)))
          have := g.2.2 h3
          rw [h4] at this; cases this
      · exact .inr (.inr (.inl ⟨h1, h2, by omega, h1, h2, fun h => absurd h h3⟩))
    · exact .inr (.inl ⟨h1, h2, fun g => by rw [h2] at g; cases g.2.1⟩)
  · exact .inl ⟨h1, fun g => by rw [h1] at g; cases g.1⟩
theorem wgsB_iff {l : List WgD} : wgsB l = true ↔ l.length ≤ 12 ∧ (∀ x ∈ l, inB x.2 0 1000 = true) ∧ valsB (l.map Prod.fst) = true := by
  have hs : ∀ i, i < l.length → ssAt (l.map Prod.fst) i = wgK l i := fun i hi => by rw [ssAt_get (by simpa using hi), wgK_get hi]; simp
  unfold wgsB valsB
  rw [decide_eq_true_eq, decide_eq_true_eq]
  constructor
  · rintro ⟨h1, h2⟩
    refine ⟨h1, fun x hx => ?_, fun i hi => ?_⟩
    · obtain ⟨i, hi, rfl⟩ := List.getElem_of_mem hx
      have := (h2 i hi).2.1
      rwa [wgN_get hi] at this
    · have hi' : i < l.length := by simpa using hi
      have := h2 i hi'
      refine ⟨by rw [hs i hi']; exact this.1, fun h => ?_⟩
      rw [hs i hi', hs (i - 1) (by omega)]
      exact this.2.2 h
  · rintro ⟨h1, h2, h3⟩
    refine ⟨h1, fun i hi => ?_⟩
    have := h3 i (by simpa using hi)
    rw [hs i hi] at this
    refine ⟨this.1, by rw [wgN_get hi]; exact h2 _ (List.getElem_mem hi), fun h => ?_⟩
    have := this.2 h
    rwa [hs (i - 1) (by omega)] at this
/-- at most so many names, in order -/
def nmsB (ss : List ByteArray) (m : Nat) : Bool := valsB ss && decide (ss.length ≤ m)
def islB (I : IsD) : Bool := nameB I.1 && labelsB I.2.1 && nmsB I.2.2.1 4 && inB I.2.2.2 0 10000
def wanB (W : WaD) : Bool := inB W.1 0 10000 && selB W.2.1 && nmsB W.2.2.1 8 && wgsB W.2.2.2
def bornB (bears spots : List ByteArray) : Bool := spots.all (amongB bears)
def eligB (W : WaD) (I : IsD) : Bool := wanB W && islB I && matchB W.2.1 I.2.1 && bornB W.2.2.1 I.2.2.1
def weighI : List WgD → ByteArray → Int
  | [], _ => 1
  | x :: r, s => if x.1 = s then x.2 else weighI r s
theorem weighI_hit {s : ByteArray} : ∀ {l : List WgD} {k : Nat}, (∀ j (h : j < l.length), j < k → (l[j]'h).1 ≠ s) → ∀ hk : k < l.length, (l[k]'hk).1 = s → weighI l s = (l[k]'hk).2
  | x :: r, 0, _, _, he => by unfold weighI; rw [if_pos (show x.1 = s from he)]; rfl
  | x :: r, k + 1, h, hk, he => by
    unfold weighI
    rw [if_neg (show ¬ x.1 = s from h 0 (by simp) (by omega))]
    exact weighI_hit (fun j hj hjk => h (j + 1) (by simp; omega) (by omega)) (by simpa using hk) he
theorem weighI_miss {s : ByteArray} : ∀ {l : List WgD}, (∀ j (h : j < l.length), (l[j]'h).1 ≠ s) → weighI l s = 1
  | [], _ => rfl
  | x :: r, h => by
    unfold weighI
    rw [if_neg (show ¬ x.1 = s from h 0 (by simp))]
    exact weighI_miss (fun j hj => h (j + 1) (by simp; omega))
theorem weighI_in {s : ByteArray} : ∀ {l : List WgD}, (∀ x ∈ l, 0 ≤ x.2 ∧ x.2 ≤ 1000) → 0 ≤ weighI l s ∧ weighI l s ≤ 1000
  | [], _ => by unfold weighI; exact ⟨by decide, by decide⟩
  | x :: r, h => by
    unfold weighI
    split
    · exact h x (.head _)
    · exact weighI_in (fun y hy => h y (.tail _ hy))
theorem weighI_i64 {s : ByteArray} : ∀ {l : List WgD}, (∀ x ∈ l, inK .i64 x.2) → inK .i64 (weighI l s)
  | [], _ => by unfold weighI; exact ⟨by decide, by decide⟩
  | x :: r, h => by
    unfold weighI
    split
    · exact h x (.head _)
    · exact weighI_i64 (fun y hy => h y (.tail _ hy))
theorem inB_iff {x a b : Int} : inB x a b = true ↔ a ≤ x ∧ x ≤ b := by unfold inB; rw [decide_eq_true_eq]
/-- the weight of an island in a want -/
def wOf (W : WaD) (I : IsD) : Int := if eligB W I = true then weighI W.2.2.2 I.1 else 0
def wsOf (W : WaD) (L : List IsD) : List Int := L.map (wOf W)
theorem wanB_wgs {W : WaD} (h : wanB W = true) : ∀ x ∈ W.2.2.2, 0 ≤ x.2 ∧ x.2 ≤ 1000 := fun x hx => by
  unfold wanB at h
  simp only [Bool.and_eq_true] at h
  exact inB_iff.1 ((wgsB_iff.1 h.2).2.1 x hx)
theorem wOf_in {W : WaD} (h : wanB W = true) (I : IsD) : 0 ≤ wOf W I ∧ wOf W I ≤ 1000 := by
  unfold wOf
  split
  · exact weighI_in (wanB_wgs h)
  · exact ⟨by decide, by decide⟩
open Classical in
/-- what numbers are divided into, none where they are not right -/
noncomputable def dvdL (n : Int) (ws cs : List Int) : List Int := if rightP n ws cs then divL n ws cs else []
theorem dvdL_says (n : Int) (ws cs : List Int) : (¬ rightP n ws cs → dvdL n ws cs = []) ∧ (rightP n ws cs → dvdL n ws cs = divL n ws cs) := ⟨fun h => by unfold dvdL; rw [if_neg h], fun h => by unfold dvdL; rw [if_pos h]⟩
def shrR (W : WaD) (L : List IsD) : Bool := wanB W && decide (L.length ≤ 12) && L.all islB
noncomputable def shrL (W : WaD) (L : List IsD) (left : List Int) : List Int := if shrR W L = true then dvdL W.1 (wsOf W L) left else []
theorem shrL_len {W : WaD} {L : List IsD} {left : List Int} (h : left.length ≠ L.length) : shrL W L left = [] := by
  unfold shrL
  split
  · refine (dvdL_says _ _ _).1 (fun g => h ?_)
    have := g.1.2.2
    simp [wsOf] at this
    omega
  · rfl
end Go.Proofs.YtdnodaoeflbfkaaGreat
/- Data as cells: lists that a call builds by append. -/
namespace Go.Proofs.YtdnodaoeflbfkaaGreat
open Go.RowKit
set_option linter.unusedVariables false

theorem callFunc_enter {P : Program} {f : FuncId} {fn : Func} (h : P.funcs[f]? = some fn) (hn : (fn.name == "runtime.NumGoroutine") = false) (hb : fn.body.isNone = false) (xs : Array Value) (w : World) : (callFunc f xs).run P w = .ok (.enter f xs) w := by
  have hn' : ¬ fn.name = "runtime.NumGoroutine" := by simpa using hn
  have hb' : ¬ fn.body = none := by intro e; rw [e] at hb; cases hb
  simp [callFunc, h, hn', hb', go_sem]
/-- a call of a Go function, by its contract, as a step of a region that draws -/
theorem step_call_of {P : Program} {w : World} {ops : Array Oper} {o : Oper} {a : Act} {K : Act → World → Prop} {Q : Exit → Act → World → Prop} {E : Prop} (hgd : o.guard = none) (f : FuncId) (args : Array Operand) (ts : Array TypeId)
    (ho : o.op = .call { callee := .value (.func f), args := args, argTypes := ts }) (hcf : ∀ xs w, (callFunc f xs).run P w = .ok (.enter f xs) w) (xs : Array Value) (hx : args.map a.eval = xs) {R : Ending → World → Prop} (hc : Calls P f xs w R) (h : ∀ e w', R e w' → ∃ v, e = .returned v ∧ K (a.put o.dst v) w') :
    if Region.wanted o (yielded ops a.tmps) = true then Oper.wp P o a w K Q else E := by
  subst hx
  have hw : Region.wanted o (yielded ops a.tmps) = true := by simp [Region.wanted, hgd]
  rw [if_pos hw]
  unfold Oper.wp execOp
  simp only [ho, resolve, invoke, Sem.run_bind]
  have e : (Deferred.ofValue (a.eval (Operand.func f)) (Array.map a.eval args)).run P w = .ok { target := .fn (.func f) #[], args := args.map a.eval } w := by simp [Act.eval, Deferred.ofValue, go_sem]
  rw [e, Result.andThen_ok]
  simp only [Array.append_empty]
  rw [hcf]
  rw [Oper.upon_enter]
  refine hc.mono ?_
  intro e w' hr
  obtain ⟨v, rfl, hk⟩ := h e w' hr
  exact hk
/-- a list of n things of k cells that the call builds, in blocks from base on -/
def AS (base : Nat) (w : World) (e : TypeId) (k : Nat) (v : Value) (cs : UD) (n : Nat) : Prop :=
  cs.len = n * k ∧ ∃ xs S, w.ownsRow base e k v n xs ∧ oH w cs xs S ∧ own2 S base w.heap.size ∧ ∀ g ∈ blkOf v, g ∉ S
theorem AS.nil (base : Nat) (w : World) (e : TypeId) (k : Nat) : AS base w e k (.slice none 0 0) .nil 0 :=
  ⟨by simp [UD.len, UD.toL], [], [], World.ownsRow_nil w base e k, ⟨rfl, rfl⟩, own2.nil _ _, fun g hg => by cases hg⟩
theorem AS.below {base : Nat} {w w' : World} {e : TypeId} {k : Nat} {v : Value} {cs : UD} {n : Nat} (h : AS base w e k v cs n) (hb : Below w.heap.size w w') : AS base w' e k v cs n := by
  obtain ⟨h0, xs, S, h1, h2, h3, h4⟩ := h
  exact ⟨h0, xs, S, uowns_frame h1 (fun x hx => hb.block x (ublk_lt h1 x hx).2), h2.below hb, h3.mono (Nat.le_refl _) hb.size, h4⟩
theorem AS.slice {base : Nat} {w : World} {e : TypeId} {k : Nat} {v : Value} {cs : UD} {n : Nat} (h : AS base w e k v cs n) : ∃ a p, v = .slice a n p := by
  obtain ⟨h0, xs, S, h1, h2, h3, h4⟩ := h
  exact uowns_slice h1
theorem AS.done {base : Nat} {w : World} {e : TypeId} {k : Nat} {v : Value} {cs : UD} {n : Nat} (h : AS base w e k v cs n) (hk : 0 < k) (hb : base ≤ w.heap.size) : ∃ S, oS w k n cs v S ∧ own2 S base w.heap.size := by
  obtain ⟨h0, xs, S, h1, h2, h3, h4⟩ := h
  have h1' : w.ownsRow 0 e k v n xs := by
    refine ⟨h1.1, ?_⟩
    rcases h1.2 with hh | ⟨g, cap, cur, a1, a2, a3⟩
    · exact .inl hh
    · exact .inr ⟨g, cap, cur, a1, Nat.zero_le _, a3⟩
  refine ⟨blkOf v ++ S, ⟨hk, e, xs, S, h1', h2, rfl⟩, ?_, fun s hs => ?_⟩
  · refine List.nodup_append.2 ⟨?_, h3.1, fun a ha b hb hab => h4 a ha (hab ▸ hb)⟩
    unfold blkOf
    split
    · simp
    · exact List.nodup_nil
  · rcases List.mem_append.1 hs with hs | hs
    · exact ublk_lt h1 s hs
    · exact h3.2 s hs
theorem grown_frame {w w' : World} {row : Option Nat} (hg : w.grownBy w' row) {S : List Nat} (hS : ∀ s ∈ S, s < w.heap.size) (hr : ∀ g, row = some g → g ∉ S) : ∀ s ∈ S, w'.heap[s]? = w.heap[s]? :=
  fun s hs => hg.block s (hS s hs) (fun e => hr s e.symm hs)
theorem AS.snoc {base b0 : Nat} {w1 w2 : World} {e : TypeId} {k : Nat} {v : Value} {cs : UD} {n : Nat} {xs : List Value} {S : List Nat} (hlen : cs.len = n * k) (hw : w1.ownsRow base e k v n xs) (ho : oH w1 cs xs S) (hS : own2 S base b0)
    (hne : ∀ g ∈ blkOf v, g ∉ S) (hvb : ∀ g ∈ blkOf v, g < b0) {R : UD} {ys : List Value} {T : List Nat} (hR : oH w1 R ys T) (hT : own2 T b0 w1.heap.size) (hb : base ≤ b0) (hb2 : b0 ≤ w1.heap.size) (hRl : R.len = k) {g cap : Nat}
    (hown : w2.ownsRow base e k (.slice (some ⟨g, 0, none⟩) (n + 1) cap) (n + 1) (xs ++ ys)) (hgrow : w1.grownBy w2 v.ownBlock) (hat : v.ownBlock = some g ∨ g = w1.heap.size) : AS base w2 e k (.slice (some ⟨g, 0, none⟩) (n + 1) cap) (cs.app R) (n + 1) := by
  have hrow : ∀ g', v.ownBlock = some g' → g' ∈ blkOf v := fun g' h => by unfold blkOf; rw [h]; simp
  have hvT : ∀ g' ∈ blkOf v, g' ∉ T := fun g' h ht => by have := hvb g' h; have := hT.2 g' ht; omega
  refine ⟨?_, xs ++ ys, S ++ T, hown, oH.app (ho.frame _ _ _ (grown_frame hgrow (ho.lt _ _ _) (fun g' h => hne g' (hrow g' h)))) (hR.frame _ _ _ (grown_frame hgrow (hR.lt _ _ _) (fun g' h => hvT g' (hrow g' h)))),
    (own2.app hS hT (Nat.le_refl _) hb hb2).mono (Nat.le_refl _) hgrow.size, fun g' hg' => ?_⟩
  · have : (cs.app R).len = cs.len + R.len := by unfold UD.len; rw [UD.app_toL, List.length_append]
    rw [this, hlen, hRl, Nat.succ_mul]
  · have e1 : g' = g := by simpa [blkOf, Value.ownBlock] using hg'
    subst e1
    rw [List.mem_append]
    rcases hat with h | h
    · exact fun hx => hx.elim (hne g' (hrow g' h)) (hvT g' (hrow g' h))
    · intro hx
      rcases hx with hx | hx
      · have := hS.2 g' hx; omega
      · have := hT.2 g' hx; omega
theorem cells_new (w : World) (xs : List Value) (t : TypeId) : ∀ j u, xs[j]? = some u → (w.alloc (.cells xs.toArray t)).cell? ((⟨w.heap.size, 0, none⟩ : Addr).add j) = some u := by
  intro j u h
  rw [Go.WideShapes.add_plain, Nat.zero_add]
  exact (objU.new w t xs).cell j u h
theorem one_cell {w : World} {lo hi : Nat} : ∀ {d : UD} {fs : List UF} {xs : List Value}, tyL d fs → uH w lo hi d xs → ∀ u ∈ xs, u.oneCell' = true
  | .nil, _, _, _, h, u, hu => by rw [show _ = [] from h] at hu; cases hu
  | .p v r, _, _, ⟨f, fr, e, h1, h2⟩, ⟨ys, e2, h⟩, u, hu => by
    subst e2
    rcases List.mem_cons.1 hu with rfl | hu
    · cases f with
      | i k => obtain ⟨z, rfl, _⟩ := h1; rfl
      | s => obtain ⟨z, rfl, _⟩ := h1; rfl
      | b => obtain ⟨z, rfl⟩ := h1; rfl
      | l k t => cases h1
    · exact one_cell h2 h u hu
  | .l k n cs r, _, _, ⟨t, fr, e, h1, h2⟩, ⟨c, ys, e2, g, h⟩, u, hu => by
    subst e2
    rcases List.mem_cons.1 hu with rfl | hu
    · obtain ⟨a, cap, rfl, _⟩ := g; rfl
    · exact one_cell h2 h u hu
/-- all the cells of a slice, one by one -/
theorem uM.list {w : World} {lo hi : Nat} {b o : Nat} {d : UD} (h : uM w lo hi d b o) : ∃ xs, uH w lo hi d xs ∧ ∀ j u, xs[j]? = some u → w.cell? ((⟨b, o, none⟩ : Addr).add j) = some u := by
  obtain ⟨xs, h1, h2⟩ := h.hand
  exact ⟨xs, h1, fun j u hj => by rw [Go.WideShapes.add_plain]; exact h2 j u hj⟩
/-- plain cells alone: copied they are one's own -/
theorem plain_own {w w' : World} {lo hi : Nat} {fs : List UF} (hp : ∀ f ∈ fs, ∀ k t, f ≠ .l k t) : ∀ {d : UD} {xs : List Value} {i : Nat}, tyU d fs i → uH w lo hi d xs → oH w' d xs []
  | .nil, _, _, _, h => ⟨h, rfl⟩
  | .p v r, _, i, h, ⟨ys, e, g⟩ => ⟨ys, e, plain_own hp h.2 g⟩
  | .l k n cs r, _, i, ⟨⟨t, h1, _⟩, _⟩, _ => (hp _ (List.mem_of_getElem? h1) k t rfl).elim
end Go.Proofs.YtdnodaoeflbfkaaGreat
/- A struct of many cells loaded whole: one letter. -/
namespace Go.Proofs.YtdnodaoeflbfkaaGreat
open Go.RowKit Go.BigFrame
set_option linter.unusedVariables false
theorem wpList_load_eq {P : Program} {ops : Array Oper} {rest : List Oper} {o : Oper} {a : Act} {w : World} {Q : Exit → Act → World → Prop} (hgd : o.guard = none) (t : TypeId) (x : Operand) (ho : o.op = .load t x) (ad : Addr) (hx : a.eval x = .pointer (some ad)) (v : Value)
    (hl : Sem.run P (Instr.loadAt t (.pointer (some ad))) w = .ok v w) (h : wpList P ops Q rest (a.put o.dst v) w) : wpList P ops Q (o :: rest) a w := by
  refine wpList_plain hgd fun K hK => ?_
  unfold Oper.wp execOp
  simp only [ho, Sem.run_bind, Sem.run_pure, hx, hl, Result.andThen_ok]
  exact hK _ _ h
theorem split_head {n : Nat} {xs : List Value} (h : xs.length = n + 1) : ∃ x r, xs = x :: r ∧ r.length = n := by
  cases xs with
  | nil => cases h
  | cons x r => exact ⟨x, r, rfl, by simpa using h⟩
theorem split_end {xs : List Value} (h : xs.length = 0) : xs = [] := List.eq_nil_of_length_eq_zero h
theorem step_load_eq {P : Program} {w : World} {ops : Array Oper} {o : Oper} {a : Act} {K : Act → World → Prop} {Q : Exit → Act → World → Prop} {E : Prop} (hgd : o.guard = none) (t : TypeId) (x : Operand) (ho : o.op = .load t x) (ad : Addr) (hx : a.eval x = .pointer (some ad)) (v : Value)
    (hl : Sem.run P (Instr.loadAt t (.pointer (some ad))) w = .ok v w) (h : K (a.put o.dst v) w) : if Region.wanted o (yielded ops a.tmps) = true then Oper.wp P o a w K Q else E := by
  have hw : Region.wanted o (yielded ops a.tmps) = true := by simp [Region.wanted, hgd]
  rw [if_pos hw]
  unfold Oper.wp execOp
  simp only [ho, Sem.run_bind, Sem.run_pure, hx, hl, Result.andThen_ok]
  exact h
theorem load_whole {P : Program} {t : TypeId} {k : Nat} {ad : Addr} {w : World} {xs : List Value} (ha : ∀ w, (isAgg t).run P w = .ok true w) (hs : ∀ w, (Go.sizeOf t).run P w = .ok k w) (hk : xs.length = k) (h : ∀ j v, xs[j]? = some v → w.cell? (ad.add j) = some v) : Sem.run P (Instr.loadAt t (.pointer (some ad))) w = .ok (.agg xs.toArray) w := by
  have hl := run_loadCellsFrom_list P w ad xs k hk h
  simp only [Instr.loadAt, Instr.sureAddr, Sem.run_bind, Sem.run_pure, Result.andThen_ok, loadVar, ha, hs, loadCells, hl, if_true]
end Go.Proofs.YtdnodaoeflbfkaaGreat
/- Data as cells: structs of many cells, loaded and stored whole; copying field by field, each step one law. -/
namespace Go.Proofs.YtdnodaoeflbfkaaGreat
open Go.RowKit Go.BigFrame
set_option linter.unusedVariables false

theorem OutS.setCells {b : Nat} : ∀ (vs : List Value) (o : Nat) (w : World), OutS [b] w (w.setCells b o vs)
  | [], o, w => OutS.refl _ _
  | v :: r, o, w => ((OutS.refl [b] w).setCell (p := ⟨b, o, none⟩) (by simp) v).trans (OutS.setCells r (o + 1) _)
theorem objU.there {w : World} {b : Nat} {t : TypeId} {xs : List Value} (h : objU w b t xs) (o n : Nat) (hn : o + n ≤ xs.length) : w.there b o n := fun j hj =>
  ⟨by rw [h.cell (o + j) xs[o + j] (List.getElem?_eq_getElem (by omega))]; rfl, h.fz _⟩
theorem objU.range {w : World} {b : Nat} {t : TypeId} {xs : List Value} (h : objU w b t xs) (o : Nat) (ys : List Value) (hy : ∀ j v, ys[j]? = some v → xs[o + j]? = some v) : w.rangeAt b o ys := fun j v hv => h.cell _ _ (hy j v hv)
theorem objU.whole {w : World} {b : Nat} {t : TypeId} {xs : List Value} (h : objU w b t xs) : w.rangeAt b 0 xs := h.range 0 xs (fun j v hv => by rw [Nat.zero_add]; exact hv)
theorem objU.setCells {b : Nat} {t : TypeId} : ∀ (ys zs : List Value) (pre post : List Value) (w : World), objU w b t (pre ++ (zs ++ post)) → zs.length = ys.length → objU (w.setCells b pre.length ys) b t (pre ++ (ys ++ post))
  | [], zs, pre, post, w, h, hl => by
    have : zs = [] := List.eq_nil_of_length_eq_zero hl
    subst this
    exact h
  | y :: ys, [], pre, post, w, h, hl => by cases hl
  | y :: ys, z :: zs, pre, post, w, h, hl => by
    have h1 := h.set pre.length y
    have e1 : (pre ++ (z :: zs ++ post)).set pre.length y = (pre ++ [y]) ++ (zs ++ post) := by
      rw [List.set_append_right _ _ (Nat.le_refl _), Nat.sub_self]; simp
    rw [e1] at h1
    have h2 := objU.setCells ys zs (pre ++ [y]) post _ h1 (by simpa using hl)
    rw [World.setCells]
    have e2 : (pre ++ [y]).length = pre.length + 1 := by simp
    rw [e2] at h2
    have e3 : pre ++ [y] ++ (ys ++ post) = pre ++ (y :: ys ++ post) := by simp
    rw [e3] at h2
    exact h2
/-- loads and stores, each a step; the value and the place said by the caller -/
theorem wpList_load_one {P : Program} {ops : Array Oper} {rest : List Oper} {o : Oper} {a : Act} {w : World} {Q : Exit → Act → World → Prop} (hgd : o.guard = none) (t : TypeId) (x : Operand) (ho : o.op = .load t x)
    (b j : Nat) (hx : a.eval x = .pointer (some ⟨b, j, none⟩)) (v : Value) (hu : (P.underlying t).map TypeDesc.isRow = some false) (hc : w.cell? ⟨b, j, none⟩ = some v) (h : wpList P ops Q rest (a.put o.dst v) w) : wpList P ops Q (o :: rest) a w := by
  refine wpList_load_eq hgd t x ho ⟨b, j, none⟩ hx v ?_ h
  cases hd : P.underlying t with
  | none => rw [hd] at hu; cases hu
  | some d =>
    rw [hd] at hu
    have hagg : (isAgg t).run P w = .ok false w := by
      unfold isAgg
      rw [Sem.run_bind, run_underlying hd w]
      cases d <;> simp_all [TypeDesc.isRow]
    simp only [Instr.loadAt, Instr.sureAddr, Sem.run_bind, Sem.run_pure, Result.andThen_ok, loadVar, hagg, Bool.false_eq_true, if_false, run_load, hc]
theorem load_row_eq {P : Program} {t : TypeId} {b j : Nat} {w : World} {ys : List Value} (hu : (P.underlying t).map TypeDesc.isRow = some true) (hi : (P.info? t).map (·.size) = some ys.length) (hr : w.rangeAt b j ys) : Sem.run P (Instr.loadAt t (.pointer (some ⟨b, j, none⟩))) w = .ok (.agg ys.toArray) w := by
  cases hd : P.underlying t with
  | none => rw [hd] at hu; cases hu
  | some d =>
    rw [hd] at hu
    exact run_loadAt_mid w b j t ys d hr hd (by simpa using hu) hi
theorem wpList_load_row2 {P : Program} {ops : Array Oper} {rest : List Oper} {o : Oper} {a : Act} {w : World} {Q : Exit → Act → World → Prop} (hgd : o.guard = none) (t : TypeId) (x : Operand) (ho : o.op = .load t x)
    (b j : Nat) (hx : a.eval x = .pointer (some ⟨b, j, none⟩)) (ys : List Value) (hu : (P.underlying t).map TypeDesc.isRow = some true) (hi : (P.info? t).map (·.size) = some ys.length) (hr : w.rangeAt b j ys) (h : wpList P ops Q rest (a.put o.dst (.agg ys.toArray)) w) : wpList P ops Q (o :: rest) a w :=
  wpList_load_eq hgd t x ho ⟨b, j, none⟩ hx _ (load_row_eq hu hi hr) h
theorem yieldsIf_load_row {P : Program} {ops : Array Oper} {S : World → Prop} {op : Oper} {a : Act} (hw : Region.wanted op (yielded ops a.tmps) = true) (t : TypeId) (x : Operand) (ho : op.op = .load t x)
    (b o : Nat) (hx : a.eval x = .pointer (some ⟨b, o, none⟩)) (ys : List Value) (hS : ∀ w, S w → w.rangeAt b o ys)
    (hu : (P.underlying t).map TypeDesc.isRow = some true) (hi : (P.info? t).map (·.size) = some ys.length) : YieldsIf P ops S op (.agg ys.toArray) a := by
  cases hd : P.underlying t with
  | none => rw [hd] at hu; cases hu
  | some d =>
    rw [hd] at hu
    exact yieldsIf_load_mid hw t x ho b o hx ys d hS hd (by simpa using hu) hi
theorem run_storeAt_cells {P : Program} {w : World} {b j : Nat} {t : TypeId} {v : Value} {ys : List Value} (hv : v.cells = ys.toArray) (h1 : ∀ u ∈ ys, u.oneCell' = true) (hi : (P.info? t).map (·.size) = some ys.length) (ht : w.there b j ys.length) :
    (Instr.storeAt t (.pointer (some ⟨b, j, none⟩)) v).run P w = .ok () (w.setCells b j ys) := by
  have := run_storeCells_cells (P := P) b j ys 0 w (fun q hq => by simpa using (ht q hq).1) (fun q hq => by simpa using (ht q hq).2) h1
  cases hq : P.info? t with
  | none => simp [hq] at hi
  | some i =>
    have hs : ys.length = i.size := by simp [hq] at hi; omega
    simp only [Nat.add_zero] at this
    simp [Instr.storeAt, Instr.sureAddr, storeVar, sizeOf, typeInfo, hq, hv, hs, this]
/-- behind a store the world is a letter -/
def Behind (φ : World → Prop) (w : World) : Prop := ∀ w', w' = w → φ w'
theorem wpList_store_cells {P : Program} {ops : Array Oper} {rest : List Oper} {o : Oper} {a : Act} {w : World} {Q : Exit → Act → World → Prop} (hgd : o.guard = none) (t : TypeId) (x y : Operand) (ho : o.op = .store t x y) (hd : o.dst = none)
    (b j : Nat) (hx : a.eval x = .pointer (some ⟨b, j, none⟩)) (v : Value) (hy : a.eval y = v) (ys : List Value) (hv : v.cells = ys.toArray) (h1 : ∀ u ∈ ys, u.oneCell' = true) (hi : (P.info? t).map (·.size) = some ys.length) (ht : w.there b j ys.length)
    (h : Behind (wpList P ops Q rest a) (w.setCells b j ys)) : wpList P ops Q (o :: rest) a w := by
  refine wpList_plain hgd fun K hK => ?_
  unfold Oper.wp execOp
  simp only [ho, hx, hy, Sem.run_bind, run_storeAt_cells hv h1 hi ht, Result.andThen_ok]
  exact hK _ _ (by rw [hd]; exact h _ rfl)
theorem one1 {v : Value} (h : v.oneCell' = true) : ∀ u ∈ [v], u.oneCell' = true := fun u hu => by simp at hu; subst hu; exact h
theorem one_int {k : IntKind} {z : Int} : (Value.int k z).oneCell' = true := rfl
theorem one_string {z : ByteArray} : (Value.string z).oneCell' = true := rfl
theorem one_bool {z : Bool} : (Value.bool z).oneCell' = true := rfl
theorem one_slice {a : Option Addr} {n p : Nat} : (Value.slice a n p).oneCell' = true := rfl
theorem cells_one {v : Value} (h : v.oneCell' = true) : v.cells = [v].toArray := by cases v <;> first | rfl | cases h
theorem wpList_store_v {P : Program} {ops : Array Oper} {rest : List Oper} {o : Oper} {a : Act} {w : World} {Q : Exit → Act → World → Prop} (hgd : o.guard = none) (t : TypeId) (x y : Operand) (ho : o.op = .store t x y) (hd : o.dst = none)
    (b j : Nat) (hx : a.eval x = .pointer (some ⟨b, j, none⟩)) (v : Value) (hy : a.eval y = v) (h1 : v.oneCell' = true) (hi : (P.info? t).map (·.size) = some 1) (ht : w.there b j 1)
    (h : Behind (wpList P ops Q rest a) (w.setCells b j [v])) : wpList P ops Q (o :: rest) a w :=
  wpList_store_cells hgd t x y ho hd b j hx v hy [v] (cells_one h1) (one1 h1) hi ht h
theorem ones_own {w : World} : ∀ {d : UD} {fs : List UF} {xs : List Value} {S : List Nat}, tyL d fs → oH w d xs S → ∀ u ∈ xs, u.oneCell' = true
  | .nil, _, _, _, _, h, u, hu => by rw [h.1] at hu; cases hu
  | .p v r, _, _, S, ⟨f, fr, e, h1, h2⟩, ⟨ys, e2, h⟩, u, hu => by
    subst e2
    rcases List.mem_cons.1 hu with rfl | hu
    · cases f with
      | i k => obtain ⟨z, rfl, _⟩ := h1; rfl
      | s => obtain ⟨z, rfl, _⟩ := h1; rfl
      | b => obtain ⟨z, rfl⟩ := h1; rfl
      | l k t => cases h1
    · exact ones_own h2 h u hu
  | .l k n cs r, _, _, _, ⟨t, fr, e, h1, h2⟩, ⟨c, ys, S1, S2, e2, eS, hk, ⟨t', zs, g1, g2⟩, h⟩, u, hu => by
    subst e2
    rcases List.mem_cons.1 hu with rfl | hu
    · obtain ⟨a, cap, rfl⟩ := uowns_slice g1; rfl
    · exact ones_own h2 h u hu
theorem cells_agg {ys : List Value} : (Value.agg ys.toArray).cells = ys.toArray := rfl

/-- where the copying of a struct, field by field, stands: j cells are copied, dd is what they are -/
def CP (w0 w : World) (A R O : Nat) (TA TO : TypeId) (AX Z : List Value) (dd : UD) (j : Nat) : Prop :=
  ∃ done S, objU w A TA AX ∧ objU w R TO Z ∧ objU w O TO (done ++ Z.drop j) ∧ done.length = j ∧ oH w dd done S ∧ own2 S (O + 1) w.heap.size ∧ Below w0.heap.size w0 w ∧ w0.heap.size ≤ A ∧ A < O ∧ w0.heap.size ≤ R ∧ R < O ∧ O < w.heap.size
theorem CP.start {w : World} {TA TO : TypeId} {AX Z : List Value} : CP w (((w.alloc (.cells AX.toArray TA)).alloc (.cells Z.toArray TO)).alloc (.cells Z.toArray TO)) w.heap.size (w.heap.size + 1) (w.heap.size + 1 + 1) TA TO AX Z .nil 0 := by
  refine ⟨[], [], ((objU.new2 _ _ rfl).old _).old _, (objU.new2 _ _ (by simp)).old _, ?_, rfl, oH.nil _, own2.nil _ _, (((Below.refl _ _).alloc (Nat.le_refl _) _).alloc (by simp) _).alloc (by simp; omega) _, Nat.le_refl _, by omega, by omega, by omega, by simp⟩
  simpa using objU.new2 (w := (w.alloc (.cells AX.toArray TA)).alloc (.cells Z.toArray TO)) TO Z (b := w.heap.size + 1 + 1) (by simp)
theorem CP.below {w0 w w' : World} {A R O : Nat} {TA TO : TypeId} {AX Z : List Value} {dd : UD} {j : Nat} (h : CP w0 w A R O TA TO AX Z dd j) (hb : Below w.heap.size w w') : CP w0 w' A R O TA TO AX Z dd j := by
  obtain ⟨done, S, h1, h2, h3, h4, h5, h6, h7, h8, h9, h10, h11, h12⟩ := h
  exact ⟨done, S, h1.below hb, h2.below hb, h3.below hb, h4, h5.below hb, h6.mono (Nat.le_refl _) hb.size, h7.trans (hb.mono h7.size), h8, h9, h10, h11, Nat.lt_of_lt_of_le h12 hb.size⟩
theorem CP.bel {w0 w : World} {A R O : Nat} {TA TO : TypeId} {AX Z : List Value} {dd : UD} {j : Nat} (h : CP w0 w A R O TA TO AX Z dd j) : Below w0.heap.size w0 w := by
  obtain ⟨done, S, h1, h2, h3, h4, h5, h6, h7, _⟩ := h; exact h7
theorem CP.cell {w0 w : World} {A R O : Nat} {TA TO : TypeId} {AX Z : List Value} {dd : UD} {j : Nat} (h : CP w0 w A R O TA TO AX Z dd j) {q : Nat} {v : Value} (hv : AX[q]? = some v) : w.cell? ⟨A, q, none⟩ = some v := by
  obtain ⟨done, S, h1, _⟩ := h; exact h1.cell q v hv
theorem CP.range {w0 w : World} {A R O : Nat} {TA TO : TypeId} {AX Z : List Value} {dd : UD} {j : Nat} (h : CP w0 w A R O TA TO AX Z dd j) {q : Nat} {ys : List Value} (hv : ∀ i v, ys[i]? = some v → AX[q + i]? = some v) : w.rangeAt A q ys := by
  obtain ⟨done, S, h1, _⟩ := h; exact h1.range q ys hv
theorem CP.there {w0 w : World} {A R O : Nat} {TA TO : TypeId} {AX Z : List Value} {dd : UD} {j : Nat} (h : CP w0 w A R O TA TO AX Z dd j) (n : Nat) (hn : j + n ≤ Z.length) : w.there O j n := by
  obtain ⟨done, S, h1, h2, h3, h4, _⟩ := h
  exact h3.there j n (by rw [List.length_append, List.length_drop, h4]; omega)
/-- cells are stored behind those that are copied: ys came of a call that ended in w1 (or w1 is w, where it is plain) -/
theorem CP.step {w0 w w1 : World} {A R O : Nat} {TA TO : TypeId} {AX Z : List Value} {dd : UD} {j : Nat} (h : CP w0 w A R O TA TO AX Z dd j) (hb : Below w.heap.size w w1) {dp : UD} {ys : List Value} {T : List Nat} (ho : oH w1 dp ys T) (hT : own2 T w.heap.size w1.heap.size) {w' : World} (e : w' = w1.setCells O j ys) {j' : Nat} (hj : j' = j + ys.length) (hn : j' ≤ Z.length) : CP w0 w' A R O TA TO AX Z (dd.app dp) j' := by
  have hlt := h
  obtain ⟨done, S, h1, h2, h3, h4, h5, h6, h7, h8, h9, h10, h11, h12⟩ := h.below hb
  obtain ⟨done', S', g1, g2, g3, g4, g5, g6, g7, g8, g9, g10, g11, g12⟩ := hlt
  subst e hj
  have hout : OutS [O] w1 (w1.setCells O j ys) := OutS.setCells ys j w1
  have hS' : ∀ s ∈ S', s < w.heap.size := g5.lt _ _ _
  refine ⟨done' ++ ys, S' ++ T, (g1.below hb).outS hout (by simp; omega), (g2.below hb).outS hout (by simp; omega), ?_, by rw [List.length_append, g4], oH.app ((g5.below hb).outS hout (fun g hg hx => ?_)) (ho.outS hout (fun g hg hx => ?_)), ?_, ?_, h8, h9, h10, h11, ?_⟩
  · have e1 : Z.drop j = (Z.drop j).take ys.length ++ Z.drop (j + ys.length) := by rw [← List.drop_drop]; exact (List.take_append_drop _ _).symm
    have g3' := g3.below hb
    rw [e1] at g3'
    have := objU.setCells ys ((Z.drop j).take ys.length) done' (Z.drop (j + ys.length)) w1 g3' (by rw [List.length_take, List.length_drop]; omega)
    rw [g4] at this
    rw [List.append_assoc]; exact this
  · simp at hx; have := g6.2 g hg; omega
  · simp at hx; have := hT.2 g hg; omega
  · have hsz := hout.size
    exact (g6.app hT (Nat.le_refl _) (by omega) hb.size).mono (Nat.le_refl _) hsz
  · exact h7.trans (hout.below (B := w0.heap.size) (fun t ht => by simp at ht; omega) h7.size)
  · exact Nat.lt_of_lt_of_le h12 hout.size
theorem CP.plain {w0 w : World} {A R O : Nat} {TA TO : TypeId} {AX Z : List Value} {dd : UD} {j : Nat} (h : CP w0 w A R O TA TO AX Z dd j) {v : Value} {w' : World} (e : w' = w.setCells O j [v]) {j' : Nat} (hj : j' = j + 1) (hn : j' ≤ Z.length) : CP w0 w' A R O TA TO AX Z (dd.app (.p v .nil)) j' :=
  h.step (Below.refl _ _) (oH.consP v (oH.nil _)) (own2.nil _ _) e hj hn
theorem CP.list {w0 w w1 : World} {A R O : Nat} {TA TO : TypeId} {AX Z : List Value} {dd : UD} {j : Nat} (h : CP w0 w A R O TA TO AX Z dd j) (hb : Below w.heap.size w w1) {k n : Nat} {cs : UD} {c : Value} {T : List Nat} (ho : oS w1 k n cs c T) (hT : own2 T w.heap.size w1.heap.size) {w' : World} (e : w' = w1.setCells O j [c]) {j' : Nat} (hj : j' = j + 1) (hn : j' ≤ Z.length) : CP w0 w' A R O TA TO AX Z (dd.app (.l k n cs .nil)) j' := by
  have := oH.consS ho (oH.nil _)
  rw [List.append_nil] at this
  exact h.step hb this hT e hj hn
/-- all is copied -/
theorem CP.fin {w0 w : World} {A R O : Nat} {TA TO : TypeId} {AX Z : List Value} {dd : UD} {j : Nat} (h : CP w0 w A R O TA TO AX Z dd j) {D : UD} (hD : dd = D) (hj : j = Z.length) : ∃ done S, Hid (w.rangeAt O 0 done) ∧ done.length = j ∧ Hid (w.there R 0 done.length) ∧ oH w D done S ∧ ∀ w', w' = w.setCells R 0 done → objU w' R TO done ∧ oH w' D done S ∧ S.Nodup ∧ (∀ s ∈ S, w0.heap.size ≤ s) ∧ Below w0.heap.size w0 w' := by
  subst hD
  obtain ⟨done, S, h1, h2, h3, h4, h5, h6, h7, h8, h9, h10, h11, h12⟩ := h
  have e0 : Z.drop j = [] := List.drop_eq_nil_of_le (by omega)
  rw [e0, List.append_nil] at h3
  refine ⟨done, S, h3.whole, h4, h2.there 0 _ (by omega), h5, fun w' e => ?_⟩
  subst e
  have hout : OutS [R] w (w.setCells R 0 done) := OutS.setCells done 0 w
  have h2' := objU.setCells done Z [] [] w (by simpa using h2) (by omega)
  refine ⟨by simpa using h2', h5.outS hout (fun g hg hx => ?_), h6.1, fun s hs => by have := h6.2 s hs; omega, h7.trans (hout.below (B := w0.heap.size) (fun t ht => by simp at ht; omega) h7.size)⟩
  simp at hx; have := h6.2 g hg; omega
theorem results_row {P : Program} {fn : Func} {p : Tmp} {ty : TypeId} (h : fn.results = #[.cell p ty]) (tmps : Array Value) (w : World) (g : Nat) (t : TypeId) (ys : List Value)
    (hp : tmps.getD p undef = .pointer (some ⟨g, 0, none⟩)) (hg : objU w g t ys) (hu : (P.underlying ty).map TypeDesc.isRow = some true) (hi : (P.info? ty).map (·.size) = some ys.length) :
    (results fn tmps).run P w = .ok (.agg ys.toArray) w := by
  cases hd : P.underlying ty with
  | none => rw [hd] at hu; cases hu
  | some d =>
    rw [hd] at hu
    exact results_cell_row h tmps w g t ys.toArray (0, 0) d hp hg hd (by cases d <;> simp_all [TypeDesc.isRow]) (by simpa using hi)

/-! rows of structs -/
theorem wSet_eq : ∀ (ys : List Value) (w : World) (g i : Nat), w.setCells g i ys = wSet w g i ys
  | [], w, g, i => rfl
  | y :: ys, w, g, i => by rw [World.setCells, wSet, wSet_eq ys]
theorem range_below {w w' : World} {b o : Nat} {xs : List Value} (h : w.rangeAt b o xs) (hb : Below w.heap.size w w') : w'.rangeAt b o xs := fun j v hv =>
  (hb.cell (p := ⟨b, o + j, none⟩) (World.block_lt_of_cell? _ _ (h j v hv))).trans (h j v hv)
theorem TS.there {w0 w : World} {e : TypeId} {k n : Nat} {cs : UD} {q : Nat} (h : TS w0 w e k n cs q) (p m : Nat) (hm : p + m ≤ n * k) : w.there w0.heap.size p m := fun j hj => by
  obtain ⟨v, hv⟩ := h.cell (p + j) (by omega)
  exact ⟨by rw [hv]; rfl, h.fz _⟩
theorem TS.row {w0 w w2 w' : World} {e : TypeId} {k n : Nat} {cs : UD} {q : Nat} (h : TS w0 w e k n cs q) (hb : Below w.heap.size w w2) {ys : List Value} {T : List Nat} (ho : oH w2 (rowU cs k q) ys T) (hnd : T.Nodup) (hT : ∀ t ∈ T, w.heap.size ≤ t) (hl : cs.len = n * k) (hq : q < n) (e' : w' = w2.setCells w0.heap.size (q * k) ys) : TS w0 w' e k n cs (q + 1) := by
  subst e'
  rw [wSet_eq]
  exact h.step hb ho hnd hT hl hq
theorem MS.there {w0 w : World} {e : TypeId} {k n : Nat} {cap : Nat} {g : Nat} {cs : UD} {j0 : Nat} {S : List Nat} {xs0 : List Value} {i : Nat} (h : MS w0 w e k n (.slice (some ⟨g, 0, none⟩) n cap) g cs j0 S xs0 i) (p : Nat) (hn : p < n * k) : w.there g p 1 := fun j hj => by
  obtain ⟨xs, h1, _⟩ := h
  have : j = 0 := by omega
  subst this
  exact ⟨by rw [Nat.add_zero, h1.cellAt p hn, List.getElem?_eq_getElem (by rw [h1.1]; exact hn)]; rfl, h1.frozenAt p⟩
theorem setCells_one (w : World) (b o : Nat) (v : Value) : w.setCells b o [v] = w.setCell ⟨b, o, none⟩ v := by rw [World.setCells, World.setCells]
theorem MS.cellS {w0 wx wy : World} {e : TypeId} {k n : Nat} {cap : Nat} {g : Nat} {cs : UD} {j0 : Nat} {S : List Nat} {xs0 : List Value} {i i' : Nat} (h : MS w0 wx e k n (.slice (some ⟨g, 0, none⟩) n cap) g cs j0 S xs0 i) {v u : Value} (he : cs.at? i = some (.p v)) {m : Nat} (hc : j0 + cnt (cs.takeN i) = m) (hu : u = mkP m v) (ey : wy = wx.setCells g i [u]) (hi : i' = i + 1) : MS w0 wy e k n (.slice (some ⟨g, 0, none⟩) n cap) g cs j0 S xs0 i' := by
  subst hi ey hc
  rw [setCells_one]
  exact h.plain he hu
theorem at_row {cs : UD} {K q : Nat} {R : UD} (hR : rowU cs K q = R) {j : Nat} {e : UE} (hj : j < K) (h : R.at? j = some e) : cs.at? (q * K + j) = some e := by
  rw [← rowU_at cs K q j hj, hR]; exact h
theorem ct_next {cs : UD} {k0 i m : Nat} {e : UE} (hc : k0 + cnt (cs.takeN i) = m) (h : cs.at? i = some e) : k0 + cnt (cs.takeN (i + 1)) = m + cntE e := by
  rw [cnt_succ cs i e h, ← Nat.add_assoc, hc]
theorem ct_end {cs : UD} {k0 q K m : Nat} (h : k0 + cnt (cs.takeN (q * K + K)) = m) : k0 + cnt (cs.takeN ((q + 1) * K)) = m := by
  rw [Nat.succ_mul]; exact h
/-! structs taken apart -/
theorem at_mid {pre ys post AX : List Value} {j i : Nat} {v : Value} (hA : AX = pre ++ (ys ++ post)) (hj : pre.length = j) (h : ys[i]? = some v) : AX[j + i]? = some v := by
  subst hA hj
  have hi := (List.getElem?_eq_some_iff.1 h).1
  rw [List.getElem?_append_right (by omega), List.getElem?_append_left (by omega), ← h]
  congr 1; omega
theorem tyL.split : ∀ {d : UD} {f1 f2 : List UF}, tyL d (f1 ++ f2) → ∃ d1 d2, d = d1.app d2 ∧ tyL d1 f1 ∧ tyL d2 f2
  | d, [], f2, h => ⟨.nil, d, (UD.app_nil d).symm, rfl, h⟩
  | .nil, f :: fr, f2, h => by cases h
  | .p v r, f :: fr, f2, h => by
    obtain ⟨g, gr, e, h1, h2⟩ := h
    cases e
    obtain ⟨d1, d2, rfl, h3, h4⟩ := tyL.split (f1 := fr) (f2 := f2) h2
    exact ⟨.p v d1, d2, (UD.app_p v d1 d2).symm, ⟨_, _, rfl, h1, h3⟩, h4⟩
  | .l k n cs r, f :: fr, f2, h => by
    obtain ⟨t, gr, e, h1, h2⟩ := h
    cases e
    obtain ⟨d1, d2, rfl, h3, h4⟩ := tyL.split (f1 := fr) (f2 := f2) h2
    exact ⟨.l k n cs d1, d2, (UD.app_l k n cs d1 d2).symm, ⟨_, _, rfl, h1, h3⟩, h4⟩
theorem uH.split {w : World} {lo hi : Nat} : ∀ {d1 d2 : UD} {xs : List Value}, uH w lo hi (d1.app d2) xs → ∃ x1 x2, xs = x1 ++ x2 ∧ x1.length = d1.len ∧ uH w lo hi d1 x1 ∧ uH w lo hi d2 x2
  | .nil, d2, xs, h => ⟨[], xs, rfl, rfl, rfl, by rw [UD.app_nil] at h; exact h⟩
  | .p v r, d2, xs, h => by
    rw [UD.app_p] at h
    obtain ⟨ys, rfl, h⟩ := h
    obtain ⟨x1, x2, rfl, hl, h1, h2⟩ := uH.split h
    exact ⟨v :: x1, x2, rfl, by rw [UD.len_p, ← hl]; rfl, ⟨x1, rfl, h1⟩, h2⟩
  | .l k n cs r, d2, xs, h => by
    rw [UD.app_l] at h
    obtain ⟨c, ys, rfl, hc, h⟩ := h
    obtain ⟨x1, x2, rfl, hl, h1, h2⟩ := uH.split h
    exact ⟨c :: x1, x2, rfl, by rw [UD.len_l, ← hl]; rfl, ⟨c, x1, rfl, hc, h1⟩, h2⟩
theorem UD.app_assoc (a b c : UD) : (a.app b).app c = a.app (b.app c) := by apply UD.ext; simp only [UD.app_toL, List.append_assoc]
theorem UD.app_nil_r (a : UD) : a.app .nil = a := by apply UD.ext; rw [UD.app_toL]; simp [UD.toL]
theorem tyL_cast {a b : UD} {fs : List UF} (e : a = b) (h : tyL a fs) : tyL b fs := e ▸ h
theorem oH_cast {w : World} {a b : UD} {xs : List Value} {S : List Nat} (e : a = b) (h : oH w b xs S) : oH w a xs S := e ▸ h
theorem mk_app : ∀ (a b : UD) (j : Nat), mk (a.app b) j = (mk a j).app (mk b (j + cnt a))
  | .nil, b, j => by rw [UD.app_nil]; simp only [mk, cnt, Nat.add_zero, UD.app_nil]
  | .p v r, b, j => by rw [UD.app_p, mk, mk, UD.app_p, mk_app r, cnt]; congr 2; congr 1; omega
  | .l k n cs r, b, j => by rw [UD.app_l, mk, mk, UD.app_l, mk_app r, cnt]; congr 2; congr 1; omega
theorem mkT_app : ∀ (a b : UD) (j : Nat), mkT (a.app b) j = (mkT a j).app (mkT b (j + cntT a))
  | .nil, b, j => by rw [UD.app_nil]; simp only [mkT, cntT, Nat.add_zero, UD.app_nil]
  | .p v r, b, j => by rw [UD.app_p, mkT, mkT, UD.app_p, mkT_app r, cntT]
  | .l k n cs r, b, j => by rw [UD.app_l, mkT, mkT, UD.app_l, mkT_app r, cntT]; congr 2; congr 1; omega
theorem cntT_app : ∀ (a b : UD), cntT (a.app b) = cntT a + cntT b
  | .nil, b => by rw [UD.app_nil]; simp [cntT]
  | .p v r, b => by rw [UD.app_p, cntT, cntT, cntT_app r]
  | .l k n cs r, b => by rw [UD.app_l, cntT, cntT, cntT_app r]; omega
end Go.Proofs.YtdnodaoeflbfkaaGreat
/- Names in order; a want's weights: small functions of both sides that only read. -/
namespace Go.Proofs.YtdnodaoeflbfkaaGreat
open Go.RowKit Go.BigFrame
set_option linter.unusedVariables false

theorem nmsB_bad {ss : List ByteArray} {m k : Nat} (hk : k < ss.length) (h : ¬ okV ss k) : nmsB ss m = false := by unfold nmsB; rw [valsB_bad hk h]; rfl
theorem nmsB_end {ss : List ByteArray} {m : Nat} (h : ∀ i, i < ss.length → okV ss i) : nmsB ss m = decide (ss.length ≤ m) := by unfold nmsB; rw [valsB_end h]; rfl
set_option maxHeartbeats 800000 in
theorem l10Names_any (a : Option Addr) (cap m : Nat) (ss : List ByteArray) (w : World) (hl : ss.length ≤ maxLen) (hz : okStrs ss) (hrow : strOf w a ss) :
    Calls Tryz.prog 138 #[.slice a ss.length cap, .int .i64 (m : Int)] w fun e w' => e = .returned (.bool (nmsB ss m)) ∧ Below w.heap.size w w' := by
  unfold maxLen at hl
  have Hr := hide hrow
  have Hz := hide hz
  clear hrow hz
  go_enter Tryz.func138, Tryz.ntmps138
  go_wp2
  go_loopw [5] (fun i wr => ∃ (k : Nat), k ≤ ss.length ∧ i = .int .i64 k ∧ Hid (∀ j, j < k → okV ss j) ∧ Hid (Below w.heap.size w wr)) (fun i _ => ss.length - (intOf i).toNat)
  case atStart => exact ⟨0, Nat.zero_le _, rfl, fun j hj => by omega, Below.refl _ _⟩
  case round =>
    obtain ⟨k, hk, rfl, Hx, Hw⟩ := hrel
    by_cases hlt : k < ss.length
    · obtain ⟨b, off, rfl, hat⟩ := (Hr.out.below Hw.out) (by omega)
      have hc := strAt_cells hat
      have c0 := hc k hlt
      have cp : 0 < k → wr.cell? ⟨b, off + (k - 1), none⟩ = some (.string (ssAt ss (k - 1))) := fun h => hc (k - 1) (by omega)
      have hzK : (ssAt ss k).size ≤ maxLen := by rw [ssAt_get hlt]; exact Hz.out _ (List.getElem_mem hlt)
      have Hs : Hid (okV ss k → ∀ j, j < k + 1 → okV ss j) := fun h => okV_succ Hx.out h
      have Hb : Hid (¬ okV ss k → nmsB ss m = false) := fun h => nmsB_bad hlt h
      have hcs := okV_cases ss k
      clear hat hc Hx
      generalize ssAt ss k = K at *
      generalize ssAt ss (k - 1) = Q at *
      have hK := fun wx => (sname_any K wx hzK)
      clear hzK
      rcases hcs with ⟨h1, hok⟩ | ⟨h1, h3, hok⟩ | ⟨h1, h3, h4, hok⟩ | ⟨h1, h3, h4, hok⟩
      · rw [h1] at hK
        have HK := hide hK
        clear hK h1 cp
        have Hn := hide (Hb.out hok.out)
        clear Hs Hb Hz Hr
        go_wp2
        go_quiet (first | (go_at_call_of 127 K; exact Calls.quiet_of_same (HK.out _)))
        go_wp2
        go_ret
        exact ⟨ret_bool Hn.out.symm, below_drewN Hw.out _⟩
      · rw [h1] at hK
        have HK := hide hK
        have hk0 : k = 0 := h3.out
        have h3' : decide ((0 : Int) < (k : Int)) = false := by rw [decide_eq_false_iff_not]; omega
        have h3'' : decide (0 < k) = false := by rw [decide_eq_false_iff_not]; omega
        have h3a : (k : Int) ≤ 0 := by omega
        clear hK h1 cp h3 hk0
        have Hn := hide (Hs.out hok.out)
        clear Hs Hb Hz Hr
        go_wp2
        go_quiet (first | (go_at_call_of 127 K; exact Calls.quiet_of_same (HK.out _)))
        go_wp2
        go_roundw
        case rel => exact ⟨k + 1, by omega, by go_num, Hn, below_drewN Hw.out _⟩
        case measure => simp [intOf]; omega
      · rw [h1] at hK
        have HK := hide hK
        have cp := cp h3
        have h3' : (0 : Int) < (k : Int) := by omega
        clear hK h1
        have Hn := hide (Hs.out hok.out)
        clear Hs Hb Hz Hr
        go_wp2
        go_quiet (first | (go_at_call_of 127 K; exact Calls.quiet_of_same (HK.out _)))
        go_wp2
        go_roundw
        case rel => exact ⟨k + 1, by omega, by go_num, Hn, below_drewN Hw.out _⟩
        case measure => simp [intOf]; omega
      · rw [h1] at hK
        have HK := hide hK
        have cp := cp h3
        have h3' : (0 : Int) < (k : Int) := by omega
        clear hK h1
        have Hn := hide (Hb.out hok.out)
        clear Hs Hb Hz Hr
        go_wp2
        go_quiet (first | (go_at_call_of 127 K; exact Calls.quiet_of_same (HK.out _)))
        go_wp2
        go_ret
        exact ⟨ret_bool Hn.out.symm, below_drewN Hw.out _⟩
    · have e : k = ss.length := by omega
      subst e
      have Hn := hide (nmsB_end (m := m) Hx.out)
      clear Hx Hr Hz
      go_wp2
      go_ret
      exact ⟨ret_bool (by first | (rw [Hn.out, Bool.eq_iff_iff]; done) | (rw [Hn.out, Bool.eq_iff_iff]; simp; done) | (rw [Hn.out, Bool.eq_iff_iff]; simp; omega)), Hw.out⟩
def noW (l : List WgD) (s : ByteArray) (k : Nat) : Prop := ∀ j (h : j < l.length), j < k → (l[j]'h).1 ≠ s
theorem noW_succ {L : List WgD} {s : ByteArray} {k : Nat} (h : noW L s k) (hk : k < L.length) (hne : (L[k]'hk).1 ≠ s) : noW L s (k + 1) := fun j hj hjk => by
  by_cases e : j = k
  · subst e; exact hne
  · exact h j hj (by omega)
set_option maxHeartbeats 800000 in
theorem sWeightOf_any (z : Int) (T : List TD) (B : List ByteArray) (L : List WgD) (s : ByteArray) (xs : List Value) (w : World) (hl : L.length ≤ maxLen) (hx : waH w (z, T, B, L) xs) :
    Calls Tryz.prog 68 #[.agg xs.toArray, .string s] w fun e w' => e = .returned (.int .i64 (weighI L s)) ∧ Below w.heap.size w w' := by
  obtain ⟨c1, c2, c3, rfl, ⟨a1, p1, rfl, -⟩, ⟨a2, p2, rfl, -⟩, a, p, rfl, h3⟩ := hx
  dsimp only at *
  unfold maxLen at hl
  have Hr := hide h3
  clear h3
  have OX : Hid (objU (w.alloc (.cells #[.int .i64 z, .slice a1 T.length p1, .slice a2 B.length p2, .slice a L.length p] 35)) w.heap.size 35 [.int .i64 z, .slice a1 T.length p1, .slice a2 B.length p2, .slice a L.length p]) := objU.new _ _ _
  have BX : Hid (Below w.heap.size w (w.alloc (.cells #[.int .i64 z, .slice a1 T.length p1, .slice a2 B.length p2, .slice a L.length p] 35))) := (Below.refl _ _).alloc (Nat.le_refl _) _
  go_enter Tryz.func68, Tryz.ntmps68
  go_wp2
  go_loopw [5] (fun i wr => ∃ (k : Nat), k ≤ L.length ∧ i = .int .i64 k ∧ Hid (noW L s k) ∧ Hid (objU wr w.heap.size 35 [.int .i64 z, .slice a1 T.length p1, .slice a2 B.length p2, .slice a L.length p]) ∧ Hid (Below w.heap.size w wr)) (fun i _ => L.length - (intOf i).toNat)
  case atStart => exact ⟨0, Nat.zero_le _, rfl, fun j hj h => by omega, OX, BX⟩
  case round =>
    clear OX BX
    obtain ⟨k, hk, rfl, Ho, HO, HB⟩ := hrel
    have o3 := HO.out.cell 3 _ rfl
    by_cases hlt : k < L.length
    · obtain ⟨b, off, rfl, hat⟩ := (Hr.out.below HB.out) (by omega)
      have c0 := (hat k hlt).1
      have c1 := (hat k hlt).2
      have he := beq_str (L[k].1) s
      have Hh : Hid (L[k].1 = s → weighI L s = L[k].2) := weighI_hit Ho.out hlt
      have Hm : Hid (L[k].1 ≠ s → noW L s (k + 1)) := noW_succ Ho.out hlt
      clear Hr Ho hat
      generalize L[k] = X at *
      obtain ⟨K, N⟩ := X
      dsimp only at *
      by_cases hq : K = s
      · rw [decide_eq_true hq] at he
        have Hn := hide (Hh.out hq)
        clear hq Hh Hm
        go_wp2
        go_ret
        exact ⟨ret_int Hn.out.symm, HB.out⟩
      · rw [decide_eq_false hq] at he
        have Hn := hide (Hm.out hq)
        clear hq Hh Hm
        go_wp2
        go_roundw
        case rel => exact ⟨k + 1, by omega, by go_num, Hn, HO, HB⟩
        case measure => simp [intOf]; omega
    · have e : k = L.length := by omega
      subst e
      have Hn := hide (weighI_miss (s := s) (fun j hj => Ho.out j hj hj))
      clear Ho Hr
      go_wp2
      go_ret
      exact ⟨ret_int Hn.out.symm, HB.out⟩
set_option maxHeartbeats 800000 in
theorem iWeightOf_any (z : Int) (T : List TD) (B : List ByteArray) (L : List WgD) (s : ByteArray) (xs : List Value) (w : World) (hl : L.length ≤ maxLen) (hx : waH w (z, T, B, L) xs) :
    Calls Tryz.prog 77 #[.agg xs.toArray, .string s] w fun e w' => e = .returned (.int .i64 (weighI L s)) ∧ Below w.heap.size w w' := by
  obtain ⟨c1, c2, c3, rfl, ⟨a1, p1, rfl, -⟩, ⟨a2, p2, rfl, -⟩, a, p, rfl, h3⟩ := hx
  dsimp only at *
  unfold maxLen at hl
  have Hr := hide h3
  clear h3
  have OX : Hid (objU (w.alloc (.cells #[.int .i64 z, .slice a1 T.length p1, .slice a2 B.length p2, .slice a L.length p] 35)) w.heap.size 35 [.int .i64 z, .slice a1 T.length p1, .slice a2 B.length p2, .slice a L.length p]) := objU.new _ _ _
  have BX : Hid (Below w.heap.size w (w.alloc (.cells #[.int .i64 z, .slice a1 T.length p1, .slice a2 B.length p2, .slice a L.length p] 35))) := (Below.refl _ _).alloc (Nat.le_refl _) _
  go_enter Tryz.func77, Tryz.ntmps77
  have o3 := OX.out.cell 3 _ rfl
  go_wp2
  clear OX o3
  go_loopw [10] (fun i wr => ∃ (k : Nat), k ≤ L.length ∧ i = .int .i64 k ∧ Hid (noW L s k) ∧ Hid (Below w.heap.size w wr)) (fun i _ => L.length - (intOf i).toNat)
  case atStart => exact ⟨0, Nat.zero_le _, rfl, fun j hj h => by omega, BX⟩
  case round =>
    clear BX
    obtain ⟨k, hk, rfl, Ho, HB⟩ := hrel
    by_cases hlt : k < L.length
    · obtain ⟨b, off, rfl, hat⟩ := (Hr.out.below HB.out) (by omega)
      have c0 := (hat k hlt).1
      have c1 := (hat k hlt).2
      have he := beq_str (L[k].1) s
      have Hh : Hid (L[k].1 = s → weighI L s = L[k].2) := weighI_hit Ho.out hlt
      have Hm : Hid (L[k].1 ≠ s → noW L s (k + 1)) := noW_succ Ho.out hlt
      clear Hr Ho hat
      generalize L[k] = X at *
      obtain ⟨K, N⟩ := X
      dsimp only at *
      by_cases hq : K = s
      · rw [decide_eq_true hq] at he
        have Hn := hide (Hh.out hq)
        clear hq Hh Hm
        go_wp2
        go_ret
        exact ⟨ret_int Hn.out.symm, HB.out.alloc HB.out.size _⟩
      · rw [decide_eq_false hq] at he
        have Hn := hide (Hm.out hq)
        clear hq Hh Hm
        go_wp2
        go_roundw
        case rel => exact ⟨k + 1, by omega, by go_num, Hn, HB.out.alloc HB.out.size _⟩
        case measure => simp [intOf]; omega
    · have e : k = L.length := by omega
      subst e
      have Hn := hide (weighI_miss (s := s) (fun j hj => Ho.out j hj hj))
      clear Ho Hr
      go_wp2
      go_ret
      exact ⟨ret_int Hn.out.symm, HB.out⟩
theorem withinF_any (x b : Int) (w : World) : Calls Tryz.prog 146 #[.int .i64 x, .int .i64 b] w fun e w' => e = .returned (.bool (inB x 0 b)) ∧ w' = w := by
  go_enter Tryz.func146, Tryz.ntmps146
  go_wp2
  all_goals go_ret
  all_goals exact ⟨ret_bool (by rw [Bool.eq_iff_iff]; simp [inB]; omega), rfl⟩
end Go.Proofs.YtdnodaoeflbfkaaGreat
/- Right islands, on both sides. -/
namespace Go.Proofs.YtdnodaoeflbfkaaGreat
open Go.RowKit Go.BigFrame
set_option linter.unusedVariables false

theorem islB_out (I : IsD) : islB I = (nameB I.1 && labelsB I.2.1 && nmsB I.2.2.1 4 && inB I.2.2.2 0 10000) := rfl
set_option maxHeartbeats 800000 in
theorem sIslandOk_any (I : IsD) (xs : List Value) (w : World) (hq : okIs1 I) (hx : isH w I xs) :
    Calls Tryz.prog 66 #[.agg xs.toArray] w fun e w' => e = .returned (.bool (islB I)) ∧ Below w.heap.size w w' := by
  obtain ⟨c1, c2, rfl, ⟨a1, p1, rfl, h1⟩, a2, p2, rfl, h2⟩ := hx
  obtain ⟨s, L, S, z⟩ := I
  obtain ⟨q0, ⟨q1, q2⟩, ⟨q3, q4⟩, q5⟩ := hq
  have E : Hid (islB (s, L, S, z) = (nameB s && labelsB L && nmsB S 4 && inB z 0 10000)) := rfl
  dsimp only at *
  have HC0 : Hid (∀ wx, Calls Tryz.prog 127 #[.string s] wx fun e w' => e = .returned (.bool (nameB s)) ∧ w' = wx) := fun wx => sname_any s wx q0
  have HC1 : Hid (∀ wx, Below w.heap.size w wx → Calls Tryz.prog 139 #[.slice a1 L.length p1] wx fun e w' => e = .returned (.bool (labelsB L)) ∧ Below wx.heap.size wx w') := fun wx hb => (slabelsOk_any a1 p1 L wx q1 q2 (rowOf_below h1 hb)).mono (fun e w' ⟨e1, n, e2⟩ => ⟨e1, e2 ▸ below_drewN (Below.refl _ _) _⟩)
  have HC2 : Hid (∀ wx, Below w.heap.size w wx → Calls Tryz.prog 138 #[.slice a2 S.length p2, .int .i64 4] wx fun e w' => e = .returned (.bool (nmsB S 4)) ∧ Below wx.heap.size wx w') := fun wx hb => l10Names_any a2 p2 4 S wx q3 q4 (h2.below hb)
  have HC3 : Hid (∀ wx, Calls Tryz.prog 98 #[.int .i64 z, .int .i64 0, .int .i64 10000] wx fun e w' => e = .returned (.bool (inB z 0 10000)) ∧ w' = wx) := fun wx => l1In_any z 0 10000 wx
  have OX : Hid (objU (w.alloc (.cells #[.string s, .slice a1 L.length p1, .slice a2 S.length p2, .int .i64 z] 111)) w.heap.size 111 [.string s, .slice a1 L.length p1, .slice a2 S.length p2, .int .i64 z]) := objU.new _ _ _
  have BX : Hid (Below w.heap.size w (w.alloc (.cells #[.string s, .slice a1 L.length p1, .slice a2 S.length p2, .int .i64 z] 111))) := (Below.refl _ _).alloc (Nat.le_refl _) _
  clear h1 h2 q0 q1 q2 q3 q4 q5
  generalize islB (s, L, S, z) = R at *
  generalize nameB s = b0 at *
  generalize labelsB L = b1 at *
  generalize nmsB S 4 = b2 at *
  generalize inB z 0 10000 = b3 at *
  go_enter Tryz.func66, Tryz.ntmps66
  cases b0 with
  | false =>
    clear OX
    go_wp2_with (go_at_call 127; refine (HC0.out _).mono ?_; rintro e w' ⟨rfl, rfl⟩)
    go_ret
    exact ⟨ret_bool E.out.symm, BX.out⟩
  | true =>
    have x1 := OX.out.cell 1 _ rfl
    go_wp2_with (go_at_call 127; refine (HC0.out _).mono ?_; rintro e w' ⟨rfl, rfl⟩)
    refine (HC1.out _ BX.out).mono ?_
    rintro e w1 ⟨rfl, hb1⟩
    have OX1 := hide (OX.out.below hb1)
    have BX1 : Hid (Below w.heap.size w w1) := BX.out.trans (hb1.mono BX.out.size)
    clear OX BX hb1 x1
    cases b1 with
    | false =>
      clear OX1
      go_wp2
      go_ret
      exact ⟨ret_bool E.out.symm, BX1.out⟩
    | true =>
      have x2 := OX1.out.cell 2 _ rfl
      go_wp2_with fail
      refine (HC2.out _ BX1.out).mono ?_
      rintro e w2 ⟨rfl, hb2⟩
      have OX2 := hide (OX1.out.below hb2)
      have BX2 : Hid (Below w.heap.size w w2) := BX1.out.trans (hb2.mono BX1.out.size)
      clear OX1 BX1 hb2 x2
      cases b2 with
      | false =>
        clear OX2
        go_wp2
        go_ret
        exact ⟨ret_bool E.out.symm, BX2.out⟩
      | true =>
        have x3 := OX2.out.cell 3 _ rfl
        go_wp2_with (go_at_call 98; refine (HC3.out _).mono ?_; rintro e w' ⟨rfl, rfl⟩)
        go_ret
        exact ⟨ret_bool (by rw [E.out]; simp), BX2.out⟩
set_option maxHeartbeats 800000 in
theorem iIslandOk_any (I : IsD) (xs : List Value) (w : World) (hq : okIs1 I) (hx : isH w I xs) :
    Calls Tryz.prog 75 #[.agg xs.toArray] w fun e w' => e = .returned (.bool (islB I)) ∧ Below w.heap.size w w' := by
  obtain ⟨c1, c2, rfl, ⟨a1, p1, rfl, h1⟩, a2, p2, rfl, h2⟩ := hx
  obtain ⟨s, L, S, z⟩ := I
  obtain ⟨q0, ⟨q1, q2⟩, ⟨q3, q4⟩, q5⟩ := hq
  have E : Hid (islB (s, L, S, z) = (nameB s && labelsB L && (valsB S && decide (S.length ≤ 4)) && inB z 0 10000)) := rfl
  dsimp only at *
  have HC0 : Hid (∀ wx, Calls Tryz.prog 129 #[.string s] wx fun e w' => e = .returned (.bool (nameB s)) ∧ Below wx.heap.size wx w') := fun wx => iname_any s wx
  have HC1 : Hid (∀ wx, Below w.heap.size w wx → Calls Tryz.prog 152 #[.slice a1 L.length p1] wx fun e w' => e = .returned (.bool (labelsB L)) ∧ Below wx.heap.size wx w') := fun wx hb => ilabelsOk_any a1 p1 L wx q1 (rowOf_below h1 hb)
  have HC2 : Hid (∀ wx, Below w.heap.size w wx → Calls Tryz.prog 149 #[.slice a2 S.length p2] wx fun e w' => e = .returned (.bool (valsB S)) ∧ Below wx.heap.size wx w') := fun wx hb => iasc_any a2 p2 S wx q3 (h2.below hb)
  have HC3 : Hid (∀ wx, Calls Tryz.prog 146 #[.int .i64 z, .int .i64 10000] wx fun e w' => e = .returned (.bool (inB z 0 10000)) ∧ w' = wx) := fun wx => withinF_any z 10000 wx
  have OX : Hid (objU (w.alloc (.cells #[.string s, .slice a1 L.length p1, .slice a2 S.length p2, .int .i64 z] 111)) w.heap.size 111 [.string s, .slice a1 L.length p1, .slice a2 S.length p2, .int .i64 z]) := objU.new _ _ _
  have BX : Hid (Below w.heap.size w (w.alloc (.cells #[.string s, .slice a1 L.length p1, .slice a2 S.length p2, .int .i64 z] 111))) := (Below.refl _ _).alloc (Nat.le_refl _) _
  unfold maxLen at q3
  clear h1 h2 q0 q1 q2 q4 q5
  generalize islB (s, L, S, z) = R at *
  generalize nameB s = b0 at *
  generalize labelsB L = b1 at *
  generalize valsB S = b2 at *
  generalize inB z 0 10000 = b3 at *
  go_enter Tryz.func75, Tryz.ntmps75
  go_wp2_with fail
  refine (HC0.out _).mono ?_
  rintro e w0 ⟨rfl, hb0⟩
  have OX0 := hide (OX.out.below hb0)
  have BX0 : Hid (Below w.heap.size w w0) := BX.out.trans (hb0.mono BX.out.size)
  clear OX BX hb0
  cases b0 with
  | false =>
    clear OX0
    go_wp2
    go_ret
    exact ⟨ret_bool E.out.symm, BX0.out⟩
  | true =>
    have x1 := OX0.out.cell 1 _ rfl
    go_wp2_with fail
    refine (HC1.out _ BX0.out).mono ?_
    rintro e w1 ⟨rfl, hb1⟩
    have OX1 := hide (OX0.out.below hb1)
    have BX1 : Hid (Below w.heap.size w w1) := BX0.out.trans (hb1.mono BX0.out.size)
    clear OX0 BX0 hb1 x1
    cases b1 with
    | false =>
      clear OX1
      go_wp2
      go_ret
      exact ⟨ret_bool E.out.symm, BX1.out⟩
    | true =>
      have x3 := OX1.out.cell 3 _ rfl
      have x2 := OX1.out.cell 2 _ rfl
      cases b3 with
      | false =>
        go_wp2_with (go_at_call 146; refine (HC3.out _).mono ?_; rintro e w' ⟨rfl, rfl⟩)
        go_ret
        exact ⟨ret_bool (by rw [E.out, Bool.and_false]), BX1.out⟩
      | true =>
        by_cases h4 : S.length ≤ 4
        · have h4' : (S.length : Int) ≤ 4 := by omega
          have E2 : Hid (R = b2) := by show _ = _; rw [E.out, decide_eq_true h4, Bool.and_true, Bool.and_true]; simp
          clear E h4
          go_wp2_with (go_at_call 146; refine (HC3.out _).mono ?_; rintro e w' ⟨rfl, rfl⟩)
          refine (HC2.out _ BX1.out).mono ?_
          rintro e w2 ⟨rfl, hb2⟩
          go_wp2
          go_ret
          exact ⟨ret_bool E2.out.symm, BX1.out.trans (hb2.mono BX1.out.size)⟩
        · have h4' : ¬ (S.length : Int) ≤ 4 := by omega
          have E2 : Hid (R = false) := by show _ = _; rw [E.out, decide_eq_false h4, Bool.and_false]; simp
          clear E h4
          go_wp2_with (go_at_call 146; refine (HC3.out _).mono ?_; rintro e w' ⟨rfl, rfl⟩)
          go_ret
          exact ⟨ret_bool E2.out.symm, BX1.out⟩
end Go.Proofs.YtdnodaoeflbfkaaGreat
/- Right wants: the weights, by the program. -/
namespace Go.Proofs.YtdnodaoeflbfkaaGreat
open Go.RowKit Go.BigFrame
set_option linter.unusedVariables false

theorem wgsB_long {l : List WgD} (h : 12 < l.length) : wgsB l = false := by unfold wgsB; rw [decide_eq_false_iff_not]; omega
theorem wgsB_off {l : List WgD} {k : Nat} (hk : k < l.length) (h : inB (l[k]'hk).2 0 1000 = false) : wgsB l = false := by
  rw [Bool.eq_false_iff]
  intro g
  have := (wgsB_iff.1 g).2.1 _ (List.getElem_mem hk)
  rw [h] at this; cases this
theorem wgsB_names {l : List WgD} (hl : l.length ≤ 12) (h : ∀ j (hj : j < l.length), inB (l[j]'hj).2 0 1000 = true) : wgsB l = valsB (l.map Prod.fst) := by
  rw [Bool.eq_iff_iff, wgsB_iff]
  refine ⟨fun g => g.2.2, fun g => ⟨hl, fun x hx => ?_, g⟩⟩
  obtain ⟨i, hi, rfl⟩ := List.getElem_of_mem hx
  exact h i hi
def nmsL (l : List WgD) (k : Nat) : List ByteArray := (l.take k).map Prod.fst
theorem nmsL_succ {l : List WgD} {k : Nat} (hk : k < l.length) : strVs (nmsL l (k + 1)) = strVs (nmsL l k) ++ [.string (l[k]'hk).1] := by
  unfold nmsL strVs
  rw [List.take_add_one, List.getElem?_eq_getElem hk, List.map_append, List.map_append]
  rfl
theorem nmsL_all (l : List WgD) : nmsL l l.length = l.map Prod.fst := by unfold nmsL; rw [List.take_length]
def wgP (x : WgD) : Bool := inB x.2 0 1000
theorem all_badK {α : Type} {p : α → Bool} {l : List α} {k : Nat} (hk : k < l.length) (h : p (l[k]'hk) = false) : l.all p = false := by
  rw [Bool.eq_false_iff]
  intro g
  have := List.all_eq_true.1 g _ (List.getElem_mem hk)
  rw [h] at this; cases this
theorem all_endK {α : Type} {p : α → Bool} {l : List α} (h : ∀ j (hj : j < l.length), p (l[j]'hj) = true) : l.all p = true := by
  rw [List.all_eq_true]
  intro x hx
  obtain ⟨j, hj, rfl⟩ := List.getElem_of_mem hx
  exact h j hj
theorem wgsB_three (L : List WgD) : wgsB L = ((decide (L.length ≤ 12) && L.all wgP) && valsB (L.map Prod.fst)) := by
  rw [Bool.eq_iff_iff, wgsB_iff, Bool.and_eq_true, Bool.and_eq_true, decide_eq_true_eq, List.all_eq_true, and_assoc]
  rfl
theorem wgNum_any (I : WgD) (w : World) : Calls Tryz.prog 199 #[.agg #[.string I.1, .int .i64 I.2]] w fun e w' => e = .returned (.bool (wgP I)) ∧ Below w.heap.size w w' := by
  have HC : Hid (∀ wx, Calls Tryz.prog 146 #[.int .i64 I.2, .int .i64 1000] wx fun e w' => e = .returned (.bool (wgP I)) ∧ w' = wx) := fun wx => withinF_any I.2 1000 wx
  have OX : Hid (objU (w.alloc (.cells #[.string I.1, .int .i64 I.2] 182)) w.heap.size 182 [.string I.1, .int .i64 I.2]) := objU.new _ _ _
  have BX : Hid (Below w.heap.size w (w.alloc (.cells #[.string I.1, .int .i64 I.2] 182))) := (Below.refl _ _).alloc (Nat.le_refl _) _
  generalize wgP I = r at *
  go_enter Tryz.func199, Tryz.ntmps199
  have x1 := OX.out.cell 1 _ rfl
  go_wp2_with (go_at_call 146; refine (HC.out _).mono ?_; rintro e w' ⟨rfl, rfl⟩)
  go_ret
  exact ⟨rfl, BX.out⟩
theorem wgName_any (I : WgD) (w : World) : Calls Tryz.prog 202 #[.agg #[.string I.1, .int .i64 I.2]] w fun e w' => e = .returned (.string I.1) ∧ Below w.heap.size w w' := by
  have OX : Hid (objU (w.alloc (.cells #[.string I.1, .int .i64 I.2] 182)) w.heap.size 182 [.string I.1, .int .i64 I.2]) := objU.new _ _ _
  have BX : Hid (Below w.heap.size w (w.alloc (.cells #[.string I.1, .int .i64 I.2] 182))) := (Below.refl _ _).alloc (Nat.le_refl _) _
  go_enter Tryz.func202, Tryz.ntmps202
  have x0 := OX.out.cell 0 _ rfl
  go_wp2
  go_ret
  exact ⟨rfl, BX.out⟩
set_option maxHeartbeats 800000 in
theorem clWg_any (I : WgD) (b : Nat) (w : World) (hc : w.cell? ⟨b, 0, none⟩ = some (.func (.func 199) #[] #[])) :
    Calls Tryz.prog 228 #[.agg #[.string I.1, .int .i64 I.2], .pointer (some ⟨b, 0, none⟩)] w fun e w' => e = .returned (.bool (!wgP I)) ∧ Below w.heap.size w w' := by
  have HC0 : Hid (∀ wx, Calls Tryz.prog 199 #[.agg #[.string I.1, .int .i64 I.2]] wx fun e w' => e = .returned (.bool (wgP I)) ∧ Below wx.heap.size wx w') := fun wx => wgNum_any I wx
  have OX : Hid (objU (w.alloc (.cells #[.string I.1, .int .i64 I.2] 182)) w.heap.size 182 [.string I.1, .int .i64 I.2]) := objU.new _ _ _
  have BX : Hid (Below w.heap.size w (w.alloc (.cells #[.string I.1, .int .i64 I.2] 182))) := (Below.refl _ _).alloc (Nat.le_refl _) _
  have hbl := World.block_lt_of_cell? _ _ hc
  generalize wgP I = r at *
  go_enter Tryz.func228, Tryz.ntmps228
  have x0 := OX.out.cell 0 _ rfl
  have x1 := OX.out.cell 1 _ rfl
  have cc := (BX.out.cell (p := ⟨b, 0, none⟩) hbl).trans hc
  go_wp2_with fail
  refine (HC0.out _).mono ?_
  rintro e w1 ⟨rfl, hb1⟩
  have BX1 : Hid (Below w.heap.size w w1) := BX.out.trans (hb1.mono BX.out.size)
  clear OX BX hb1 x0 x1 cc
  go_wp2
  go_ret
  exact ⟨rfl, BX1.out⟩
set_option maxRecDepth 20000 in
set_option maxHeartbeats 800000 in
theorem ixWg_any (l : List WgD) (a : Option Addr) (cap b : Nat) (w : World) (hl : l.length ≤ maxLen) (hx : wgsOf w a l) (hc : w.cell? ⟨b, 0, none⟩ = some (.func (.func 199) #[] #[])) :
    Calls Tryz.prog 246 #[.slice a l.length cap, .func (.func 228) #[] #[.pointer (some ⟨b, 0, none⟩)]] w fun e w' => ∃ r : Int, e = .returned (.int .i64 r) ∧ ((l.all wgP = true ∧ r = -1) ∨ (l.all wgP = false ∧ 0 ≤ r)) ∧ Below w.heap.size w w' := by
  have HX := hide hx
  have HC : Hid (∀ (I : WgD) (wx : World), Below w.heap.size w wx → Calls Tryz.prog 228 #[.agg #[.string I.1, .int .i64 I.2], .pointer (some ⟨b, 0, none⟩)] wx fun e w' => e = .returned (.bool (!wgP I)) ∧ Below wx.heap.size wx w') := fun I wx hb => clWg_any I b wx ((hb.cell (p := ⟨b, 0, none⟩) (World.block_lt_of_cell? _ _ hc)).trans hc)
  unfold maxLen at hl
  clear hx hc
  go_enter Tryz.func246, Tryz.ntmps246
  go_wp2
  go_loopw [8] (fun i wr => ∃ (q : Nat), q ≤ l.length ∧ i = .int .i64 q ∧ Hid (∀ j (hj : j < l.length), j < q → wgP (l[j]'hj) = true) ∧ Hid (Below w.heap.size w wr)) (fun i _ => l.length - (intOf i).toNat)
  case atStart => exact ⟨0, Nat.zero_le _, rfl, (fun j _ h => by omega), Below.refl _ _⟩
  case round =>
    obtain ⟨q, hq, rfl, Ho, Hb⟩ := hrel
    by_cases hlt : q < l.length
    · obtain ⟨bb, off, rfl, hat⟩ := HX.out.below Hb.out (by omega)
      obtain ⟨c0, c1⟩ := hat q hlt
      have HCx := hide (HC.out (l[q]'hlt) wr Hb.out)
      have Hy : Hid (wgP (l[q]'hlt) = false → l.all wgP = false) := fun h => all_badK hlt h
      have Hn : Hid (wgP (l[q]'hlt) = true → ∀ j (hj : j < l.length), j < q + 1 → wgP (l[j]'hj) = true) := fun h j hj hjq => by
        by_cases e : j = q
        · subst e; exact h
        · exact Ho.out j hj (by omega)
      clear Ho hat HC
      generalize wgP (l[q]'hlt) = r at *
      generalize (l[q]'hlt).1 = z0 at *
      generalize (l[q]'hlt).2 = z1 at *
      cases r with
      | false =>
        have HN := hide (Hy.out (by first | rfl | trivial))
        clear Hy Hn
        go_wp2_with fail
        refine HCx.out.mono ?_
        rintro e w1 ⟨rfl, hb1⟩
        go_wp2
        go_ret
        exact ⟨_, rfl, .inr ⟨HN.out, by omega⟩, Hb.out.trans (hb1.mono Hb.out.size)⟩
      | true =>
        have HN := hide (Hn.out (by first | rfl | trivial))
        clear Hy Hn
        go_wp2_with fail
        refine HCx.out.mono ?_
        rintro e w1 ⟨rfl, hb1⟩
        go_wp2
        go_roundw
        case rel => exact ⟨q + 1, by omega, by go_num, HN, Hb.out.trans (hb1.mono Hb.out.size)⟩
        case measure => simp [intOf]; omega
    · have e : q = l.length := by omega
      subst e
      have HN := hide (all_endK (p := wgP) (fun j hj => Ho.out j hj hj))
      clear Ho HX HC
      go_wp2
      go_ret
      exact ⟨_, rfl, .inl ⟨HN.out, rfl⟩, Hb.out⟩
set_option maxHeartbeats 800000 in
theorem cfWg_any (l : List WgD) (a : Option Addr) (cap b : Nat) (w : World) (hl : l.length ≤ maxLen) (hx : wgsOf w a l) (hc : w.cell? ⟨b, 0, none⟩ = some (.func (.func 199) #[] #[])) :
    Calls Tryz.prog 227 #[.slice a l.length cap, .func (.func 228) #[] #[.pointer (some ⟨b, 0, none⟩)]] w fun e w' => e = .returned (.bool (!l.all wgP)) ∧ Below w.heap.size w w' := by
  have HC := hide (ixWg_any l a cap b w hl hx hc)
  clear hx hc
  go_enter Tryz.func227, Tryz.ntmps227
  go_wp2_with fail
  refine HC.out.mono ?_
  rintro e w1 ⟨r, rfl, ⟨hr, rfl⟩ | ⟨hr, h0⟩, hb⟩
  · have HN := hide hr
    clear hr
    go_wp2
    go_ret
    exact ⟨ret_bool (by rw [HN.out]; rfl), hb⟩
  · have HN := hide hr
    clear hr
    go_wp2
    go_ret
    exact ⟨ret_bool (by rw [HN.out]; first | (simp; done) | (simp; omega)), hb⟩
set_option maxHeartbeats 800000 in
theorem allOkWg_any (l : List WgD) (a : Option Addr) (cap : Nat) (m : Nat) (w : World) (hl : l.length ≤ maxLen) (hx : wgsOf w a l) :
    Calls Tryz.prog 200 #[.slice a l.length cap, .int .i64 (m : Int), .func (.func 199) #[] #[]] w fun e w' => e = .returned (.bool (decide (l.length ≤ m) && l.all wgP)) ∧ Below w.heap.size w w' := by
  have OX : Hid (objU (w.alloc (.cells #[.func (.func 199) #[] #[]] 250)) w.heap.size 250 [.func (.func 199) #[] #[]]) := objU.new _ _ _
  have BX : Hid (Below w.heap.size w (w.alloc (.cells #[.func (.func 199) #[] #[]] 250))) := (Below.refl _ _).alloc (Nat.le_refl _) _
  have HC := hide (cfWg_any l a cap w.heap.size _ hl (hx.below BX.out) (OX.out.cell 0 _ rfl))
  unfold maxLen at hl
  go_enter Tryz.func200, Tryz.ntmps200
  by_cases h4 : l.length ≤ m
  · have h4' : (l.length : Int) ≤ (m : Int) := by omega
    rw [decide_eq_true h4, Bool.true_and]
    clear h4
    generalize l.all wgP = r at *
    go_wp2_with fail
    refine HC.out.mono ?_
    rintro e w1 ⟨rfl, hb1⟩
    have BX1 : Hid (Below w.heap.size w w1) := BX.out.trans (hb1.mono BX.out.size)
    clear hb1 OX BX
    go_wp2
    go_ret
    exact ⟨ret_bool (by simp), BX1.out⟩
  · have h4' : ¬ (l.length : Int) ≤ (m : Int) := by omega
    rw [decide_eq_false h4, Bool.false_and]
    clear h4 HC
    go_wp2
    go_ret
    exact ⟨rfl, BX.out⟩
set_option maxRecDepth 100000 in
set_option maxHeartbeats 800000 in
theorem ascByWg_any (a : Option Addr) (cap : Nat) (L : List WgD) (w : World) (hl : L.length ≤ 1048576) (hrow : wgsOf w a L) :
    Calls Tryz.prog 201 #[.slice a L.length cap, .func (.func 202) #[] #[]] w fun e w' => e = .returned (.bool (valsB (L.map Prod.fst))) ∧ Below w.heap.size w w' := by
  obtain ⟨i0, hi, hz0, hz1, hz2⟩ := info_parts Tryz.infoStr
  have Hr := hide hrow
  clear hrow
  go_enter Tryz.func201, Tryz.ntmps201
  go_wp2
  go_loopw [5, 11] (fun s i wr => ∃ (k : Nat), k ≤ L.length ∧ i = .int .i64 k ∧ Hid (s ≠ .slice none 0 0) ∧ Hid (wr.ownsRow w.heap.size 9 1 s k (strVs (nmsL L k))) ∧ Below w.heap.size w wr) (fun _ i _ => L.length - (intOf i).toNat)
  case atStart => exact ⟨0, Nat.zero_le _, rfl, (fun h => by cases h), World.ownsRow_lit w #[] 0 (Nat.le_refl _) (by decide) rfl, (Below.refl _ _).alloc (Nat.le_refl _) _⟩
  case round =>
    obtain ⟨k, hk, rfl, Hnn, How, hbw⟩ := hrel
    by_cases hlt : k < L.length
    · obtain ⟨b, off, rfl, hat⟩ := (Hr.out.below hbw) (by omega)
      have c0 := (hat k hlt).1
      have c1 := (hat k hlt).2
      have Hsu := hide (nmsL_succ hlt)
      clear hat
      generalize L[k]'hlt = X at *
      obtain ⟨K, N⟩ := X
      dsimp only at *
      have HC : Hid (∀ wx, Calls Tryz.prog 202 #[.agg #[.string K, .int .i64 N]] wx fun e w' => e = .returned (.string K) ∧ Below wx.heap.size wx w') := fun wx => wgName_any (K, N) wx
      have hbw1 : Below w.heap.size w (wr.alloc (.cells #[.string K, .int .i64 N] 182)) := hbw.alloc hbw.size _
      have How1 := hide (How.out.alloc (.cells #[.string K, .int .i64 N] 182))
      go_wp2_with fail
      refine (HC.out _).mono ?_
      rintro e w2 ⟨rfl, hb2⟩
      have How2 := hide (owns_below_any How1.out hb2)
      have hbw2 := hbw1.trans (hb2.mono hbw1.size)
      clear HC hbw hbw1 hb2 How1 c0 c1
      go_wp2_with (at_builtin; refine wpList_append_own _ rfl _ _ 23 rfl w.heap.size 9 i0 _ 1 16 Tryz.underlying23 hi hz0 hz1 hz2 rfl (by decide) _ _ _ rfl (How2.out.alloc _) ⟨w2.heap.size, 0, none⟩ 1 1 [.string K] rfl rfl (cell_one_at1 _ _ rfl _ _) (fun x hx => by simp at hx; rcases hx with rfl; rfl) (by unfold maxLen; omega) (by omega) (by have := hbw2.size; simp; omega) ?_; intro v' w3 hown' hgrow3 hnil3)
      go_roundw
      case rel => exact ⟨k + 1, by omega, by go_num, (fun h => Hnn.out (hnil3.1 h).1), by rw [Hsu.out]; exact hown', Below.grown (hbw2.alloc hbw2.size _) hgrow3 (by have := hbw2.size; simp; omega) (fun j hj => (How.out.lt _ hj).1)⟩
      case measure => simp [intOf]; omega
    · have e : k = L.length := by omega
      subst e
      have Hf : Hid (∃ g cap, u5 = Value.slice (some ⟨g, 0, none⟩) L.length cap) := by
        rcases How.out.2 with ⟨h, _⟩ | ⟨g, cap, cur, h, _⟩
        · exact absurd h Hnn.out
        · exact ⟨g, cap, h⟩
      obtain ⟨g, cp, hv⟩ := Hf.out
      subst hv
      have HC := hide (iasc_any (some ⟨g, 0, none⟩) cp (L.map Prod.fst) wr (by unfold maxLen; simp; omega) (strOf_owns (by rw [← nmsL_all]; exact How.out)))
      rw [List.length_map] at HC
      clear Hr How Hnn Hf
      go_wp2_with fail
      refine HC.out.mono ?_
      rintro e w1 ⟨rfl, hb1⟩
      go_wp2
      go_ret
      exact ⟨rfl, hbw.trans (hb1.mono hbw.size)⟩
set_option maxHeartbeats 800000 in
theorem weighsOk_any (a : Option Addr) (cap : Nat) (L : List WgD) (w : World) (hl : L.length ≤ maxLen) (hz : okWgs L) (hrow : wgsOf w a L) :
    Calls Tryz.prog 148 #[.slice a L.length cap] w fun e w' => e = .returned (.bool (wgsB L)) ∧ Below w.heap.size w w' := by
  have E := hide (wgsB_three L)
  have HA : Hid (Calls Tryz.prog 200 #[.slice a L.length cap, .int .i64 12, .func (.func 199) #[] #[]] w fun e w' => e = .returned (.bool (decide (L.length ≤ 12) && L.all wgP)) ∧ Below w.heap.size w w') := allOkWg_any L a cap 12 w hl hrow
  have HB : Hid (L.length ≤ 12 → ∀ wx, Below w.heap.size w wx → Calls Tryz.prog 201 #[.slice a L.length cap, .func (.func 202) #[] #[]] wx fun e w' => e = .returned (.bool (valsB (L.map Prod.fst))) ∧ Below wx.heap.size wx w') := fun h wx hb => ascByWg_any a cap L wx (by omega) (hrow.below hb)
  have H12 : Hid ((decide (L.length ≤ 12) && L.all wgP) = true → L.length ≤ 12) := fun h => by
    rw [Bool.and_eq_true, decide_eq_true_eq] at h
    exact h.1
  clear hl hz hrow
  generalize (decide (L.length ≤ 12) && L.all wgP) = b0 at *
  go_enter Tryz.func148, Tryz.ntmps148
  go_wp2_with fail
  refine HA.out.mono ?_
  rintro e w1 ⟨rfl, hb1⟩
  have HB1 := hide hb1
  clear hb1 HA
  cases b0 with
  | false =>
    clear HB H12
    go_wp2
    go_ret
    exact ⟨ret_bool E.out.symm, HB1.out⟩
  | true =>
    have HC := hide (HB.out (H12.out rfl) w1 HB1.out)
    clear HB H12
    generalize valsB (L.map Prod.fst) = b1 at *
    go_wp2_with fail
    refine HC.out.mono ?_
    rintro e w2 ⟨rfl, hb2⟩
    go_wp2
    go_ret
    exact ⟨ret_bool (by rw [E.out]; simp), HB1.out.trans (hb2.mono HB1.out.size)⟩
end Go.Proofs.YtdnodaoeflbfkaaGreat
/- Right wants, on both sides. -/
namespace Go.Proofs.YtdnodaoeflbfkaaGreat
open Go.RowKit Go.BigFrame
set_option linter.unusedVariables false

set_option maxRecDepth 20000 in
set_option maxHeartbeats 1600000 in
theorem sWantOk_any (W : WaD) (xs : List Value) (w : World) (hq : okWa W) (hx : waH w W xs) :
    Calls Tryz.prog 65 #[.agg xs.toArray] w fun e w' => e = .returned (.bool (wanB W)) ∧ Below w.heap.size w w' := by
  obtain ⟨c1, c2, c3, rfl, ⟨a1, p1, rfl, h1⟩, ⟨a2, p2, rfl, h2⟩, a, p, rfl, h3⟩ := hx
  obtain ⟨z, T, B, L⟩ := W
  obtain ⟨q0, ⟨q1, q2⟩, ⟨q3, q4⟩, q5, q6⟩ := hq
  have E : Hid (wanB (z, T, B, L) = (inB z 0 10000 && selB T && nmsB B 8 && wgsB L)) := rfl
  dsimp only at *
  have HC0 : Hid (∀ wx, Calls Tryz.prog 98 #[.int .i64 z, .int .i64 0, .int .i64 10000] wx fun e w' => e = .returned (.bool (inB z 0 10000)) ∧ w' = wx) := fun wx => l1In_any z 0 10000 wx
  have HC1 : Hid (∀ wx, Below w.heap.size w wx → Calls Tryz.prog 137 #[.slice a1 T.length p1] wx fun e w' => e = .returned (.bool (selB T)) ∧ Below wx.heap.size wx w') := fun wx hb => sselOk_any a1 p1 T wx q1 q2 (h1.below hb)
  have HC2 : Hid (∀ wx, Below w.heap.size w wx → Calls Tryz.prog 138 #[.slice a2 B.length p2, .int .i64 8] wx fun e w' => e = .returned (.bool (nmsB B 8)) ∧ Below wx.heap.size wx w') := fun wx hb => l10Names_any a2 p2 8 B wx q3 q4 (h2.below hb)
  have OX : Hid (objU (w.alloc (.cells #[.int .i64 z, .slice a1 T.length p1, .slice a2 B.length p2, .slice a L.length p] 35)) w.heap.size 35 [.int .i64 z, .slice a1 T.length p1, .slice a2 B.length p2, .slice a L.length p]) := objU.new _ _ _
  have BX : Hid (Below w.heap.size w (w.alloc (.cells #[.int .i64 z, .slice a1 T.length p1, .slice a2 B.length p2, .slice a L.length p] 35))) := (Below.refl _ _).alloc (Nat.le_refl _) _
  have Hr := hide h3
  have Hz := hide q6
  unfold maxLen at q5
  clear h1 h2 h3 q0 q1 q2 q3 q4 q6
  generalize wanB (z, T, B, L) = R at *
  generalize inB z 0 10000 = b0 at *
  generalize selB T = b1 at *
  generalize nmsB B 8 = b2 at *
  go_enter Tryz.func65, Tryz.ntmps65
  go_wp2
  go_loopw [3] (fun i wr => ∃ (k : Nat), k ≤ L.length ∧ i = .int .i64 k ∧ Hid (∀ j, j < k → okW L j) ∧ Hid (objU wr w.heap.size 35 [.int .i64 z, .slice a1 T.length p1, .slice a2 B.length p2, .slice a L.length p]) ∧ Hid (Below w.heap.size w wr)) (fun i _ => L.length - (intOf i).toNat)
  case atStart => exact ⟨0, Nat.zero_le _, rfl, fun j h => by omega, OX, BX⟩
  case round =>
    clear OX BX
    obtain ⟨k, hk, rfl, Hx, HO, HB⟩ := hrel
    have o3 := HO.out.cell 3 _ rfl
    by_cases hlt : k < L.length
    · obtain ⟨b, off, rfl, hat⟩ := (Hr.out.below HB.out) (by omega)
      have c0 : wr.cell? ⟨b, off + k * 2, none⟩ = some (.string (wgK L k)) := by rw [wgK_get hlt]; exact (hat k hlt).1
      have c2 : wr.cell? ⟨b, off + k * 2 + 1, none⟩ = some (.int .i64 (wgN L k)) := by rw [wgN_get hlt]; exact (hat k hlt).2
      have cp : 0 < k → wr.cell? ⟨b, off + (k - 1) * 2, none⟩ = some (.string (wgK L (k - 1))) := fun h => by rw [wgK_get (show k - 1 < L.length by omega)]; exact (hat (k - 1) (by omega)).1
      have hzK : (wgK L k).size ≤ maxLen := by rw [wgK_get hlt]; exact (Hz.out _ (List.getElem_mem hlt)).1
      have Hs : Hid (okW L k → ∀ j, j < k + 1 → okW L j) := fun h => okW_succ Hx.out h
      have Hb : Hid (¬ okW L k → R = false) := fun h => by rw [E.out, wgsB_bad hlt h, Bool.and_false]
      have hcs := okW_cases L k
      clear hat Hx
      generalize wgK L k = K at *
      generalize wgN L k = N at *
      generalize wgK L (k - 1) = Q at *
      have hK := fun wx => (sname_any K wx hzK)
      have hV := fun wx => (l1In_any N 0 1000 wx)
      clear hzK
      rcases hcs with ⟨h1, hok⟩ | ⟨h1, h2, hok⟩ | ⟨h1, h2, h3, hok⟩ | ⟨h1, h2, h3, h4, hok⟩ | ⟨h1, h2, h3, h4, hok⟩
      · rw [h1] at hK
        have HK := hide hK
        have HV := hide hV
        clear hK hV h1 cp
        have Hn := hide (Hb.out hok.out)
        clear Hs Hb Hz Hr E
        go_wp2
        go_quiet (first | (go_at_call_of 127 K; exact Calls.quiet_of_same (HK.out _)) | (go_at_call 98; exact Calls.quiet_of_same (HV.out _)))
        go_wp2
        go_ret
        exact ⟨ret_bool Hn.out.symm, below_drewN HB.out _⟩
      · rw [h1] at hK
        rw [h2] at hV
        have HK := hide hK
        have HV := hide hV
        clear hK hV h1 h2 cp
        have Hn := hide (Hb.out hok.out)
        clear Hs Hb Hz Hr E
        go_wp2
        go_quiet (first | (go_at_call_of 127 K; exact Calls.quiet_of_same (HK.out _)) | (go_at_call 98; exact Calls.quiet_of_same (HV.out _)))
        go_wp2
        go_ret
        exact ⟨ret_bool Hn.out.symm, below_drewN HB.out _⟩
      · rw [h1] at hK
        rw [h2] at hV
        have HK := hide hK
        have HV := hide hV
        have hk0 : k = 0 := h3.out
        have h3' : decide ((0 : Int) < (k : Int)) = false := by rw [decide_eq_false_iff_not]; omega
        have h3'' : decide (0 < k) = false := by rw [decide_eq_false_iff_not]; omega
        have h3a : (k : Int) ≤ 0 := by omega
        clear hK hV h1 h2 cp h3 hk0
        have Hn := hide (Hs.out hok.out)
        clear Hs Hb
        go_wp2
        go_quiet (first | (go_at_call_of 127 K; exact Calls.quiet_of_same (HK.out _)) | (go_at_call 98; exact Calls.quiet_of_same (HV.out _)))
        go_wp2
        go_roundw
        case rel => exact ⟨k + 1, by omega, by go_num, Hn, HO.out.below (below_drewN (Below.refl _ _) _), below_drewN HB.out _⟩
        case measure => simp [intOf]; omega
      · rw [h1] at hK
        rw [h2] at hV
        have HK := hide hK
        have HV := hide hV
        have cp := cp h3
        have h3' : (0 : Int) < (k : Int) := by omega
        clear hK hV h1 h2
        have Hn := hide (Hs.out hok.out)
        clear Hs Hb
        go_wp2
        go_quiet (first | (go_at_call_of 127 K; exact Calls.quiet_of_same (HK.out _)) | (go_at_call 98; exact Calls.quiet_of_same (HV.out _)))
        go_wp2
        go_roundw
        case rel => exact ⟨k + 1, by omega, by go_num, Hn, HO.out.below (below_drewN (Below.refl _ _) _), below_drewN HB.out _⟩
        case measure => simp [intOf]; omega
      · rw [h1] at hK
        rw [h2] at hV
        have HK := hide hK
        have HV := hide hV
        have cp := cp h3
        have h3' : (0 : Int) < (k : Int) := by omega
        clear hK hV h1 h2
        have Hn := hide (Hb.out hok.out)
        clear Hs Hb E
        go_wp2
        go_quiet (first | (go_at_call_of 127 K; exact Calls.quiet_of_same (HK.out _)) | (go_at_call 98; exact Calls.quiet_of_same (HV.out _)))
        go_wp2
        go_ret
        exact ⟨ret_bool Hn.out.symm, below_drewN HB.out _⟩
    · have e : k = L.length := by omega
      subst e
      have E2 : Hid (R = (b0 && b1 && b2 && decide (L.length ≤ 12))) := by show _ = _; rw [E.out, wgsB_end Hx.out]
      clear E Hx Hr Hz
      have x0 := HO.out.cell 0 _ rfl
      cases b0 with
      | false =>
        clear HO
        go_wp2_with (go_at_call 98; refine (HC0.out _).mono ?_; rintro e w' ⟨rfl, rfl⟩)
        go_ret
        exact ⟨ret_bool E2.out.symm, HB.out⟩
      | true =>
        have x1 := HO.out.cell 1 _ rfl
        go_wp2_with (go_at_call 98; refine (HC0.out _).mono ?_; rintro e w' ⟨rfl, rfl⟩)
        refine (HC1.out _ HB.out).mono ?_
        rintro e w1 ⟨rfl, hb1⟩
        have OX1 := hide (HO.out.below hb1)
        have BX1 : Hid (Below w.heap.size w w1) := HB.out.trans (hb1.mono HB.out.size)
        clear HO HB hb1 x1 x0 o3
        cases b1 with
        | false =>
          clear OX1
          go_wp2
          go_ret
          exact ⟨ret_bool E2.out.symm, BX1.out⟩
        | true =>
          have x2 := OX1.out.cell 2 _ rfl
          go_wp2_with fail
          refine (HC2.out _ BX1.out).mono ?_
          rintro e w2 ⟨rfl, hb2⟩
          have OX2 := hide (OX1.out.below hb2)
          have BX2 : Hid (Below w.heap.size w w2) := BX1.out.trans (hb2.mono BX1.out.size)
          clear OX1 BX1 hb2 x2
          cases b2 with
          | false =>
            clear OX2
            go_wp2
            go_ret
            exact ⟨ret_bool E2.out.symm, BX2.out⟩
          | true =>
            have x3 := OX2.out.cell 3 _ rfl
            go_wp2
            go_ret
            exact ⟨ret_bool (by rw [E2.out, Bool.eq_iff_iff]; simp <;> omega), BX2.out⟩
set_option maxHeartbeats 800000 in
theorem iWantOk_any (W : WaD) (xs : List Value) (w : World) (hq : okWa W) (hx : waH w W xs) :
    Calls Tryz.prog 73 #[.agg xs.toArray] w fun e w' => e = .returned (.bool (wanB W)) ∧ Below w.heap.size w w' := by
  obtain ⟨c1, c2, c3, rfl, ⟨a1, p1, rfl, h1⟩, ⟨a2, p2, rfl, h2⟩, a, p, rfl, h3⟩ := hx
  obtain ⟨z, T, B, L⟩ := W
  obtain ⟨q0, ⟨q1, q2⟩, ⟨q3, q4⟩, q5⟩ := hq
  have E : Hid (wanB (z, T, B, L) = (inB z 0 10000 && selB T && (valsB B && decide (B.length ≤ 8)) && wgsB L)) := rfl
  dsimp only at *
  have HC0 : Hid (∀ wx, Calls Tryz.prog 146 #[.int .i64 z, .int .i64 10000] wx fun e w' => e = .returned (.bool (inB z 0 10000)) ∧ w' = wx) := fun wx => withinF_any z 10000 wx
  have HC1 : Hid (∀ wx, Below w.heap.size w wx → Calls Tryz.prog 147 #[.slice a1 T.length p1] wx fun e w' => e = .returned (.bool (selB T)) ∧ Below wx.heap.size wx w') := fun wx hb => iselOk_any a1 p1 T wx q1 (fun t ht => (q2 t ht).2.1) (h1.below hb)
  have HC2 : Hid (∀ wx, Below w.heap.size w wx → Calls Tryz.prog 149 #[.slice a2 B.length p2] wx fun e w' => e = .returned (.bool (valsB B)) ∧ Below wx.heap.size wx w') := fun wx hb => iasc_any a2 p2 B wx q3 (h2.below hb)
  have HC3 : Hid (∀ wx, Below w.heap.size w wx → Calls Tryz.prog 148 #[.slice a L.length p] wx fun e w' => e = .returned (.bool (wgsB L)) ∧ Below wx.heap.size wx w') := fun wx hb => weighsOk_any a p L wx q5.1 q5 (h3.below hb)
  have OX : Hid (objU (w.alloc (.cells #[.int .i64 z, .slice a1 T.length p1, .slice a2 B.length p2, .slice a L.length p] 35)) w.heap.size 35 [.int .i64 z, .slice a1 T.length p1, .slice a2 B.length p2, .slice a L.length p]) := objU.new _ _ _
  have BX : Hid (Below w.heap.size w (w.alloc (.cells #[.int .i64 z, .slice a1 T.length p1, .slice a2 B.length p2, .slice a L.length p] 35))) := (Below.refl _ _).alloc (Nat.le_refl _) _
  unfold maxLen at q3
  clear h1 h2 h3 q0 q1 q2 q4 q5
  generalize wanB (z, T, B, L) = R at *
  generalize inB z 0 10000 = b0 at *
  generalize selB T = b1 at *
  generalize valsB B = b2 at *
  generalize wgsB L = b3 at *
  go_enter Tryz.func73, Tryz.ntmps73
  have x0 := OX.out.cell 0 _ rfl
  cases b0 with
  | false =>
    go_wp2_with (go_at_call 146; refine (HC0.out _).mono ?_; rintro e w' ⟨rfl, rfl⟩)
    go_ret
    exact ⟨ret_bool E.out.symm, BX.out⟩
  | true =>
    have x1 := OX.out.cell 1 _ rfl
    go_wp2_with (go_at_call 146; refine (HC0.out _).mono ?_; rintro e w' ⟨rfl, rfl⟩)
    refine (HC1.out _ BX.out).mono ?_
    rintro e w1 ⟨rfl, hb1⟩
    have OX1 := hide (OX.out.below hb1)
    have BX1 : Hid (Below w.heap.size w w1) := BX.out.trans (hb1.mono BX.out.size)
    clear OX BX hb1 x1 x0
    cases b1 with
    | false =>
      clear OX1
      go_wp2
      go_ret
      exact ⟨ret_bool E.out.symm, BX1.out⟩
    | true =>
      have x3 := OX1.out.cell 3 _ rfl
      go_wp2_with fail
      refine (HC3.out _ BX1.out).mono ?_
      rintro e w2 ⟨rfl, hb2⟩
      have OX2 := hide (OX1.out.below hb2)
      have BX2 : Hid (Below w.heap.size w w2) := BX1.out.trans (hb2.mono BX1.out.size)
      clear OX1 BX1 hb2 x3
      cases b3 with
      | false =>
        clear OX2
        go_wp2
        go_ret
        exact ⟨ret_bool (by rw [E.out, Bool.and_false]), BX2.out⟩
      | true =>
        have x2 := OX2.out.cell 2 _ rfl
        by_cases h4 : B.length ≤ 8
        · have h4' : (B.length : Int) ≤ 8 := by omega
          have E2 : Hid (R = b2) := by show _ = _; rw [E.out, decide_eq_true h4, Bool.and_true, Bool.and_true]; simp
          clear E h4
          go_wp2_with fail
          refine (HC2.out _ BX2.out).mono ?_
          rintro e w3 ⟨rfl, hb3⟩
          go_wp2
          go_ret
          exact ⟨ret_bool E2.out.symm, BX2.out.trans (hb3.mono BX2.out.size)⟩
        · have h4' : ¬ (B.length : Int) ≤ 8 := by omega
          have E2 : Hid (R = false) := by show _ = _; rw [E.out, decide_eq_false h4, Bool.and_false]; simp
          clear E h4
          go_wp2
          go_ret
          exact ⟨ret_bool E2.out.symm, BX2.out⟩
end Go.Proofs.YtdnodaoeflbfkaaGreat
/- Who may run it, by the program: what forbids it. -/
namespace Go.Proofs.YtdnodaoeflbfkaaGreat
open Go.RowKit Go.BigFrame
set_option linter.unusedVariables false

theorem bornB_bad {B S : List ByteArray} {k : Nat} (hk : k < S.length) (h : amongB B (ssAt S k) = false) : bornB B S = false := by
  unfold bornB
  rw [Bool.eq_false_iff]
  intro g
  have := List.all_eq_true.1 g _ (List.getElem_mem hk)
  rw [ssAt_get hk] at h
  rw [h] at this; cases this
theorem bornB_end {B S : List ByteArray} (h : ∀ j, j < S.length → amongB B (ssAt S j) = true) : bornB B S = true := by
  unfold bornB
  rw [List.all_eq_true]
  intro x hx
  obtain ⟨j, hj, rfl⟩ := List.getElem_of_mem hx
  have := h j hj
  rwa [ssAt_get hj] at this
theorem nbClo_any (a : Option Addr) (p : Nat) (B : List ByteArray) (x : ByteArray) (b : Nat) (w : World) (hl : B.length ≤ maxLen) (hrow : strOf w a B) (hc : w.cell? ⟨b, 2, none⟩ = some (.slice a B.length p)) :
    Calls Tryz.prog 206 #[.string x, .pointer (some ⟨b, 0, none⟩)] w fun e w' => e = .returned (.bool (!amongB B x)) ∧ Below w.heap.size w w' := by
  have HC := hide (contains_any a p B x w hl hrow)
  clear hrow
  generalize amongB B x = r at *
  go_enter Tryz.func206, Tryz.ntmps206
  go_wp2_with fail
  refine HC.out.mono ?_
  rintro e w' ⟨rfl, rfl⟩
  go_wp2
  go_ret
  exact ⟨rfl, Below.refl _ _⟩
set_option maxRecDepth 20000 in
set_option maxHeartbeats 800000 in
theorem ixNb_any (a a2 : Option Addr) (p p2 : Nat) (B S : List ByteArray) (b : Nat) (w : World) (hl : B.length ≤ maxLen) (hl2 : S.length ≤ maxLen) (hB : strOf w a B) (hS : strOf w a2 S) (hc : w.cell? ⟨b, 2, none⟩ = some (.slice a B.length p)) :
    Calls Tryz.prog 231 #[.slice a2 S.length p2, .func (.func 206) #[] #[.pointer (some ⟨b, 0, none⟩)]] w fun e w' => ∃ r : Int, e = .returned (.int .i64 r) ∧ ((bornB B S = true ∧ r = -1) ∨ (bornB B S = false ∧ 0 ≤ r)) ∧ Below w.heap.size w w' := by
  have HX := hide hS
  have HC : Hid (∀ (x : ByteArray) (wx : World), Below w.heap.size w wx → Calls Tryz.prog 206 #[.string x, .pointer (some ⟨b, 0, none⟩)] wx fun e w' => e = .returned (.bool (!amongB B x)) ∧ Below wx.heap.size wx w') := fun x wx hb => nbClo_any a p B x b wx hl (hB.below hb) ((hb.cell (p := ⟨b, 2, none⟩) (World.block_lt_of_cell? _ _ hc)).trans hc)
  unfold maxLen at hl2
  clear hB hS hc
  go_enter Tryz.func231, Tryz.ntmps231
  go_wp2
  go_loopw [8] (fun i wr => ∃ (q : Nat), q ≤ S.length ∧ i = .int .i64 q ∧ Hid (∀ j, j < q → amongB B (ssAt S j) = true) ∧ Hid (Below w.heap.size w wr)) (fun i _ => S.length - (intOf i).toNat)
  case atStart => exact ⟨0, Nat.zero_le _, rfl, (fun j h => by omega), Below.refl _ _⟩
  case round =>
    obtain ⟨q, hq, rfl, Ho, Hb⟩ := hrel
    by_cases hlt : q < S.length
    · obtain ⟨bb, off, rfl, hat⟩ := (HX.out.below Hb.out) (by omega)
      have c0 := strAt_cells hat q hlt
      have HCx := hide (HC.out (ssAt S q) wr Hb.out)
      have Hy : Hid (amongB B (ssAt S q) = false → bornB B S = false) := fun h => bornB_bad hlt h
      have Hn : Hid (amongB B (ssAt S q) = true → ∀ j, j < q + 1 → amongB B (ssAt S j) = true) := fun h j hjq => by
        by_cases e : j = q
        · subst e; exact h
        · exact Ho.out j (by omega)
      clear Ho hat HC
      generalize amongB B (ssAt S q) = r at *
      generalize ssAt S q = K at *
      cases r with
      | false =>
        have HN := hide (Hy.out (by first | rfl | trivial))
        clear Hy Hn
        go_wp2_with fail
        refine HCx.out.mono ?_
        rintro e w1 ⟨rfl, hb1⟩
        go_wp2
        go_ret
        exact ⟨_, rfl, .inr ⟨HN.out, by omega⟩, Hb.out.trans (hb1.mono Hb.out.size)⟩
      | true =>
        have HN := hide (Hn.out (by first | rfl | trivial))
        clear Hy Hn
        go_wp2_with fail
        refine HCx.out.mono ?_
        rintro e w1 ⟨rfl, hb1⟩
        go_wp2
        go_roundw
        case rel => exact ⟨q + 1, by omega, by go_num, HN, Hb.out.trans (hb1.mono Hb.out.size)⟩
        case measure => simp [intOf]; omega
    · have e : q = S.length := by omega
      subst e
      have HN := hide (bornB_end Ho.out)
      clear Ho HX HC
      go_wp2
      go_ret
      exact ⟨_, rfl, .inl ⟨HN.out, rfl⟩, Hb.out⟩
set_option maxHeartbeats 800000 in
theorem cfNb_any (a a2 : Option Addr) (p p2 : Nat) (B S : List ByteArray) (b : Nat) (w : World) (hl : B.length ≤ maxLen) (hl2 : S.length ≤ maxLen) (hB : strOf w a B) (hS : strOf w a2 S) (hc : w.cell? ⟨b, 2, none⟩ = some (.slice a B.length p)) :
    Calls Tryz.prog 205 #[.slice a2 S.length p2, .func (.func 206) #[] #[.pointer (some ⟨b, 0, none⟩)]] w fun e w' => e = .returned (.bool (!bornB B S)) ∧ Below w.heap.size w w' := by
  have HC := hide (ixNb_any a a2 p p2 B S b w hl hl2 hB hS hc)
  clear hB hS hc
  go_enter Tryz.func205, Tryz.ntmps205
  go_wp2_with fail
  refine HC.out.mono ?_
  rintro e w1 ⟨r, rfl, ⟨hr, rfl⟩ | ⟨hr, h0⟩, hb⟩
  · have HN := hide hr
    clear hr
    go_wp2
    go_ret
    exact ⟨ret_bool (by rw [HN.out]; rfl), hb⟩
  · have HN := hide hr
    clear hr
    go_wp2
    go_ret
    exact ⟨ret_bool (by rw [HN.out]; first | (simp; done) | (simp; omega)), hb⟩
/-- the cells of a match: a want's, then an island's -/
def maC (z : Int) (a1 a2 a3 b1 b2 : Option Addr) (p1 p2 p3 r1 r2 : Nat) (T : List TD) (B : List ByteArray) (L : List WgD) (s : ByteArray) (G : List (ByteArray × ByteArray)) (S : List ByteArray) (y : Int) : List Value :=
  [.int .i64 z, .slice a1 T.length p1, .slice a2 B.length p2, .slice a3 L.length p3, .string s, .slice b1 G.length r1, .slice b2 S.length r2, .int .i64 y]
set_option maxHeartbeats 800000 in
theorem notRight_any (z : Int) (a1 a2 a3 b1 b2 : Option Addr) (p1 p2 p3 r1 r2 : Nat) (T : List TD) (B : List ByteArray) (L : List WgD) (s : ByteArray) (G : List (ByteArray × ByteArray)) (S : List ByteArray) (y : Int) (w : World)
    (hq : okWa (z, T, B, L)) (hq' : okIs1 (s, G, S, y)) (hW : waC w (z, T, B, L) (.slice a1 T.length p1) (.slice a2 B.length p2) (.slice a3 L.length p3)) (hI : isC w (s, G, S, y) (.slice b1 G.length r1) (.slice b2 S.length r2)) :
    Calls Tryz.prog 153 #[.agg #[.int .i64 z, .slice a1 T.length p1, .slice a2 B.length p2, .slice a3 L.length p3, .string s, .slice b1 G.length r1, .slice b2 S.length r2, .int .i64 y]] w fun e w' => e = .returned (.bool (!(wanB (z, T, B, L) && islB (s, G, S, y)))) ∧ Below w.heap.size w w' := by
  have HC0 : Hid (∀ wx, Below w.heap.size w wx → Calls Tryz.prog 73 #[.agg #[.int .i64 z, .slice a1 T.length p1, .slice a2 B.length p2, .slice a3 L.length p3]] wx fun e w' => e = .returned (.bool (wanB (z, T, B, L))) ∧ Below wx.heap.size wx w') := fun wx hb => iWantOk_any (z, T, B, L) [.int .i64 z, .slice a1 T.length p1, .slice a2 B.length p2, .slice a3 L.length p3] wx hq ⟨_, _, _, rfl, hW.below hb⟩
  have HC1 : Hid (∀ wx, Below w.heap.size w wx → Calls Tryz.prog 75 #[.agg #[.string s, .slice b1 G.length r1, .slice b2 S.length r2, .int .i64 y]] wx fun e w' => e = .returned (.bool (islB (s, G, S, y))) ∧ Below wx.heap.size wx w') := fun wx hb => iIslandOk_any (s, G, S, y) [.string s, .slice b1 G.length r1, .slice b2 S.length r2, .int .i64 y] wx hq' ⟨_, _, rfl, hI.below hb⟩
  have OX : Hid (objU (w.alloc (.cells #[.int .i64 z, .slice a1 T.length p1, .slice a2 B.length p2, .slice a3 L.length p3, .string s, .slice b1 G.length r1, .slice b2 S.length r2, .int .i64 y] 198)) w.heap.size 198 [.int .i64 z, .slice a1 T.length p1, .slice a2 B.length p2, .slice a3 L.length p3, .string s, .slice b1 G.length r1, .slice b2 S.length r2, .int .i64 y]) := objU.new _ _ _
  have BX : Hid (Below w.heap.size w (w.alloc (.cells #[.int .i64 z, .slice a1 T.length p1, .slice a2 B.length p2, .slice a3 L.length p3, .string s, .slice b1 G.length r1, .slice b2 S.length r2, .int .i64 y] 198))) := (Below.refl _ _).alloc (Nat.le_refl _) _
  clear hq hq' hW hI
  generalize wanB (z, T, B, L) = q0 at *
  generalize islB (s, G, S, y) = q1 at *
  go_enter Tryz.func153, Tryz.ntmps153
  have x0 := OX.out.cell 0 _ rfl
  have x1 := OX.out.cell 1 _ rfl
  have x2 := OX.out.cell 2 _ rfl
  have x3 := OX.out.cell 3 _ rfl
  go_wp2_with fail
  refine (HC0.out _ BX.out).mono ?_
  rintro e w1 ⟨rfl, hb1⟩
  have OX1 := hide (OX.out.below hb1)
  have BX1 : Hid (Below w.heap.size w w1) := BX.out.trans (hb1.mono BX.out.size)
  clear OX BX hb1 x0 x1 x2 x3
  cases q0 with
  | false =>
    clear OX1
    go_wp2
    go_ret
    exact ⟨rfl, BX1.out⟩
  | true =>
    have x4 := OX1.out.cell 4 _ rfl
    have x5 := OX1.out.cell 5 _ rfl
    have x6 := OX1.out.cell 6 _ rfl
    have x7 := OX1.out.cell 7 _ rfl
    go_wp2_with fail
    refine (HC1.out _ BX1.out).mono ?_
    rintro e w2 ⟨rfl, hb2⟩
    have BX2 : Hid (Below w.heap.size w w2) := BX1.out.trans (hb2.mono BX1.out.size)
    clear OX1 BX1 hb2 x4 x5 x6 x7
    go_wp2
    go_ret
    exact ⟨ret_bool (by simp), BX2.out⟩
set_option maxHeartbeats 800000 in
theorem notMeant_any (z : Int) (a1 a2 a3 b1 b2 : Option Addr) (p1 p2 p3 r1 r2 : Nat) (T : List TD) (B : List ByteArray) (L : List WgD) (s : ByteArray) (G : List (ByteArray × ByteArray)) (S : List ByteArray) (y : Int) (w : World)
    (hq : okWa (z, T, B, L)) (hq' : okIs1 (s, G, S, y)) (hT : termsOf w a1 T) (hG : rowOf w b1 G) :
    Calls Tryz.prog 154 #[.agg #[.int .i64 z, .slice a1 T.length p1, .slice a2 B.length p2, .slice a3 L.length p3, .string s, .slice b1 G.length r1, .slice b2 S.length r2, .int .i64 y]] w fun e w' => e = .returned (.bool (!matchB T G)) ∧ Below w.heap.size w w' := by
  have HC0 : Hid (∀ wx, Below w.heap.size w wx → Calls Tryz.prog 204 #[.slice a1 T.length p1, .slice b1 G.length r1] wx fun e w' => e = .returned (.bool (matchB T G)) ∧ Below wx.heap.size wx w') := fun wx hb => imatches_any a1 p1 T b1 r1 G wx hq.2.1.1 (fun t ht => (hq.2.1.2 t ht).2.1) (hT.below hb) hq'.2.1.1 (rowOf_below hG hb)
  have OX : Hid (objU (w.alloc (.cells #[.int .i64 z, .slice a1 T.length p1, .slice a2 B.length p2, .slice a3 L.length p3, .string s, .slice b1 G.length r1, .slice b2 S.length r2, .int .i64 y] 198)) w.heap.size 198 [.int .i64 z, .slice a1 T.length p1, .slice a2 B.length p2, .slice a3 L.length p3, .string s, .slice b1 G.length r1, .slice b2 S.length r2, .int .i64 y]) := objU.new _ _ _
  have BX : Hid (Below w.heap.size w (w.alloc (.cells #[.int .i64 z, .slice a1 T.length p1, .slice a2 B.length p2, .slice a3 L.length p3, .string s, .slice b1 G.length r1, .slice b2 S.length r2, .int .i64 y] 198))) := (Below.refl _ _).alloc (Nat.le_refl _) _
  clear hq hq' hT hG
  generalize matchB T G = q0 at *
  go_enter Tryz.func154, Tryz.ntmps154
  have x1 := OX.out.cell 1 _ rfl
  have x5 := OX.out.cell 5 _ rfl
  go_wp2_with fail
  refine (HC0.out _ BX.out).mono ?_
  rintro e w1 ⟨rfl, hb1⟩
  have BX1 : Hid (Below w.heap.size w w1) := BX.out.trans (hb1.mono BX.out.size)
  clear OX BX hb1 x1 x5
  go_wp2
  go_ret
  exact ⟨rfl, BX1.out⟩
set_option maxHeartbeats 800000 in
theorem notBorne_any (z : Int) (a1 a2 a3 b1 b2 : Option Addr) (p1 p2 p3 r1 r2 : Nat) (T : List TD) (B : List ByteArray) (L : List WgD) (s : ByteArray) (G : List (ByteArray × ByteArray)) (S : List ByteArray) (y : Int) (w : World)
    (hq : okWa (z, T, B, L)) (hq' : okIs1 (s, G, S, y)) (hB : strOf w a2 B) (hS : strOf w b2 S) :
    Calls Tryz.prog 155 #[.agg #[.int .i64 z, .slice a1 T.length p1, .slice a2 B.length p2, .slice a3 L.length p3, .string s, .slice b1 G.length r1, .slice b2 S.length r2, .int .i64 y]] w fun e w' => e = .returned (.bool (!bornB B S)) ∧ Below w.heap.size w w' := by
  have OX : Hid (objU (w.alloc (.cells #[.int .i64 z, .slice a1 T.length p1, .slice a2 B.length p2, .slice a3 L.length p3, .string s, .slice b1 G.length r1, .slice b2 S.length r2, .int .i64 y] 198)) w.heap.size 198 [.int .i64 z, .slice a1 T.length p1, .slice a2 B.length p2, .slice a3 L.length p3, .string s, .slice b1 G.length r1, .slice b2 S.length r2, .int .i64 y]) := objU.new _ _ _
  have BX : Hid (Below w.heap.size w (w.alloc (.cells #[.int .i64 z, .slice a1 T.length p1, .slice a2 B.length p2, .slice a3 L.length p3, .string s, .slice b1 G.length r1, .slice b2 S.length r2, .int .i64 y] 198))) := (Below.refl _ _).alloc (Nat.le_refl _) _
  have HC0 : Hid (Calls Tryz.prog 205 #[.slice b2 S.length r2, .func (.func 206) #[] #[.pointer (some ⟨w.heap.size, 0, none⟩)]] (w.alloc (.cells #[.int .i64 z, .slice a1 T.length p1, .slice a2 B.length p2, .slice a3 L.length p3, .string s, .slice b1 G.length r1, .slice b2 S.length r2, .int .i64 y] 198)) fun e w' => e = .returned (.bool (!bornB B S)) ∧ Below (w.alloc (.cells #[.int .i64 z, .slice a1 T.length p1, .slice a2 B.length p2, .slice a3 L.length p3, .string s, .slice b1 G.length r1, .slice b2 S.length r2, .int .i64 y] 198)).heap.size (w.alloc (.cells #[.int .i64 z, .slice a1 T.length p1, .slice a2 B.length p2, .slice a3 L.length p3, .string s, .slice b1 G.length r1, .slice b2 S.length r2, .int .i64 y] 198)) w') :=
    cfNb_any a2 b2 p2 r2 B S w.heap.size _ hq.2.2.1.1 hq'.2.2.1.1 (hB.below BX.out) (hS.below BX.out) (OX.out.cell 2 _ rfl)
  clear hq hq' hB hS
  generalize bornB B S = q0 at *
  go_enter Tryz.func155, Tryz.ntmps155
  have x6 := OX.out.cell 6 _ rfl
  go_wp2_with fail
  refine HC0.out.mono ?_
  rintro e w1 ⟨rfl, hb1⟩
  have BX1 : Hid (Below w.heap.size w w1) := BX.out.trans (hb1.mono BX.out.size)
  clear OX BX hb1 x6
  go_wp2
  go_ret
  exact ⟨rfl, BX1.out⟩
end Go.Proofs.YtdnodaoeflbfkaaGreat
/- Who may run it: Eligible, on both sides. -/
namespace Go.Proofs.YtdnodaoeflbfkaaGreat
open Go.RowKit Go.BigFrame
set_option linter.unusedVariables false

set_option maxRecDepth 20000 in
set_option maxHeartbeats 1600000 in
theorem sEligible_any (W : WaD) (I : IsD) (xs ys : List Value) (w : World) (hq : okWa W) (hq' : okIs1 I) (hx : waH w W xs) (hy : isH w I ys) :
    Calls Tryz.prog 67 #[.agg xs.toArray, .agg ys.toArray] w fun e w' => e = .returned (.bool (eligB W I)) ∧ Below w.heap.size w w' := by
  have HC0 : Hid (∀ wx, Below w.heap.size w wx → Calls Tryz.prog 65 #[.agg xs.toArray] wx fun e w' => e = .returned (.bool (wanB W)) ∧ Below wx.heap.size wx w') := fun wx hb => sWantOk_any W xs wx hq (hx.below hb)
  have HC1 : Hid (∀ wx, Below w.heap.size w wx → Calls Tryz.prog 66 #[.agg ys.toArray] wx fun e w' => e = .returned (.bool (islB I)) ∧ Below wx.heap.size wx w') := fun wx hb => sIslandOk_any I ys wx hq' (hy.below hb)
  obtain ⟨c1, c2, c3, rfl, ⟨a1, p1, rfl, h1⟩, ⟨a2, p2, rfl, h2⟩, a3, p3, rfl, h3⟩ := hx
  obtain ⟨d1, d2, rfl, ⟨b1, r1, rfl, g1⟩, b2, r2, rfl, g2⟩ := hy
  obtain ⟨z, T, B, L⟩ := W
  obtain ⟨s, G, S, y⟩ := I
  have E : Hid (eligB (z, T, B, L) (s, G, S, y) = (wanB (z, T, B, L) && islB (s, G, S, y) && matchB T G && bornB B S)) := rfl
  dsimp only at *
  have HC2 : Hid (∀ wx, Below w.heap.size w wx → Calls Tryz.prog 140 #[.slice a1 T.length p1, .slice b1 G.length r1] wx fun e w' => e = .returned (.bool (matchB T G)) ∧ Below wx.heap.size wx w') := fun wx hb => smatches_any a1 p1 T b1 r1 G wx hq.2.1.1 hq.2.1.2 (h1.below hb) hq'.2.1.1 hq'.2.1.2 (rowOf_below g1 hb)
  have HC3 : Hid (∀ x wx, Below w.heap.size w wx → Calls Tryz.prog 128 #[.slice a2 B.length p2, .string x] wx fun e w' => e = .returned (.bool (amongB B x)) ∧ w' = wx) := fun x wx hb => samong_any a2 p2 B x wx hq.2.2.1.1 (h2.below hb)
  have HS := hide g2
  have hl := hq'.2.2.1.1
  unfold maxLen at hl
  simp only at hl
  have OX : Hid (objU (w.alloc (.cells #[.int .i64 z, .slice a1 T.length p1, .slice a2 B.length p2, .slice a3 L.length p3] 35)) w.heap.size 35 [.int .i64 z, .slice a1 T.length p1, .slice a2 B.length p2, .slice a3 L.length p3]) := objU.new _ _ _
  have OX' := hide (OX.out.below (w' := (w.alloc (.cells #[.int .i64 z, .slice a1 T.length p1, .slice a2 B.length p2, .slice a3 L.length p3] 35)).alloc (.cells #[.string s, .slice b1 G.length r1, .slice b2 S.length r2, .int .i64 y] 111)) ((Below.refl _ _).alloc (Nat.le_refl _) _))
  have OY : Hid (objU ((w.alloc (.cells #[.int .i64 z, .slice a1 T.length p1, .slice a2 B.length p2, .slice a3 L.length p3] 35)).alloc (.cells #[.string s, .slice b1 G.length r1, .slice b2 S.length r2, .int .i64 y] 111)) (w.heap.size + 1) 111 [.string s, .slice b1 G.length r1, .slice b2 S.length r2, .int .i64 y]) := objU.new2 _ _ (by simp)
  have BX : Hid (Below w.heap.size w ((w.alloc (.cells #[.int .i64 z, .slice a1 T.length p1, .slice a2 B.length p2, .slice a3 L.length p3] 35)).alloc (.cells #[.string s, .slice b1 G.length r1, .slice b2 S.length r2, .int .i64 y] 111))) := ((Below.refl _ _).alloc (Nat.le_refl _) _).alloc (by simp) _
  clear h1 h2 h3 g1 g2 hq hq' OX
  generalize eligB (z, T, B, L) (s, G, S, y) = R at *
  generalize wanB (z, T, B, L) = q0 at *
  generalize islB (s, G, S, y) = q1 at *
  generalize matchB T G = q2 at *
  go_enter Tryz.func67, Tryz.ntmps67
  have x0 := OX'.out.cell 0 _ rfl
  have x1 := OX'.out.cell 1 _ rfl
  have x2 := OX'.out.cell 2 _ rfl
  have x3 := OX'.out.cell 3 _ rfl
  go_wp2_with fail
  refine (HC0.out _ BX.out).mono ?_
  rintro e w1 ⟨rfl, hb1⟩
  have OX1 := hide (OX'.out.below hb1)
  have OY1 := hide (OY.out.below hb1)
  have BX1 : Hid (Below w.heap.size w w1) := BX.out.trans (hb1.mono BX.out.size)
  clear OX' OY BX hb1 x0 x1 x2 x3
  cases q0 with
  | false =>
    clear OX1 OY1
    go_wp2
    go_ret
    exact ⟨ret_bool E.out.symm, BX1.out⟩
  | true =>
    have x0 := OY1.out.cell 0 _ rfl
    have x1 := OY1.out.cell 1 _ rfl
    have x2 := OY1.out.cell 2 _ rfl
    have x3 := OY1.out.cell 3 _ rfl
    go_wp2_with fail
    refine (HC1.out _ BX1.out).mono ?_
    rintro e w2 ⟨rfl, hb2⟩
    have OX2 := hide (OX1.out.below hb2)
    have OY2 := hide (OY1.out.below hb2)
    have BX2 : Hid (Below w.heap.size w w2) := BX1.out.trans (hb2.mono BX1.out.size)
    clear OX1 OY1 BX1 hb2 x0 x1 x2 x3
    cases q1 with
    | false =>
      clear OX2 OY2
      go_wp2
      go_ret
      exact ⟨ret_bool E.out.symm, BX2.out⟩
    | true =>
      have x1 := OX2.out.cell 1 _ rfl
      have y1 := OY2.out.cell 1 _ rfl
      go_wp2_with fail
      refine (HC2.out _ BX2.out).mono ?_
      rintro e w3 ⟨rfl, hb3⟩
      have OX3 := hide (OX2.out.below hb3)
      have OY3 := hide (OY2.out.below hb3)
      have BX3 : Hid (Below w.heap.size w w3) := BX2.out.trans (hb3.mono BX2.out.size)
      clear OX2 OY2 BX2 hb3 x1 y1
      cases q2 with
      | false =>
        clear OX3 OY3
        go_wp2
        go_ret
        exact ⟨ret_bool E.out.symm, BX3.out⟩
      | true =>
        have E2 : Hid (R = bornB B S) := by show _ = _; rw [E.out]; simp
        clear E
        go_wp2
        go_loopw [5] (fun i wr => ∃ (k : Nat), k ≤ S.length ∧ i = .int .i64 k ∧ Hid (∀ j, j < k → amongB B (ssAt S j) = true) ∧ Hid (objU wr w.heap.size 35 [.int .i64 z, .slice a1 T.length p1, .slice a2 B.length p2, .slice a3 L.length p3]) ∧ Hid (objU wr (w.heap.size + 1) 111 [.string s, .slice b1 G.length r1, .slice b2 S.length r2, .int .i64 y]) ∧ Hid (Below w.heap.size w wr)) (fun i _ => S.length - (intOf i).toNat)
        case atStart => exact ⟨0, Nat.zero_le _, rfl, fun j h => by omega, OX3, OY3, BX3⟩
        case round =>
          clear OX3 OY3 BX3
          obtain ⟨k, hk, rfl, Ho, HO, HY, HB⟩ := hrel
          have o2 := HO.out.cell 2 _ rfl
          have y2 := HY.out.cell 2 _ rfl
          by_cases hlt : k < S.length
          · obtain ⟨b, off, rfl, hat⟩ := (HS.out.below HB.out) (by omega)
            have c0 := strAt_cells hat k hlt
            have Hy : Hid (amongB B (ssAt S k) = false → bornB B S = false) := fun h => bornB_bad hlt h
            have Hn : Hid (amongB B (ssAt S k) = true → ∀ j, j < k + 1 → amongB B (ssAt S j) = true) := fun h j hjq => by
              by_cases e : j = k
              · subst e; exact h
              · exact Ho.out j (by omega)
            have HCx : Hid (∀ wx, Below wr.heap.size wr wx → Calls Tryz.prog 128 #[.slice a2 B.length p2, .string (ssAt S k)] wx fun e w' => e = .returned (.bool (amongB B (ssAt S k))) ∧ w' = wx) := fun wx hb => HC3.out _ wx (HB.out.trans (hb.mono HB.out.size))
            clear Ho hat
            generalize amongB B (ssAt S k) = r at *
            generalize ssAt S k = K at *
            cases r with
            | false =>
              have HN := hide (Hy.out (by first | rfl | trivial))
              clear Hy Hn
              go_wp2
              go_quiet (first | (go_at_call 128; exact Calls.quiet_of_same (HCx.out _ (by repeat (first | with_reducible exact Below.refl _ _ | with_reducible refine below_drewN ?_ _)))))
              go_wp2
              go_ret
              exact ⟨ret_bool (by rw [E2.out, HN.out]), below_drewN HB.out _⟩
            | true =>
              have HN := hide (Hn.out (by first | rfl | trivial))
              clear Hy Hn
              go_wp2
              go_quiet (first | (go_at_call 128; exact Calls.quiet_of_same (HCx.out _ (by repeat (first | with_reducible exact Below.refl _ _ | with_reducible refine below_drewN ?_ _)))))
              go_wp2
              go_roundw
              case rel => exact ⟨k + 1, by omega, by go_num, HN, HO.out.below (below_drewN (Below.refl _ _) _), HY.out.below (below_drewN (Below.refl _ _) _), below_drewN HB.out _⟩
              case measure => simp [intOf]; omega
          · have e : k = S.length := by omega
            subst e
            have HN := hide (bornB_end Ho.out)
            clear Ho HS HC3
            go_wp2
            go_ret
            exact ⟨ret_bool (by rw [E2.out, HN.out]), HB.out⟩
set_option maxRecDepth 20000 in
set_option maxHeartbeats 1600000 in
theorem iEligible_any (W : WaD) (I : IsD) (xs ys : List Value) (w : World) (hq : okWa W) (hq' : okIs1 I) (hx : waH w W xs) (hy : isH w I ys) :
    Calls Tryz.prog 76 #[.agg xs.toArray, .agg ys.toArray] w fun e w' => e = .returned (.bool (eligB W I)) ∧ Below w.heap.size w w' := by
  obtain ⟨c1, c2, c3, rfl, ⟨a1, p1, rfl, h1⟩, ⟨a2, p2, rfl, h2⟩, a3, p3, rfl, h3⟩ := hx
  obtain ⟨d1, d2, rfl, ⟨b1, r1, rfl, g1⟩, b2, r2, rfl, g2⟩ := hy
  obtain ⟨z, T, B, L⟩ := W
  obtain ⟨s, G, S, y⟩ := I
  have E : Hid (eligB (z, T, B, L) (s, G, S, y) = (wanB (z, T, B, L) && islB (s, G, S, y) && matchB T G && bornB B S)) := rfl
  dsimp only at *
  have HC0 : Hid (∀ wx, Below w.heap.size w wx → Calls Tryz.prog 153 #[.agg #[.int .i64 z, .slice a1 T.length p1, .slice a2 B.length p2, .slice a3 L.length p3, .string s, .slice b1 G.length r1, .slice b2 S.length r2, .int .i64 y]] wx fun e w' => e = .returned (.bool (!(wanB (z, T, B, L) && islB (s, G, S, y)))) ∧ Below wx.heap.size wx w') := fun wx hb => notRight_any z a1 a2 a3 b1 b2 p1 p2 p3 r1 r2 T B L s G S y wx hq hq' (waC.below ⟨⟨_, _, rfl, h1⟩, ⟨_, _, rfl, h2⟩, _, _, rfl, h3⟩ hb) (isC.below ⟨⟨_, _, rfl, g1⟩, _, _, rfl, g2⟩ hb)
  have HC1 : Hid (∀ wx, Below w.heap.size w wx → Calls Tryz.prog 154 #[.agg #[.int .i64 z, .slice a1 T.length p1, .slice a2 B.length p2, .slice a3 L.length p3, .string s, .slice b1 G.length r1, .slice b2 S.length r2, .int .i64 y]] wx fun e w' => e = .returned (.bool (!matchB T G)) ∧ Below wx.heap.size wx w') := fun wx hb => notMeant_any z a1 a2 a3 b1 b2 p1 p2 p3 r1 r2 T B L s G S y wx hq hq' (h1.below hb) (rowOf_below g1 hb)
  have HC2 : Hid (∀ wx, Below w.heap.size w wx → Calls Tryz.prog 155 #[.agg #[.int .i64 z, .slice a1 T.length p1, .slice a2 B.length p2, .slice a3 L.length p3, .string s, .slice b1 G.length r1, .slice b2 S.length r2, .int .i64 y]] wx fun e w' => e = .returned (.bool (!bornB B S)) ∧ Below wx.heap.size wx w') := fun wx hb => notBorne_any z a1 a2 a3 b1 b2 p1 p2 p3 r1 r2 T B L s G S y wx hq hq' (h2.below hb) (g2.below hb)
  clear h1 h2 h3 g1 g2 hq hq'
  generalize eligB (z, T, B, L) (s, G, S, y) = R at *
  generalize (wanB (z, T, B, L) && islB (s, G, S, y)) = q0 at *
  generalize matchB T G = q1 at *
  generalize bornB B S = q2 at *
  go_enter Tryz.func76, Tryz.ntmps76
  go_wp2
  go_loopw [19] (fun i wr => ∃ (x : Int), i = .int .i64 x ∧ (x = 0 ∨ (x = 1 ∧ q0 = true) ∨ (x = 2 ∧ q0 = true ∧ q1 = true) ∨ (x = 3 ∧ q0 = true ∧ q1 = true ∧ q2 = true)) ∧ Hid (∃ t, objU wr (w.heap.size + 3) t [.func (.func 153) #[(.agg #[.int .i64 z, .slice a1 T.length p1, .slice a2 B.length p2, .slice a3 L.length p3, .string s, .slice b1 G.length r1, .slice b2 S.length r2, .int .i64 y])] #[], .func (.func 154) #[(.agg #[.int .i64 z, .slice a1 T.length p1, .slice a2 B.length p2, .slice a3 L.length p3, .string s, .slice b1 G.length r1, .slice b2 S.length r2, .int .i64 y])] #[], .func (.func 155) #[(.agg #[.int .i64 z, .slice a1 T.length p1, .slice a2 B.length p2, .slice a3 L.length p3, .string s, .slice b1 G.length r1, .slice b2 S.length r2, .int .i64 y])] #[]]) ∧ Hid (Below w.heap.size w wr)) (fun i _ => (3 - intOf i).toNat)
  case atStart => exact ⟨0, rfl, .inl rfl, ⟨_, objU.new2 _ [.func (.func 153) #[(.agg #[.int .i64 z, .slice a1 T.length p1, .slice a2 B.length p2, .slice a3 L.length p3, .string s, .slice b1 G.length r1, .slice b2 S.length r2, .int .i64 y])] #[], .func (.func 154) #[(.agg #[.int .i64 z, .slice a1 T.length p1, .slice a2 B.length p2, .slice a3 L.length p3, .string s, .slice b1 G.length r1, .slice b2 S.length r2, .int .i64 y])] #[], .func (.func 155) #[(.agg #[.int .i64 z, .slice a1 T.length p1, .slice a2 B.length p2, .slice a3 L.length p3, .string s, .slice b1 G.length r1, .slice b2 S.length r2, .int .i64 y])] #[]] (by simp)⟩, (by repeat (first | exact Below.refl _ _ | refine Below.alloc ?_ (by simp <;> omega) _))⟩
  case round =>
    obtain ⟨x, rfl, hk, HO, HB⟩ := hrel
    obtain ⟨t, hO⟩ := HO.out
    rcases hk with rfl | ⟨rfl, rfl⟩ | ⟨rfl, rfl, rfl⟩ | ⟨rfl, rfl, rfl, rfl⟩
    · have o0 := hO.cell 0 _ rfl
      clear hO
      cases q0 with
      | false =>
        go_wp2_with fail
        refine (HC0.out _ HB.out).mono ?_
        rintro e w1 ⟨rfl, hb1⟩
        go_wp2
        go_ret
        exact ⟨ret_bool (by rw [E.out]; simp), HB.out.trans (hb1.mono HB.out.size)⟩
      | true =>
        go_wp2_with fail
        refine (HC0.out _ HB.out).mono ?_
        rintro e w1 ⟨rfl, hb1⟩
        go_wp2
        go_roundw
        case rel => exact ⟨1, rfl, (by simp), (by obtain ⟨t, h⟩ := HO.out; exact ⟨t, h.below hb1⟩), HB.out.trans (hb1.mono HB.out.size)⟩
        case measure => simp [intOf]
    · have o1 := hO.cell 1 _ rfl
      clear hO
      cases q1 with
      | false =>
        go_wp2_with fail
        refine (HC1.out _ HB.out).mono ?_
        rintro e w1 ⟨rfl, hb1⟩
        go_wp2
        go_ret
        exact ⟨ret_bool (by rw [E.out]; simp), HB.out.trans (hb1.mono HB.out.size)⟩
      | true =>
        go_wp2_with fail
        refine (HC1.out _ HB.out).mono ?_
        rintro e w1 ⟨rfl, hb1⟩
        go_wp2
        go_roundw
        case rel => exact ⟨2, rfl, (by simp), (by obtain ⟨t, h⟩ := HO.out; exact ⟨t, h.below hb1⟩), HB.out.trans (hb1.mono HB.out.size)⟩
        case measure => simp [intOf]
    · have o2 := hO.cell 2 _ rfl
      clear hO
      cases q2 with
      | false =>
        go_wp2_with fail
        refine (HC2.out _ HB.out).mono ?_
        rintro e w1 ⟨rfl, hb1⟩
        go_wp2
        go_ret
        exact ⟨ret_bool (by rw [E.out]; simp), HB.out.trans (hb1.mono HB.out.size)⟩
      | true =>
        go_wp2_with fail
        refine (HC2.out _ HB.out).mono ?_
        rintro e w1 ⟨rfl, hb1⟩
        go_wp2
        go_roundw
        case rel => exact ⟨3, rfl, (by simp), (by obtain ⟨t, h⟩ := HO.out; exact ⟨t, h.below hb1⟩), HB.out.trans (hb1.mono HB.out.size)⟩
        case measure => simp [intOf]
    · clear hO
      go_wp2
      go_ret
      exact ⟨ret_bool (by rw [E.out]; simp), HB.out⟩
end Go.Proofs.YtdnodaoeflbfkaaGreat
