/- Texts of one claim, joined: each in its own section, in build order. -/
import Derived.Test.YtdnodaoeflbfkaaJ4
import Derived.Test.YtdnodaoeflbfkaaJ2
import Derived.Test.YtdnodaoeflbfkaaJ3
import Derived.Test.YtdnodaoeflbfkaaJ1
import Derived.Deep.AppendLies
import Derived.WideShapes
import Derived.WalkKit
import Derived.Deep.RegionLaw
import Derived.Shelf.SlicesQ.Load
import Derived.OwnWalk
import Derived.Deep.MidRow
import Derived.Laws.Rows
import Derived.RegionTactic
import Derived.Laws.IdiomCopy
import Derived.Laws.OwnMore
import Derived.Maps.AppendAt
import Derived.Deep.RegionHeld3
import Derived.Deep.AppendSrc
/- spec.Divide. -/
namespace Go.Proofs.Ytdnodaoeflbfkaa
open Go.RowKit Go.BigFrame
set_option linter.unusedVariables false
theorem rowIs_drewN {w : World} {b : Nat} {t : TypeId} {n : Nat} {f : Nat → Value} (h : w.rowIs b t n f) (k : Nat) : (w.drewN k).rowIs b t n f := rowIs_below h (below_drewN (Below.refl _ _) k)
theorem uM_ofInts {w : World} {lo hi b : Nat} : ∀ (l : List Int) (o : Nat), (∀ j (h : j < l.length), w.cell? ⟨b, o + j, none⟩ = some (.int .i64 (l[j]'h))) → uM w lo hi (ofInts l) b o
  | [], o, _ => trivial
  | z :: r, o, h => ⟨h 0 (by simp), uM_ofInts r (o + 1) (fun j hj => by
      have := h (j + 1) (by simpa using hj)
      rw [show o + (j + 1) = o + 1 + j by omega] at this
      simpa using this)⟩
def ofFn (n : Nat) (f : Nat → Int) : List Int := (List.range n).map f
theorem ofFn_len (n : Nat) (f : Nat → Int) : (ofFn n f).length = n := by unfold ofFn; simp
theorem ofFn_get (n : Nat) (f : Nat → Int) (j : Nat) (h : j < (ofFn n f).length) : (ofFn n f)[j]'h = f j := by simp [ofFn]
theorem rowIs_uS {w : World} {lo hi b n : Nat} {t : TypeId} {f : Nat → Int} (h : w.rowIs b t n (fun j => .int .i64 (f j))) (h1 : lo ≤ b) (h2 : b < hi) : uS w lo hi 1 n (ofInts (ofFn n f)) (.slice (some ⟨b, 0, none⟩) n n) := by
  refine ⟨_, _, rfl, ⟨Nat.le_refl _, fun e => (by cases e), by decide, by rw [ofInts_len, ofFn_len, Nat.mul_one]⟩, fun _ => ⟨b, 0, rfl, h1, h2, ?_⟩⟩
  refine uM_ofInts _ _ (fun j hj => ?_)
  rw [ofFn_get, Nat.zero_add]
  exact h.cell (by rw [ofFn_len] at hj; exact hj)
/-- what is divided -/
noncomputable def divL (n : Int) (ws cs : List Int) : List Int := ofFn ws.length (divF ws.length (gI ws) (gI cs) n.toNat n (fun _ => 0))
theorem gI_nn {ws : List Int} (h : ∀ i, i < ws.length → 0 ≤ gI ws i) : ∀ i, 0 ≤ gI ws i := fun i => by
  by_cases hi : i < ws.length
  · exact h i hi
  · unfold gI; rw [List.getD_eq_getElem?_getD, List.getElem?_eq_none (by omega)]; exact Int.le_refl _
/-- the numbers are small, and few -/
theorem div_small {n : Int} {ws cs z : List Int} (hz : (¬ rightP n ws cs → z = []) ∧ (rightP n ws cs → z = divL n ws cs)) : (∀ x ∈ z, inK .i64 x) ∧ z.length ≤ 64 := by
  by_cases h : rightP n ws cs
  · rw [hz.2 h]
    unfold rightP at h
    refine ⟨fun x hx => ?_, by unfold divL; rw [ofFn_len]; exact h.1.2.1⟩
    unfold divL ofFn at hx
    obtain ⟨i, hi, rfl⟩ := List.mem_map.1 hx
    have hi' : i < ws.length := by simpa using hi
    have hb := divF_bd (L := ws.length) (w := gI ws) (c := gI cs) (gI_nn (fun i hi => (h.2 i hi).1.1)) n.toNat n (fun _ => 0) (fun j hj => ⟨Int.le_refl _, (h.2 j hj).2.1⟩) i hi'
    have hc := h.2 i hi'
    have h1 : -9223372036854775808 ≤ divF ws.length (gI ws) (gI cs) n.toNat n (fun _ => 0) i ∧ divF ws.length (gI ws) (gI cs) n.toNat n (fun _ => 0) i ≤ 9223372036854775807 := by omega
    exact h1
  · rw [hz.1 h]
    exact ⟨fun x hx => (by cases hx), by simp⟩
theorem Try.infoUBool : (Try.prog.info? 4).map (fun i => (i.zero, i.size, i.bytes)) = some (some (.bool false), 1, 1) := by kernel_rfl
set_option maxRecDepth 20000 in
set_option maxHeartbeats 6400000 in
theorem sDivide_any (n : Int) (k1 k2 : Nat) (c1 c2 : UD) (v1 v2 : Value) (lo hi lo' hi' : Nat) (w : World) (ht1 : tyS 1 k1 c1 1) (ht2 : tyS 1 k2 c2 1) (hx1 : uS w lo hi 1 k1 c1 v1) (hx2 : uS w lo' hi' 1 k2 c2 v2) (z : List Int) (hz : (¬ rightP n (intL c1) (intL c2) → z = []) ∧ (rightP n (intL c1) (intL c2) → z = divL n (intL c1) (intL c2))) :
    Calls Try.prog 181 #[.int .i64 n, v1, v2] w fun e w' => ∃ c, e = .returned c ∧ uS w' 0 w'.heap.size 1 z.length (ofInts z) c ∧ Below w.heap.size w w' := by
  obtain ⟨r, hr⟩ := bool_iff (rightP n (intL c1) (intL c2))
  have HR : Hid (∀ wx, Below w.heap.size w wx → Calls Try.prog 218 #[.int .i64 n, v1, v2] wx fun e w' => e = .returned (.bool r) ∧ w' = wx) := fun wx hb => l6Right_any n k1 k2 c1 c2 v1 v2 lo hi lo' hi' wx r ht1 ht2 (hx1.below hb) (hx2.below hb) hr
  obtain ⟨a1, p1, rfl, hy1⟩ := hx1
  obtain ⟨a2, p2, rfl, hy2⟩ := hx2
  have H1 : Hid (uS w lo hi 1 k1 c1 (.slice a1 k1 p1)) := ⟨_, _, rfl, hy1⟩
  have H2 : Hid (uS w lo' hi' 1 k2 c2 (.slice a2 k2 p2)) := ⟨_, _, rfl, hy2⟩
  have T1 := uhide ht1
  have T2 := uhide ht2
  have hl1 := intL_len ht1
  have hl2 := intL_len ht2
  have HA : Hid (∀ o, Below w.heap.size w (w.alloc o)) := fun o => (Below.refl _ _).alloc (Nat.le_refl _) _
  cases r
  · have hz1 := hz.1 (fun h => by have := hr.2 h; cases this)
    subst hz1
    clear hy1 hy2 ht1 ht2 hl1 hl2 hr H1 H2 T1 T2 hz
    go_enter Try.func181, Try.ntmps181
    go_wp2_with fail
    refine (HR.out _ (by first | exact Below.refl _ _ | exact HA.out _)).mono ?_
    rintro e w1 ⟨rfl, rfl⟩
    go_wp2
    go_ret
    exact ⟨_, rfl, ⟨_, _, rfl, ⟨Nat.zero_le _, fun e => (by cases e), by decide, rfl⟩, fun h => (by cases h)⟩, by first | exact Below.refl _ _ | exact HA.out _⟩
  have hrp := hr.1 rfl
  have hz1 := hz.2 hrp
  unfold divL at hz1
  rw [hl1] at hz1
  unfold rightP at hrp
  rw [hl1, hl2] at hrp
  obtain ⟨⟨hn, h64, hk⟩, hg⟩ := hrp
  have HG : Hid (∀ i, i < k1 → goodAt (intL c1) (intL c2) i) := hg
  subst hk
  have HZ := uhide hz1
  have HWN : Hid (∀ i, 0 ≤ gI (intL c1) i) := fun i => by
    by_cases h : i < k1
    · exact (HG.out i h).1.1
    · unfold gI; rw [List.getD_eq_getElem?_getD, List.getElem?_eq_none (by omega)]; exact Int.le_refl _
  clear hz hz1 hr hg hl1 hl2 hy1 hy2 ht1 ht2
  have hmk := run_make_row' (P := Try.prog) 79 3 (.int .i64 0) 8 Try.underlying79 Try.infoDInt rfl .i64 .i64 k1 (by omega) (by omega)
  go_enter Try.func181, Try.ntmps181
  go_wp2_with fail
  refine (HR.out _ (by first | exact Below.refl _ _ | exact HA.out _)).mono ?_
  rintro e w1 ⟨rfl, rfl⟩
  clear HR
  go_wp2
  have R0 : Hid (World.rowIs ((w.alloc (.cells #[] 3)).alloc (.cells (madeCells #[.int .i64 0] k1) 3)) (w.heap.size + 1) 3 k1 (fun j => .int .i64 ((fun _ => 0 : Nat → Int) j))) := by
    have h := (World.rowIs_made (w.alloc (.cells #[] 3)) (.int .i64 0) k1 3)
    have e : (w.alloc (.cells #[] 3)).heap.size = w.heap.size + 1 := by simp
    rw [e] at h
    exact h
  have HB0 : Hid (Below w.heap.size w ((w.alloc (.cells #[] 3)).alloc (.cells (madeCells #[.int .i64 0] k1) 3))) := ((Below.refl _ _).alloc (Nat.le_refl _) _).alloc (by simp) _
  have HD : Hid (divF k1 (gI (intL c1)) (gI (intL c2)) n.toNat n (fun _ => 0) = divF k1 (gI (intL c1)) (gI (intL c2)) n.toNat n (fun _ => 0)) := rfl
  generalize hRES : divF k1 (gI (intL c1)) (gI (intL c2)) n.toNat n (fun _ => 0) = RES at HZ
  have HD : Hid (divF k1 (gI (intL c1)) (gI (intL c2)) n.toNat n (fun _ => 0) = RES) := hRES
  have HC : Hid (∀ i, i < k1 → 0 ≤ (gI (intL c2)) i ∧ (gI (intL c2)) i ≤ 10000) := fun i hi => (HG.out i hi).2
  have HWB : Hid (∀ i, i < k1 → 0 ≤ (gI (intL c1)) i ∧ (gI (intL c1)) i ≤ 1000) := fun i hi => (HG.out i hi).1
  have HO0 : Hid (∀ i, i < k1 → 0 ≤ (fun _ => 0 : Nat → Int) i ∧ (fun _ => 0 : Nat → Int) i ≤ (gI (intL c2)) i) := fun i hi => ⟨Int.le_refl _, (HC.out i hi).1⟩
  clear hmk hRES
  go_loopw [0] (fun nn w2 => ∃ (f : Nat) (m : Int) (out : Nat → Int), nn = .int .i64 m ∧ 0 ≤ m ∧ m ≤ 10000 ∧ m.toNat ≤ f ∧ Hid (divF k1 (gI (intL c1)) (gI (intL c2)) f m out = RES) ∧ Hid (∀ i, i < k1 → 0 ≤ out i ∧ out i ≤ (gI (intL c2)) i) ∧ Hid (w2.rowIs (w.heap.size + 1) 3 k1 (fun j => .int .i64 (out j))) ∧ Hid (Below w.heap.size w w2)) (fun nn _ => (intOf nn).toNat)
  case atStart => exact ⟨n.toNat, n, fun _ => 0, rfl, hn.1, hn.2, Nat.le_refl _, HD, HO0, R0, HB0⟩
  case round =>
    clear R0 HB0 HD HO0
    obtain ⟨w2, rfl⟩ : ∃ w2, w2 = wr := ⟨_, rfl⟩
    obtain ⟨f, m, out, rfl, hm0, hm1, hf, HD, HO, R0, HB⟩ := hrel
    by_cases hmp : 0 < m
    · have hmk := run_make_row' (P := Try.prog) 289 4 (.bool false) 1 Try.underlying289 Try.infoUBool rfl .i64 .i64 k1 (by omega) (by omega)
      go_wp2
      have S0 : Hid (World.rowIs (w2.alloc (.cells (madeCells #[.bool false] k1) 4)) w2.heap.size 4 k1 (fun j => .bool (if j < 0 then openF k1 (gI (intL c1)) (gI (intL c2)) out j else false))) := (World.rowIs_made w2 (.bool false) k1 4).congr (fun i _ => by rw [if_neg (by omega)])
      have HBS : Hid (Below w2.heap.size w2 (w2.alloc (.cells (madeCells #[.bool false] k1) 4))) := (Below.refl _ _).alloc (Nat.le_refl _) _
      clear hmk
      have hg2 : w.heap.size + 1 < w2.heap.size := R0.out.lt
      go_loopw [9, 10] (fun s i w3 => ∃ (p : Nat), p ≤ k1 ∧ i = .int .i64 p ∧ s = .int .i64 (sumTo (onO (openF k1 (gI (intL c1)) (gI (intL c2)) out) (gI (intL c1))) p) ∧ Hid (w3.rowIs w2.heap.size 4 k1 (fun j => .bool (if j < p then openF k1 (gI (intL c1)) (gI (intL c2)) out j else false))) ∧ Hid (Below w2.heap.size w2 w3)) (fun _ i _ => k1 - (intOf i).toNat)
      case atStart => exact ⟨0, Nat.zero_le _, rfl, rfl, S0, HBS⟩
      case round =>
        clear S0 HBS
        obtain ⟨w3, rfl⟩ : ∃ w3, w3 = wr := ⟨_, rfl⟩
        obtain ⟨p, hp, rfl, rfl, S0, HBS⟩ := hrel
        have HB3 : Hid (Below w.heap.size w w3) := HB.out.trans (HBS.out.mono HB.out.size)
        have hsb := sumTo_bd (f := onO (openF k1 (gI (intL c1)) (gI (intL c2)) out) (gI (intL c1))) (m := 1000) (n := p) (fun i hi => by
          have := HWB.out i (by omega)
          unfold onO; split <;> omega) p (Nat.le_refl _)
        by_cases hpl : p < k1
        · obtain ⟨b1, off1, rfl, hb1, -⟩ := (H1.out.below HB3.out).cells (by omega)
          obtain ⟨b2, off2, rfl, hb2, -⟩ := (H2.out.below HB3.out).cells (by omega)
          have q1 := cell_int T1.out (H1.out.below HB3.out) p hpl
          have q2 := cell_int T2.out (H2.out.below HB3.out) p hpl
          have hb1l : b1 < w.heap.size := cell_lt (cell_int T1.out H1.out p hpl)
          have hb2l : b2 < w.heap.size := cell_lt (cell_int T2.out H2.out p hpl)
          have qo := (rowIs_below R0.out HBS.out).cell hpl
          have xs := S0.out.cell hpl
          have fs := S0.out.frozen p
          have hne : b1 ≠ w2.heap.size := by omega
          have hne' : b2 ≠ w2.heap.size := by omega
          have hne2 : w.heap.size + 1 ≠ w2.heap.size := by omega
          have HSS : Hid (∀ v, openF k1 (gI (intL c1)) (gI (intL c2)) out p = v → World.rowIs (w3.setCell ⟨w2.heap.size, p, none⟩ (.bool v)) w2.heap.size 4 k1 (fun j => .bool (if j < p + 1 then openF k1 (gI (intL c1)) (gI (intL c2)) out j else false))) := fun v hv => (S0.out.set p (.bool v)).congr (fun j _ => by
            by_cases e : j = p
            · subst e; rw [if_pos rfl, if_pos (by omega), hv]
            · rw [if_neg e]
              by_cases h : j < p
              · rw [if_pos h, if_pos (by omega)]
              · rw [if_neg h, if_neg (by omega)])
          have HOP : Hid (openF k1 (gI (intL c1)) (gI (intL c2)) out p = decide (p < k1 ∧ 0 < (gI (intL c1)) p ∧ out p < (gI (intL c2)) p)) := rfl
          have HSQ : Hid (sumTo (onO (openF k1 (gI (intL c1)) (gI (intL c2)) out) (gI (intL c1))) (p + 1) = sumTo (onO (openF k1 (gI (intL c1)) (gI (intL c2)) out) (gI (intL c1))) p + (if openF k1 (gI (intL c1)) (gI (intL c2)) out p = true then (gI (intL c1)) p else 0)) := rfl
          have HBQ : Hid (∀ v, Below w2.heap.size w2 (w3.setCell ⟨w2.heap.size, p, none⟩ v)) := fun v => HBS.out.setCell (by simp) v
          have hwp := HWB.out p hpl
          generalize sumTo (onO (openF k1 (gI (intL c1)) (gI (intL c2)) out) (gI (intL c1))) p = SP at *
          generalize (gI (intL c1)) p = X at *
          generalize (gI (intL c2)) p = Y at *
          generalize out p = Z at *
          generalize openF k1 (gI (intL c1)) (gI (intL c2)) out p = OP at *
          clear S0 R0 H1 H2 T1 T2 HC HWB HO HD HG HWN HZ
          by_cases hx : 0 < X
          rotate_left
          · have z0 : decide ((0 : Int) < X) = false := by rw [decide_eq_false_iff_not]; exact hx
            have hop : OP = false := by rw [HOP.out, decide_eq_false_iff_not]; exact fun h => hx h.2.1
            have SS := uhide (HSS.out false hop)
            have SQ := HSQ.out
            rw [hop, if_neg (by decide), Int.add_zero] at SQ
            have HSQ2 := uhide SQ
            have HBQ2 := uhide (HBQ.out (.bool false))
            clear HSS HSQ HBQ HOP SQ
            go_wp2
            go_region
            all_goals (
              go_wp2
              go_roundw
              case rel => exact ⟨p + 1, by omega, by go_num, by rw [HSQ2.out], rowIs_below SS.out (by repeat (first | with_reducible exact Below.refl _ _ | with_reducible refine Below.drew ?_ | with_reducible refine below_drewN ?_ _)), uhide (by repeat (first | with_reducible exact HBQ2.out | with_reducible refine Below.drew ?_ | with_reducible refine below_drewN ?_ _))⟩
              case measure => simp [intOf]; omega)
          by_cases hzy : Z < Y
          · have hop : OP = true := by rw [HOP.out, decide_eq_true_eq]; exact ⟨hpl, hx, hzy⟩
            have SS := uhide (HSS.out true hop)
            have SQ := HSQ.out
            rw [hop, if_pos rfl] at SQ
            have HSQ2 := uhide SQ
            have HBQ2 := uhide (HBQ.out (.bool true))
            clear HSS HSQ HBQ HOP SQ
            go_wp2
            go_region
            all_goals (
              go_wp2
              go_roundw
              case rel => exact ⟨p + 1, by omega, by go_num, by rw [HSQ2.out], rowIs_below SS.out (by repeat (first | with_reducible exact Below.refl _ _ | with_reducible refine Below.drew ?_ | with_reducible refine below_drewN ?_ _)), uhide (by repeat (first | with_reducible exact HBQ2.out | with_reducible refine Below.drew ?_ | with_reducible refine below_drewN ?_ _))⟩
              case measure => simp [intOf]; omega)
          · have z0 : decide (Z < Y) = false := by rw [decide_eq_false_iff_not]; exact hzy
            have hop : OP = false := by rw [HOP.out, decide_eq_false_iff_not]; exact fun h => hzy h.2.2
            have SS := uhide (HSS.out false hop)
            have SQ := HSQ.out
            rw [hop, if_neg (by decide), Int.add_zero] at SQ
            have HSQ2 := uhide SQ
            have HBQ2 := uhide (HBQ.out (.bool false))
            clear HSS HSQ HBQ HOP SQ
            go_wp2
            go_region
            all_goals (
              go_wp2
              go_roundw
              case rel => exact ⟨p + 1, by omega, by go_num, by rw [HSQ2.out], rowIs_below SS.out (by repeat (first | with_reducible exact Below.refl _ _ | with_reducible refine Below.drew ?_ | with_reducible refine below_drewN ?_ _)), uhide (by repeat (first | with_reducible exact HBQ2.out | with_reducible refine Below.drew ?_ | with_reducible refine below_drewN ?_ _))⟩
              case measure => simp [intOf]; omega)
        · have e : p = k1 := by omega
          subst e
          have HGA := fun hs => gets_all (L := p) (n := m) (w := (gI (intL c1))) (c := (gI (intL c2))) (out := out) hmp HWN.out HO.out hs
          have S1 : Hid (w3.rowIs w2.heap.size 4 p (fun j => .bool (openF p (gI (intL c1)) (gI (intL c2)) out j))) := S0.out.congr (fun j hj => by rw [if_pos hj])
          have HOS : sumTo (onO (openF p (gI (intL c1)) (gI (intL c2)) out) (gI (intL c1))) p = openS p (gI (intL c1)) (gI (intL c2)) out := rfl
          have hsw : openS p (gI (intL c1)) (gI (intL c2)) out ≤ 64000 := by omega
          have hsw0 : 0 ≤ openS p (gI (intL c1)) (gI (intL c2)) out := by omega
          have HSE : Hid (openS p (gI (intL c1)) (gI (intL c2)) out = sumTo (onO (openF p (gI (intL c1)) (gI (intL c2)) out) (gI (intL c1))) p) := rfl
          rw [HOS]
          by_cases hs : openS p (gI (intL c1)) (gI (intL c2)) out = 0
          · have z0 : (openS p (gI (intL c1)) (gI (intL c2)) out == 0) = true := by rw [beq_iff_eq]; exact hs
            have hres : RES = out := by rw [← HD.out]; exact divF_end (fun h => by omega)
            subst hres
            have R3 := uhide (rowIs_below R0.out HBS.out)
            generalize openS p (gI (intL c1)) (gI (intL c2)) RES = SS at *
            clear S0 S1 R0 H1 H2 T1 T2 HC HWB HO HD HG HWN HGA HSE HOS
            go_wp2
            go_ret
            exact ⟨_, rfl, by rw [HZ.out, ofFn_len]; exact rowIs_uS R3.out (Nat.zero_le _) R3.out.lt, HB3.out⟩
          · have z0 : (openS p (gI (intL c1)) (gI (intL c2)) out == 0) = false := by rw [beq_eq_false_iff_ne]; exact hs
            have hs1 : 0 < openS p (gI (intL c1)) (gI (intL c2)) out := by omega
            obtain ⟨hga, hgb, hgc⟩ := HGA hs1
            have HL := uhide (l6Wants_any m (openS p (gI (intL c1)) (gI (intL c2)) out) p c1 (.slice a1 p p1) lo hi w2.heap.size (openF p (gI (intL c1)) (gI (intL c2)) out) w3 T1.out (H1.out.below HB3.out) S1.out h64 ⟨hmp, hm1⟩ HWB.out ⟨hs1, hsw⟩ rfl)
            have HWT : Hid (∀ j, j < p → 0 ≤ wantsF p m (openS p (gI (intL c1)) (gI (intL c2)) out) (gI (intL c1)) (openF p (gI (intL c1)) (gI (intL c2)) out) j ∧ wantsF p m (openS p (gI (intL c1)) (gI (intL c2)) out) (gI (intL c1)) (openF p (gI (intL c1)) (gI (intL c2)) out) j ≤ m) := fun j hj => by
              have := wants_bd (L := p) (m := m) (O := openF p (gI (intL c1)) (gI (intL c2)) out) (w := (gI (intL c1))) (by omega) HWN.out hs1 rfl j
              exact ⟨this.1, this.2.1 hj⟩
            have HGD : Hid (∀ j, getsF p m (gI (intL c1)) (gI (intL c2)) out j = if (gI (intL c2)) j - out j < wantsF p m (openS p (gI (intL c1)) (gI (intL c2)) out) (gI (intL c1)) (openF p (gI (intL c1)) (gI (intL c2)) out) j then (gI (intL c2)) j - out j else wantsF p m (openS p (gI (intL c1)) (gI (intL c2)) out) (gI (intL c1)) (openF p (gI (intL c1)) (gI (intL c2)) out) j) := fun j => rfl
            have HGB := uhide hga
            have HD2 : Hid (∃ f', f = f' + 1 ∧ divF p (gI (intL c1)) (gI (intL c2)) f' (m - sumTo (getsF p m (gI (intL c1)) (gI (intL c2)) out) p) (fun i => out i + getsF p m (gI (intL c1)) (gI (intL c2)) out i) = RES) := by
              cases f with
              | zero => omega
              | succ f' => exact ⟨f', rfl, by rw [← HD.out]; exact (divF_go ⟨hmp, hs1⟩).symm⟩
            have R3 := uhide (rowIs_below R0.out HBS.out)
            have hsz : w2.heap.size ≤ w3.heap.size := HBS.out.size
            clear S0 S1 R0 HWB HD HGA HOS HSE hga
            go_wp2_with fail
            refine (HL.out).mono ?_
            rintro e w4 ⟨bW, rfl, hbW, hRW, hb4⟩
            have R4 := uhide (rowIs_below R3.out hb4)
            have RW4 : Hid (w4.rowIs bW 3 p (fun j => .int .i64 (if j < 0 then getsF p m (gI (intL c1)) (gI (intL c2)) out j else wantsF p m (openS p (gI (intL c1)) (gI (intL c2)) out) (gI (intL c1)) (openF p (gI (intL c1)) (gI (intL c2)) out) j))) := hRW.congr (fun j _ => by rw [if_neg (by omega)])
            have R40 : Hid (w4.rowIs (w.heap.size + 1) 3 p (fun j => .int .i64 (if j < 0 then out j + getsF p m (gI (intL c1)) (gI (intL c2)) out j else out j))) := R4.out.congr (fun j _ => by rw [if_neg (by omega)])
            have HB4 : Hid (Below w.heap.size w w4) := HB3.out.trans (hb4.mono HB3.out.size)
            clear hRW hb4 HL R3 R4 HWN
            generalize wantsF p m (openS p (gI (intL c1)) (gI (intL c2)) out) (gI (intL c1)) (openF p (gI (intL c1)) (gI (intL c2)) out) = WT at *
            generalize getsF p m (gI (intL c1)) (gI (intL c2)) out = G at *
            generalize openS p (gI (intL c1)) (gI (intL c2)) out = SS at *
            go_wp2
            go_loopw [0, 12] (fun nn i w5 => ∃ (j0 : Nat), j0 ≤ p ∧ i = .int .i64 j0 ∧ nn = .int .i64 (m - sumTo G j0) ∧ Hid (w5.rowIs (w.heap.size + 1) 3 p (fun j => .int .i64 (if j < j0 then out j + G j else out j))) ∧ Hid (w5.rowIs bW 3 p (fun j => .int .i64 (if j < j0 then G j else WT j))) ∧ Hid (Below w.heap.size w w5)) (fun _ i _ => p - (intOf i).toNat)
            case atStart => exact ⟨0, Nat.zero_le _, rfl, by simp [sumTo], R40, RW4, HB4⟩
            case round =>
              clear R40 RW4 HB4
              obtain ⟨w5, rfl⟩ : ∃ w5, w5 = wr := ⟨_, rfl⟩
              obtain ⟨j0, hj0, rfl, rfl, R0, RW, HB5⟩ := hrel
              by_cases hjl : j0 < p
              · obtain ⟨b2, off2, rfl, hb2, -⟩ := (H2.out.below HB5.out).cells (by omega)
                have hb2l : b2 < w.heap.size := cell_lt (cell_int T2.out H2.out j0 hjl)
                have q2 := cell_int T2.out (H2.out.below HB5.out) j0 hjl
                have xo := R0.out.cell hjl
                have fo := R0.out.frozen j0
                have xw := RW.out.cell hjl
                have fw := RW.out.frozen j0
                rw [if_neg (by omega)] at xo xw
                have hoj := HO.out j0 hjl
                have hcj := HC.out j0 hjl
                have hgj := HGB.out j0 hjl
                have hwj := HWT.out j0 hjl
                have hdj := HGD.out j0
                have hsj := sumTo_bd (f := G) (m := 10000) (n := p) (fun i hi => by
                  have := HGB.out i hi
                  have := HO.out i hi
                  have := HC.out i hi
                  omega) j0 hj0
                have HSQ : Hid (m - sumTo G (j0 + 1) = m - sumTo G j0 - G j0) := by
                  show _ = _
                  rw [sumTo_succ]; omega
                have RG : Hid (∀ (wx : World) (v : Value), v = .int .i64 (out j0 + G j0) → wx.rowIs (w.heap.size + 1) 3 p (fun j => .int .i64 (if j < j0 then out j + G j else out j)) → World.rowIs (wx.setCell ⟨w.heap.size + 1, j0, none⟩ v) (w.heap.size + 1) 3 p (fun j => .int .i64 (if j < j0 + 1 then out j + G j else out j))) := fun wx v hv h => (h.set j0 v).congr (fun j _ => by
                  by_cases e : j = j0
                  · subst e; rw [if_pos rfl, if_pos (by omega), hv]
                  · rw [if_neg e]
                    by_cases h : j < j0
                    · rw [if_pos h, if_pos (by omega)]
                    · rw [if_neg h, if_neg (by omega)])
                have RX : Hid (∀ (wx : World) (v : Value), v = .int .i64 (G j0) → wx.rowIs bW 3 p (fun j => .int .i64 (if j < j0 then G j else WT j)) → World.rowIs (wx.setCell ⟨bW, j0, none⟩ v) bW 3 p (fun j => .int .i64 (if j < j0 + 1 then G j else WT j))) := fun wx v hv h => (h.set j0 v).congr (fun j _ => by
                  by_cases e : j = j0
                  · subst e; rw [if_pos rfl, if_pos (by omega), hv]
                  · rw [if_neg e]
                    by_cases h : j < j0
                    · rw [if_pos h, if_pos (by omega)]
                    · rw [if_neg h, if_neg (by omega)])
                have RY : Hid (G j0 = WT j0 → w5.rowIs bW 3 p (fun j => .int .i64 (if j < j0 + 1 then G j else WT j))) := fun hv => RW.out.congr (fun j _ => by
                  by_cases e : j = j0
                  · subst e; rw [if_neg (by omega), if_pos (by omega), hv]
                  · by_cases h : j < j0
                    · rw [if_pos h, if_pos (by omega)]
                    · rw [if_neg h, if_neg (by omega)])
                have hn1 : bW ≠ w.heap.size + 1 := by omega
                have hn2 : b2 ≠ w.heap.size + 1 := by omega
                have hn3 : b2 ≠ bW := by omega
                generalize sumTo G j0 = SG at *
                generalize (gI (intL c2)) j0 = Y at *
                generalize hGz : G j0 = Gz at *
                generalize hWz : WT j0 = Wz at *
                generalize hOz : out j0 = Oz at *
                clear H1 H2 T1 T2 HC HO HD2 HG HZ HWT HGD HGB hGz hWz hOz
                by_cases hlt : Y - Oz < Wz
                · rw [if_pos hlt] at hdj
                  subst hdj
                  clear RY
                  go_wp2
                  go_quiet (fail)
                  go_wp2
                  go_region
                  all_goals (
                    go_wp2
                    go_region
                    all_goals (
                      go_wp2
                      go_roundw
                      case rel =>
                        exact ⟨j0 + 1, by omega, by go_num, by rw [HSQ.out], uhide (by
                          repeat (first
                            | with_reducible exact R0.out
                            | with_reducible refine World.rowIs.drew ?_
                            | with_reducible refine rowIs_drewN ?_ _
                            | with_reducible refine RG.out _ _ (by first | rfl | go_num | (congr 1; omega)) ?_
                            | with_reducible refine World.rowIs.setOther ?_ (by simp <;> omega) _)), uhide (by
                          repeat (first
                            | with_reducible exact RW.out
                            | with_reducible refine World.rowIs.drew ?_
                            | with_reducible refine rowIs_drewN ?_ _
                            | with_reducible refine RX.out _ _ (by first | rfl | go_num | (congr 1; omega)) ?_
                            | with_reducible refine World.rowIs.setOther ?_ (by simp <;> omega) _)), uhide (by
                          repeat (first
                            | with_reducible exact HB5.out
                            | with_reducible refine Below.drew ?_
                            | with_reducible refine below_drewN ?_ _
                            | with_reducible refine Below.setCell ?_ (by simp <;> omega) _))⟩
                      case measure => simp [intOf]; omega))
                · rw [if_neg hlt] at hdj
                  subst hdj
                  have RW1 := uhide (RY.out rfl)
                  have z0 : decide (Y - Oz < Gz) = false := by rw [decide_eq_false_iff_not]; exact hlt
                  clear RY RX RW
                  have RX : Hid (∀ (wx : World) (v : Value), False → True → World.rowIs (wx.setCell ⟨bW, j0, none⟩ v) bW 3 p (fun j => .int .i64 (if j < j0 + 1 then G j else WT j))) := fun _ _ h => h.elim
                  go_wp2
                  go_quiet (fail)
                  go_wp2
                  go_region
                  all_goals (
                    go_wp2
                    go_roundw
                    case rel =>
                      exact ⟨j0 + 1, by omega, by go_num, by rw [HSQ.out], uhide (by
                        repeat (first
                          | with_reducible exact R0.out
                          | with_reducible refine World.rowIs.drew ?_
                          | with_reducible refine rowIs_drewN ?_ _
                          | with_reducible refine RG.out _ _ (by first | rfl | go_num | (congr 1; omega)) ?_
                          | with_reducible refine World.rowIs.setOther ?_ (by simp <;> omega) _)), uhide (by
                        repeat (first
                          | with_reducible exact RW1.out
                          | with_reducible refine World.rowIs.drew ?_
                          | with_reducible refine rowIs_drewN ?_ _
                          | with_reducible refine RX.out _ _ (by first | rfl | go_num | (congr 1; omega)) ?_
                          | with_reducible refine World.rowIs.setOther ?_ (by simp <;> omega) _)), uhide (by
                        repeat (first
                          | with_reducible exact HB5.out
                          | with_reducible refine Below.drew ?_
                          | with_reducible refine below_drewN ?_ _
                          | with_reducible refine Below.setCell ?_ (by simp <;> omega) _))⟩
                    case measure => simp [intOf]; omega)
              · have e : j0 = p := by omega
                subst e
                obtain ⟨f', hf', hd⟩ := HD2.out
                subst hf'
                have HDn := uhide hd
                have HOn : Hid (∀ i, i < j0 → 0 ≤ (fun i => out i + G i : Nat → Int) i ∧ (fun i => out i + G i : Nat → Int) i ≤ (gI (intL c2)) i) := fun i hi => by
                  have := HGB.out i hi
                  have := HO.out i hi
                  show 0 ≤ out i + G i ∧ out i + G i ≤ _
                  omega
                have R0' : Hid (w5.rowIs (w.heap.size + 1) 3 j0 (fun j => .int .i64 ((fun i => out i + G i : Nat → Int) j))) := R0.out.congr (fun j hj => by rw [if_pos hj])
                clear HD2 hd R0 RW HGB HO HGD HWT H1 H2 T1 T2
                go_wp2
                go_roundw
                case rel => exact ⟨f', m - sumTo G j0, fun i => out i + G i, rfl, by omega, by omega, by omega, HDn, HOn, R0', HB5⟩
                case measure => simp [intOf]; omega
    · have hres : RES = out := by rw [← HD.out]; exact divF_end (fun h => hmp h.1)
      subst hres
      clear H1 H2 T1 T2 HC HWB HO HD HG HWN
      go_wp2
      go_ret
      exact ⟨_, rfl, by rw [HZ.out, ofFn_len]; exact rowIs_uS R0.out (Nat.zero_le _) R0.out.lt, HB.out⟩
end Go.Proofs.Ytdnodaoeflbfkaa
/- Islands and wants: what is asked of them, as plain functions. -/
namespace Go.Proofs.Ytdnodaoeflbfkaa
open Go.RowKit Go.BigFrame
set_option linter.unusedVariables false

/-- the names of a want's weights are in order, each weight is in its bounds -/
def wgK (l : List WgD) (i : Nat) : ByteArray := (l[i]?.getD (ByteArray.empty, 0)).1
def wgN (l : List WgD) (i : Nat) : Int := (l[i]?.getD (ByteArray.empty, 0)).2
theorem wgK_get {l : List WgD} {i : Nat} (h : i < l.length) : wgK l i = (l[i]'h).1 := by unfold wgK; rw [List.getElem?_eq_getElem h]; rfl
theorem wgN_get {l : List WgD} {i : Nat} (h : i < l.length) : wgN l i = (l[i]'h).2 := by unfold wgN; rw [List.getElem?_eq_getElem h]; rfl
def okW (l : List WgD) (i : Nat) : Prop := nameB (wgK l i) = true ∧ inB (wgN l i) 0 1000 = true ∧ (0 < i → ltS (wgK l (i - 1)) (wgK l i) = true)
def wgsB (l : List WgD) : Bool := decide (l.length ≤ 12 ∧ ∀ i, i < l.length → nameB (wgK l i) = true ∧ inB (wgN l i) 0 1000 = true ∧ (0 < i → ltS (wgK l (i - 1)) (wgK l i) = true))
theorem wgsB_bad {l : List WgD} {k : Nat} (hk : k < l.length) (h : ¬ okW l k) : wgsB l = false := by
  unfold wgsB; rw [decide_eq_false_iff_not]; exact fun g => h (g.2 k hk)
theorem wgsB_end {l : List WgD} (h : ∀ i, i < l.length → okW l i) : wgsB l = decide (l.length ≤ 12) := by
  unfold wgsB; rw [decide_eq_decide]; exact ⟨fun g => g.1, fun g => ⟨g, h⟩⟩
theorem okW_succ {l : List WgD} {k : Nat} (h : ∀ i, i < k → okW l i) (hk : okW l k) : ∀ i, i < k + 1 → okW l i := by
  intro i hi
  by_cases e : i = k
  · rw [e]; exact hk
  · exact h i (by omega)
theorem okW_cases (l : List WgD) (k : Nat) :
    (nameB (wgK l k) = false ∧ Hid (¬ okW l k)) ∨ (nameB (wgK l k) = true ∧ inB (wgN l k) 0 1000 = false ∧ Hid (¬ okW l k)) ∨
    (nameB (wgK l k) = true ∧ inB (wgN l k) 0 1000 = true ∧ Hid (k = 0) ∧ Hid (okW l k)) ∨
    (nameB (wgK l k) = true ∧ inB (wgN l k) 0 1000 = true ∧ 0 < k ∧ Op.bytesLess (wgK l (k - 1)).toList (wgK l k).toList = true ∧ Hid (okW l k)) ∨
    (nameB (wgK l k) = true ∧ inB (wgN l k) 0 1000 = true ∧ 0 < k ∧ Op.bytesLess (wgK l (k - 1)).toList (wgK l k).toList = false ∧ Hid (¬ okW l k)) := by
  have hd : okW l k ↔ nameB (wgK l k) = true ∧ inB (wgN l k) 0 1000 = true ∧ (0 < k → Op.bytesLess (wgK l (k - 1)).toList (wgK l k).toList = true) := Iff.rfl
  unfold Hid
  rw [hd]
  rcases Bool.eq_false_or_eq_true (nameB (wgK l k)) with h1 | h1
  · rcases Bool.eq_false_or_eq_true (inB (wgN l k) 0 1000) with h2 | h2
    · by_cases h3 : 0 < k
      · rcases Bool.eq_false_or_eq_true (Op.bytesLess (wgK l (k - 1)).toList (wgK l k).toList) with h4 | h4
        · exact .inr (.inr (.inr (.inl ⟨h1, h2, h3, h4, h1, h2, fun _ => h4⟩)))
        · refine .inr (.inr (.inr (.inr ⟨h1, h2, h3, h4, fun g => ?_⟩)))
          have := g.2.2 h3
          rw [h4] at this; cases this
      · exact .inr (.inr (.inl ⟨h1, h2, by omega, h1, h2, fun h => absurd h h3⟩))
    · exact .inr (.inl ⟨h1, h2, fun g => by rw [h2] at g; cases g.2.1⟩)
  · exact .inl ⟨h1, fun g => by rw [h1] at g; cases g.1⟩
theorem wgsB_iff {l : List WgD} : wgsB l = true ↔ l.length ≤ 12 ∧ (∀ x ∈ l, inB x.2 0 1000 = true) ∧ valsB (l.map Prod.fst) = true := by
  have hs : ∀ i, i < l.length → ssAt (l.map Prod.fst) i = wgK l i := fun i hi => by rw [ssAt_get (by simpa using hi), wgK_get hi]; simp
  unfold wgsB valsB
  rw [decide_eq_true_eq, decide_eq_true_eq]
  constructor
  · rintro ⟨h1, h2⟩
    refine ⟨h1, fun x hx => ?_, fun i hi => ?_⟩
    · obtain ⟨i, hi, rfl⟩ := List.getElem_of_mem hx
      have := (h2 i hi).2.1
      rwa [wgN_get hi] at this
    · have hi' : i < l.length := by simpa using hi
      have := h2 i hi'
      refine ⟨by rw [hs i hi']; exact this.1, fun h => ?_⟩
      rw [hs i hi', hs (i - 1) (by omega)]
      exact this.2.2 h
  · rintro ⟨h1, h2, h3⟩
    refine ⟨h1, fun i hi => ?_⟩
    have := h3 i (by simpa using hi)
    rw [hs i hi] at this
    refine ⟨this.1, by rw [wgN_get hi]; exact h2 _ (List.getElem_mem hi), fun h => ?_⟩
    have := this.2 h
    rwa [hs (i - 1) (by omega)] at this
/-- at most so many names, in order -/
def nmsB (ss : List ByteArray) (m : Nat) : Bool := valsB ss && decide (ss.length ≤ m)
def islB (I : IsD) : Bool := nameB I.1 && labelsB I.2.1 && nmsB I.2.2.1 4 && inB I.2.2.2 0 10000
def wanB (W : WaD) : Bool := inB W.1 0 10000 && selB W.2.1 && nmsB W.2.2.1 8 && wgsB W.2.2.2
def bornB (bears spots : List ByteArray) : Bool := spots.all (amongB bears)
def eligB (W : WaD) (I : IsD) : Bool := wanB W && islB I && matchB W.2.1 I.2.1 && bornB W.2.2.1 I.2.2.1
def weighI : List WgD → ByteArray → Int
  | [], _ => 1
  | x :: r, s => if x.1 = s then x.2 else weighI r s
theorem weighI_hit {s : ByteArray} : ∀ {l : List WgD} {k : Nat}, (∀ j (h : j < l.length), j < k → (l[j]'h).1 ≠ s) → ∀ hk : k < l.length, (l[k]'hk).1 = s → weighI l s = (l[k]'hk).2
  | x :: r, 0, _, _, he => by unfold weighI; rw [if_pos (show x.1 = s from he)]; rfl
  | x :: r, k + 1, h, hk, he => by
    unfold weighI
    rw [if_neg (show ¬ x.1 = s from h 0 (by simp) (by omega))]
    exact weighI_hit (fun j hj hjk => h (j + 1) (by simp; omega) (by omega)) (by simpa using hk) he
theorem weighI_miss {s : ByteArray} : ∀ {l : List WgD}, (∀ j (h : j < l.length), (l[j]'h).1 ≠ s) → weighI l s = 1
  | [], _ => rfl
  | x :: r, h => by
    unfold weighI
    rw [if_neg (show ¬ x.1 = s from h 0 (by simp))]
    exact weighI_miss (fun j hj => h (j + 1) (by simp; omega))
theorem weighI_in {s : ByteArray} : ∀ {l : List WgD}, (∀ x ∈ l, 0 ≤ x.2 ∧ x.2 ≤ 1000) → 0 ≤ weighI l s ∧ weighI l s ≤ 1000
  | [], _ => by unfold weighI; exact ⟨by decide, by decide⟩
  | x :: r, h => by
    unfold weighI
    split
    · exact h x (.head _)
    · exact weighI_in (fun y hy => h y (.tail _ hy))
theorem weighI_i64 {s : ByteArray} : ∀ {l : List WgD}, (∀ x ∈ l, inK .i64 x.2) → inK .i64 (weighI l s)
  | [], _ => by unfold weighI; exact ⟨by decide, by decide⟩
  | x :: r, h => by
    unfold weighI
    split
    · exact h x (.head _)
    · exact weighI_i64 (fun y hy => h y (.tail _ hy))
theorem inB_iff {x a b : Int} : inB x a b = true ↔ a ≤ x ∧ x ≤ b := by unfold inB; rw [decide_eq_true_eq]
/-- the weight of an island in a want -/
def wOf (W : WaD) (I : IsD) : Int := if eligB W I = true then weighI W.2.2.2 I.1 else 0
def wsOf (W : WaD) (L : List IsD) : List Int := L.map (wOf W)
theorem wanB_wgs {W : WaD} (h : wanB W = true) : ∀ x ∈ W.2.2.2, 0 ≤ x.2 ∧ x.2 ≤ 1000 := fun x hx => by
  unfold wanB at h
  simp only [Bool.and_eq_true] at h
  exact inB_iff.1 ((wgsB_iff.1 h.2).2.1 x hx)
theorem wOf_in {W : WaD} (h : wanB W = true) (I : IsD) : 0 ≤ wOf W I ∧ wOf W I ≤ 1000 := by
  unfold wOf
  split
  · exact weighI_in (wanB_wgs h)
  · exact ⟨by decide, by decide⟩
open Classical in
/-- what numbers are divided into, none where they are not right -/
noncomputable def dvdL (n : Int) (ws cs : List Int) : List Int := if rightP n ws cs then divL n ws cs else []
theorem dvdL_says (n : Int) (ws cs : List Int) : (¬ rightP n ws cs → dvdL n ws cs = []) ∧ (rightP n ws cs → dvdL n ws cs = divL n ws cs) := ⟨fun h => by unfold dvdL; rw [if_neg h], fun h => by unfold dvdL; rw [if_pos h]⟩
def shrR (W : WaD) (L : List IsD) : Bool := wanB W && decide (L.length ≤ 12) && L.all islB
noncomputable def shrL (W : WaD) (L : List IsD) (left : List Int) : List Int := if shrR W L = true then dvdL W.1 (wsOf W L) left else []
theorem shrL_len {W : WaD} {L : List IsD} {left : List Int} (h : left.length ≠ L.length) : shrL W L left = [] := by
  unfold shrL
  split
  · refine (dvdL_says _ _ _).1 (fun g => h ?_)
    have := g.1.2.2
    simp [wsOf] at this
    omega
  · rfl
end Go.Proofs.Ytdnodaoeflbfkaa
/- What FnFit asks, of the plain functions. -/
namespace Go.Proofs.Ytdnodaoeflbfkaa
open Go.RowKit Go.BigFrame
set_option linter.unusedVariables false

theorem selB_nil : selB [] = true := by unfold selB; rw [decide_eq_true_eq]; exact ⟨by decide, fun t ht => by cases ht⟩
theorem valsB_nil : valsB [] = true := by unfold valsB; rw [decide_eq_true_eq]; exact fun i hi => by cases hi
theorem wanB_parts {W : WaD} (h : wanB W = true) : inB W.1 0 10000 = true ∧ selB W.2.1 = true ∧ nmsB W.2.2.1 8 = true ∧ wgsB W.2.2.2 = true := by
  unfold wanB at h
  simp only [Bool.and_eq_true] at h
  exact ⟨h.1.1.1, h.1.1.2, h.1.2, h.2⟩
theorem islB_parts {I : IsD} (h : islB I = true) : nameB I.1 = true ∧ labelsB I.2.1 = true ∧ nmsB I.2.2.1 4 = true ∧ inB I.2.2.2 0 10000 = true := by
  unfold islB at h
  simp only [Bool.and_eq_true] at h
  exact ⟨h.1.1.1, h.1.1.2, h.1.2, h.2⟩
/-- without spots and with nothing selected it is eligible -/
theorem fit_open {W : WaD} {I : IsD} (hw : wanB W = true) (hi : islB I = true) : eligB (W.1, [], W.2.2.1, W.2.2.2) (I.1, I.2.1, [], I.2.2.2) = true := by
  obtain ⟨h1, h2, h3, h4⟩ := wanB_parts hw
  obtain ⟨g1, g2, g3, g4⟩ := islB_parts hi
  have e1 : wanB (W.1, [], W.2.2.1, W.2.2.2) = true := by show (inB W.1 0 10000 && selB [] && nmsB W.2.2.1 8 && wgsB W.2.2.2) = true; rw [h1, selB_nil, h3, h4]; rfl
  have e2 : islB (I.1, I.2.1, [], I.2.2.2) = true := by show (nameB I.1 && labelsB I.2.1 && (valsB [] && decide (0 ≤ 4)) && inB I.2.2.2 0 10000) = true; rw [g1, g2, valsB_nil, g4]; rfl
  show (wanB (W.1, [], W.2.2.1, W.2.2.2) && islB (I.1, I.2.1, [], I.2.2.2) && matchB [] I.2.1 && bornB W.2.2.1 []) = true
  rw [e1, e2]
  show (true && (selB [] && labelsB I.2.1 && true) && true) = true
  rw [selB_nil, g2]; rfl
/-- a spot that is not borne forbids it -/
theorem fit_marked {W : WaD} {I : IsD} {s : ByteArray} (hs : s ∉ W.2.2.1) : eligB W (I.1, I.2.1, [s], I.2.2.2) = false := by
  have hb : bornB W.2.2.1 [s] = false := by
    show (amongB W.2.2.1 s && true) = false
    rw [Bool.and_true, Bool.eq_false_iff]
    exact fun h => hs (amongB_iff.1 h)
  show (wanB W && islB (I.1, I.2.1, [s], I.2.2.2) && matchB W.2.1 I.2.1 && bornB W.2.2.1 [s]) = false
  rw [hb, Bool.and_false]
theorem fit_match {W : WaD} {I : IsD} (h : eligB W I = true) : matchB W.2.1 I.2.1 = true := by
  unfold eligB at h
  simp only [Bool.and_eq_true] at h
  exact h.1.2
theorem fit_not {W : WaD} {I : IsD} (h : ¬ (wanB W = true ∧ islB I = true)) : eligB W I = false := by
  rw [Bool.eq_false_iff]
  intro g
  unfold eligB at g
  simp only [Bool.and_eq_true] at g
  exact h g.1.1
end Go.Proofs.Ytdnodaoeflbfkaa
/- Wants and islands that are drawn: how they lie, in rows of the call's own. -/
namespace Go.Proofs.Ytdnodaoeflbfkaa
open Go.RowKit Go.BigFrame
set_option linter.unusedVariables false

def keptF (lo : Nat) (w w' : World) : Prop := w.heap.size ≤ w'.heap.size ∧ ∀ k, lo ≤ k → k < w.heap.size → w'.heap[k]? = w.heap[k]?
theorem keptF.out {lo d : Nat} {w w' : World} (h : Out d (d + 1) w w') (hd : d < lo) : keptF lo w w' := ⟨h.size, fun k hk hs => h.block k hs (.inr (by omega))⟩
theorem keptF.below {lo : Nat} {w w' : World} (h : Below w.heap.size w w') : keptF lo w w' := ⟨h.size, fun k hk hs => h.block k hs⟩
theorem keptF.trans {lo : Nat} {a b c : World} (h : keptF lo a b) (k : keptF lo b c) : keptF lo a c := ⟨Nat.le_trans h.1 k.1, fun i hi hs => (k.2 i hi (Nat.lt_of_lt_of_le hs h.1)).trans (h.2 i hi hs)⟩
theorem keptF.setCell {lo : Nat} {a w : World} (h : keptF lo a w) {p : Addr} (hp : p.block < lo) (v : Value) : keptF lo a (w.setCell p v) := ⟨by have := h.1; simpa [World.setCell] using this, fun i hi hs => (Below.heap_setCell _ _ _ _ (by omega)).trans (h.2 i hi hs)⟩
theorem owns_kept {w w' : World} {lo n : Nat} {e : TypeId} {size : Nat} {v : Value} {xs : List Value} (h : w.ownsRow lo e size v n xs) (hk : keptF lo w w') : w'.ownsRow lo e size v n xs := uowns_frame h (fun x hx => hk.2 x (ublk_lt h x hx).1 (ublk_lt h x hx).2)
theorem ownTs_kept {w w' : World} {lo g cap : Nat} {ts : List TD} (h : ownTs w lo g cap ts) (hk : keptF lo w w') : ownTs w' lo g cap ts := by
  obtain ⟨xs, V, h1, h2, h3⟩ := h
  exact ⟨xs, V, owns_kept h1 hk, fun j hj => ⟨(h2 j hj).1, (h2 j hj).2.1, (h2 j hj).2.2.1, owns_kept (h2 j hj).2.2.2.1 hk, (h2 j hj).2.2.2.2⟩, h3⟩
def selO (w : World) (lo : Nat) (a1 : Option Addr) (p1 : Nat) (T : List TD) : Prop := (a1 = none ∧ p1 = 0 ∧ T = []) ∨ ∃ g, a1 = some ⟨g, 0, none⟩ ∧ ownTs w lo g p1 T
theorem selO.kept {w w' : World} {lo p1 : Nat} {a1 : Option Addr} {T : List TD} (h : selO w lo a1 p1 T) (hk : keptF lo w w') : selO w' lo a1 p1 T := by
  rcases h with h | ⟨g, e, h⟩
  · exact .inl h
  · exact .inr ⟨g, e, ownTs_kept h hk⟩
theorem selO.row {w : World} {lo p1 : Nat} {a1 : Option Addr} {T : List TD} (h : selO w lo a1 p1 T) : termsOf w a1 T := by
  rcases h with ⟨e, -, e'⟩ | ⟨g, e, h⟩
  · subst e'; exact fun h => by cases h
  · subst e; exact h.row
def wgFlat (L : List WgD) : List Value := L.flatMap fun x => [.string x.1, .int .i64 x.2]
theorem wgFlat_len (L : List WgD) : (wgFlat L).length = L.length * 2 := by
  induction L with
  | nil => rfl
  | cons p r ih => simp only [wgFlat, List.flatMap_cons, List.length_append, List.length_cons, List.length_nil] at *; omega
theorem wgFlat_get : ∀ (L : List WgD) (i : Nat) (h : i < L.length), (wgFlat L)[i * 2]? = some (.string (L[i]'h).1) ∧ (wgFlat L)[i * 2 + 1]? = some (.int .i64 (L[i]'h).2)
  | x :: r, 0, _ => ⟨rfl, rfl⟩
  | x :: r, i + 1, h => by
    have ih := wgFlat_get r i (by simpa using h)
    have e : wgFlat (x :: r) = [.string x.1, .int .i64 x.2] ++ wgFlat r := rfl
    rw [e, show (i + 1) * 2 = i * 2 + 2 by omega, show i * 2 + 2 + 1 = (i * 2 + 1) + 2 by omega]
    exact ⟨by rw [List.getElem?_append_right (by simp)]; simpa using ih.1, by rw [List.getElem?_append_right (by simp)]; simpa using ih.2⟩
theorem wgs_own {w : World} {lo n p : Nat} {e : TypeId} {a : Option Addr} {L : List WgD} (hn : n = L.length) (h : w.ownsRow lo e 2 (.slice a n p) n (wgFlat L)) : wgsOf w a L := by
  intro hp
  rcases h.2 with ⟨_, h0⟩ | ⟨g, cap, cur, hv, _⟩
  · omega
  · cases hv
    refine ⟨g, 0, rfl, fun i hi => ?_⟩
    have hg := wgFlat_get L i hi
    rw [Nat.zero_add]
    exact ⟨(h.cellAt _ (by omega)).trans hg.1, (h.cellAt _ (by omega)).trans hg.2⟩
structure drW (w : World) (lo : Nat) (W : WaD) (a1 a2 a3 : Option Addr) (p1 p2 p3 : Nat) : Prop where
  sel : selO w lo a1 p1 W.2.1
  bears : w.ownsRow lo 9 1 (.slice a2 W.2.2.1.length p2) W.2.2.1.length (strVs W.2.2.1)
  weighs : w.ownsRow lo 110 2 (.slice a3 W.2.2.2.length p3) W.2.2.2.length (wgFlat W.2.2.2)
theorem drW.kept {w w' : World} {lo : Nat} {W : WaD} {a1 a2 a3 : Option Addr} {p1 p2 p3 : Nat} (h : drW w lo W a1 a2 a3 p1 p2 p3) (hk : keptF lo w w') : drW w' lo W a1 a2 a3 p1 p2 p3 := ⟨h.sel.kept hk, owns_kept h.bears hk, owns_kept h.weighs hk⟩
theorem drW.hand {w : World} {lo : Nat} {W : WaD} {a1 a2 a3 : Option Addr} {p1 p2 p3 : Nat} (h : drW w lo W a1 a2 a3 p1 p2 p3) : waH w W [.int .i64 W.1, .slice a1 W.2.1.length p1, .slice a2 W.2.2.1.length p2, .slice a3 W.2.2.2.length p3] := by
  refine ⟨_, _, _, rfl, ⟨_, _, rfl, h.sel.row⟩, ⟨_, _, rfl, ?_⟩, _, _, rfl, wgs_own rfl h.weighs⟩
  obtain ⟨a, cap, e, h1, _⟩ := strOf_own h.bears rfl
  cases e
  exact h1
/-- a want that is drawn, right or not -/
def goodW (W : WaD) : Prop := inK .i64 W.1 ∧ (W.2.1.length ≤ 9 ∧ goodAs W.2.1) ∧ (W.2.2.1 = [] ∨ W.2.2.1 = [⟨#[103, 111, 108, 100]⟩, ⟨#[116, 105, 101, 114]⟩] ∨ W.2.2.1 = [⟨#[98]⟩, ⟨#[97]⟩]) ∧ W.2.2.2.length ≤ 5 ∧ ∀ x ∈ W.2.2.2, x.1.size ≤ 25 ∧ inK .i64 x.2
theorem goodW.ok {W : WaD} (h : goodW W) : okWa W := by
  obtain ⟨h1, ⟨h2, h3⟩, h4, h5, h6⟩ := h
  have hm : 1000 ≤ maxLen := by unfold maxLen; omega
  refine ⟨h1, ⟨by omega, fun t ht => ?_⟩, ⟨?_, ?_⟩, by omega, fun x hx => ⟨by have := (h6 x hx).1; omega, (h6 x hx).2⟩⟩
  · have := h3 t ht
    exact ⟨by have := this.2.2.1; omega, by have := this.2.2.2.1; omega, fun s hs => by have := this.2.2.2.2 s hs; omega⟩
  · rcases h4 with e | e | e <;> rw [e] <;> simp <;> omega
  · rcases h4 with e | e | e <;> rw [e] <;> intro s hs <;> simp at hs
    · rcases hs with rfl | rfl <;> exact Nat.le_trans (by decide) hm
    · rcases hs with rfl | rfl <;> exact Nat.le_trans (by decide) hm
theorem goodW.bare {W : WaD} (h : goodW W) : (⟨#[110, 111, 116, 45, 98, 111, 114, 110, 101]⟩ : ByteArray) ∉ W.2.2.1 := by
  rcases h.2.2.1 with e | e | e <;> rw [e] <;> intro hm <;> simp at hm
end Go.Proofs.Ytdnodaoeflbfkaa
/- Data as cells: lists that a call builds by append. -/
namespace Go.Proofs.Ytdnodaoeflbfkaa
open Go.RowKit
set_option linter.unusedVariables false

theorem callFunc_enter {P : Program} {f : FuncId} {fn : Func} (h : P.funcs[f]? = some fn) (hn : (fn.name == "runtime.NumGoroutine") = false) (hb : fn.body.isNone = false) (xs : Array Value) (w : World) : (callFunc f xs).run P w = .ok (.enter f xs) w := by
  have hn' : ¬ fn.name = "runtime.NumGoroutine" := by simpa using hn
  have hb' : ¬ fn.body = none := by intro e; rw [e] at hb; cases hb
  simp [callFunc, h, hn', hb', go_sem]
/-- a call of a Go function, by its contract, as a step of a region that draws -/
theorem step_call_of {P : Program} {w : World} {ops : Array Oper} {o : Oper} {a : Act} {K : Act → World → Prop} {Q : Exit → Act → World → Prop} {E : Prop} (hgd : o.guard = none) (f : FuncId) (args : Array Operand) (ts : Array TypeId)
    (ho : o.op = .call { callee := .value (.func f), args := args, argTypes := ts }) (hcf : ∀ xs w, (callFunc f xs).run P w = .ok (.enter f xs) w) (xs : Array Value) (hx : args.map a.eval = xs) {R : Ending → World → Prop} (hc : Calls P f xs w R) (h : ∀ e w', R e w' → ∃ v, e = .returned v ∧ K (a.put o.dst v) w') :
    if Region.wanted o (yielded ops a.tmps) = true then Oper.wp P o a w K Q else E := by
  subst hx
  have hw : Region.wanted o (yielded ops a.tmps) = true := by simp [Region.wanted, hgd]
  rw [if_pos hw]
  unfold Oper.wp execOp
  simp only [ho, resolve, invoke, Sem.run_bind]
  have e : (Deferred.ofValue (a.eval (Operand.func f)) (Array.map a.eval args)).run P w = .ok { target := .fn (.func f) #[], args := args.map a.eval } w := by simp [Act.eval, Deferred.ofValue, go_sem]
  rw [e, Result.andThen_ok]
  simp only [Array.append_empty]
  rw [hcf]
  rw [Oper.upon_enter]
  refine hc.mono ?_
  intro e w' hr
  obtain ⟨v, rfl, hk⟩ := h e w' hr
  exact hk
/-- a list of n things of k cells that the call builds, in blocks from base on -/
def AS (base : Nat) (w : World) (e : TypeId) (k : Nat) (v : Value) (cs : UD) (n : Nat) : Prop :=
  cs.len = n * k ∧ ∃ xs S, w.ownsRow base e k v n xs ∧ oH w cs xs S ∧ own2 S base w.heap.size ∧ ∀ g ∈ blkOf v, g ∉ S
theorem AS.nil (base : Nat) (w : World) (e : TypeId) (k : Nat) : AS base w e k (.slice none 0 0) .nil 0 :=
  ⟨by simp [UD.len, UD.toL], [], [], World.ownsRow_nil w base e k, ⟨rfl, rfl⟩, own2.nil _ _, fun g hg => by cases hg⟩
theorem AS.below {base : Nat} {w w' : World} {e : TypeId} {k : Nat} {v : Value} {cs : UD} {n : Nat} (h : AS base w e k v cs n) (hb : Below w.heap.size w w') : AS base w' e k v cs n := by
  obtain ⟨h0, xs, S, h1, h2, h3, h4⟩ := h
  exact ⟨h0, xs, S, uowns_frame h1 (fun x hx => hb.block x (ublk_lt h1 x hx).2), h2.below hb, h3.mono (Nat.le_refl _) hb.size, h4⟩
theorem AS.slice {base : Nat} {w : World} {e : TypeId} {k : Nat} {v : Value} {cs : UD} {n : Nat} (h : AS base w e k v cs n) : ∃ a p, v = .slice a n p := by
  obtain ⟨h0, xs, S, h1, h2, h3, h4⟩ := h
  exact uowns_slice h1
theorem AS.done {base : Nat} {w : World} {e : TypeId} {k : Nat} {v : Value} {cs : UD} {n : Nat} (h : AS base w e k v cs n) (hk : 0 < k) (hb : base ≤ w.heap.size) : ∃ S, oS w k n cs v S ∧ own2 S base w.heap.size := by
  obtain ⟨h0, xs, S, h1, h2, h3, h4⟩ := h
  have h1' : w.ownsRow 0 e k v n xs := by
    refine ⟨h1.1, ?_⟩
    rcases h1.2 with hh | ⟨g, cap, cur, a1, a2, a3⟩
    · exact .inl hh
    · exact .inr ⟨g, cap, cur, a1, Nat.zero_le _, a3⟩
  refine ⟨blkOf v ++ S, ⟨hk, e, xs, S, h1', h2, rfl⟩, ?_, fun s hs => ?_⟩
  · refine List.nodup_append.2 ⟨?_, h3.1, fun a ha b hb hab => h4 a ha (hab ▸ hb)⟩
    unfold blkOf
    split
    · simp
    · exact List.nodup_nil
  · rcases List.mem_append.1 hs with hs | hs
    · exact ublk_lt h1 s hs
    · exact h3.2 s hs
theorem grown_frame {w w' : World} {row : Option Nat} (hg : w.grownBy w' row) {S : List Nat} (hS : ∀ s ∈ S, s < w.heap.size) (hr : ∀ g, row = some g → g ∉ S) : ∀ s ∈ S, w'.heap[s]? = w.heap[s]? :=
  fun s hs => hg.block s (hS s hs) (fun e => hr s e.symm hs)
theorem AS.snoc {base b0 : Nat} {w1 w2 : World} {e : TypeId} {k : Nat} {v : Value} {cs : UD} {n : Nat} {xs : List Value} {S : List Nat} (hlen : cs.len = n * k) (hw : w1.ownsRow base e k v n xs) (ho : oH w1 cs xs S) (hS : own2 S base b0)
    (hne : ∀ g ∈ blkOf v, g ∉ S) (hvb : ∀ g ∈ blkOf v, g < b0) {R : UD} {ys : List Value} {T : List Nat} (hR : oH w1 R ys T) (hT : own2 T b0 w1.heap.size) (hb : base ≤ b0) (hb2 : b0 ≤ w1.heap.size) (hRl : R.len = k) {g cap : Nat}
    (hown : w2.ownsRow base e k (.slice (some ⟨g, 0, none⟩) (n + 1) cap) (n + 1) (xs ++ ys)) (hgrow : w1.grownBy w2 v.ownBlock) (hat : v.ownBlock = some g ∨ g = w1.heap.size) : AS base w2 e k (.slice (some ⟨g, 0, none⟩) (n + 1) cap) (cs.app R) (n + 1) := by
  have hrow : ∀ g', v.ownBlock = some g' → g' ∈ blkOf v := fun g' h => by unfold blkOf; rw [h]; simp
  have hvT : ∀ g' ∈ blkOf v, g' ∉ T := fun g' h ht => by have := hvb g' h; have := hT.2 g' ht; omega
  refine ⟨?_, xs ++ ys, S ++ T, hown, oH.app (ho.frame _ _ _ (grown_frame hgrow (ho.lt _ _ _) (fun g' h => hne g' (hrow g' h)))) (hR.frame _ _ _ (grown_frame hgrow (hR.lt _ _ _) (fun g' h => hvT g' (hrow g' h)))),
    (own2.app hS hT (Nat.le_refl _) hb hb2).mono (Nat.le_refl _) hgrow.size, fun g' hg' => ?_⟩
  · have : (cs.app R).len = cs.len + R.len := by unfold UD.len; rw [UD.app_toL, List.length_append]
    rw [this, hlen, hRl, Nat.succ_mul]
  · have e1 : g' = g := by simpa [blkOf, Value.ownBlock] using hg'
    subst e1
    rw [List.mem_append]
    rcases hat with h | h
    · exact fun hx => hx.elim (hne g' (hrow g' h)) (hvT g' (hrow g' h))
    · intro hx
      rcases hx with hx | hx
      · have := hS.2 g' hx; omega
      · have := hT.2 g' hx; omega
theorem cells_new (w : World) (xs : List Value) (t : TypeId) : ∀ j u, xs[j]? = some u → (w.alloc (.cells xs.toArray t)).cell? ((⟨w.heap.size, 0, none⟩ : Addr).add j) = some u := by
  intro j u h
  rw [Go.WideShapes.add_plain, Nat.zero_add]
  exact (objU.new w t xs).cell j u h
theorem one_cell {w : World} {lo hi : Nat} : ∀ {d : UD} {fs : List UF} {xs : List Value}, tyL d fs → uH w lo hi d xs → ∀ u ∈ xs, u.oneCell' = true
  | .nil, _, _, _, h, u, hu => by rw [show _ = [] from h] at hu; cases hu
  | .p v r, _, _, ⟨f, fr, e, h1, h2⟩, ⟨ys, e2, h⟩, u, hu => by
    subst e2
    rcases List.mem_cons.1 hu with rfl | hu
    · cases f with
      | i k => obtain ⟨z, rfl, _⟩ := h1; rfl
      | s => obtain ⟨z, rfl, _⟩ := h1; rfl
      | b => obtain ⟨z, rfl⟩ := h1; rfl
      | l k t => cases h1
    · exact one_cell h2 h u hu
  | .l k n cs r, _, _, ⟨t, fr, e, h1, h2⟩, ⟨c, ys, e2, g, h⟩, u, hu => by
    subst e2
    rcases List.mem_cons.1 hu with rfl | hu
    · obtain ⟨a, cap, rfl, _⟩ := g; rfl
    · exact one_cell h2 h u hu
/-- all the cells of a slice, one by one -/
theorem uM.list {w : World} {lo hi : Nat} {b o : Nat} {d : UD} (h : uM w lo hi d b o) : ∃ xs, uH w lo hi d xs ∧ ∀ j u, xs[j]? = some u → w.cell? ((⟨b, o, none⟩ : Addr).add j) = some u := by
  obtain ⟨xs, h1, h2⟩ := h.hand
  exact ⟨xs, h1, fun j u hj => by rw [Go.WideShapes.add_plain]; exact h2 j u hj⟩
/-- plain cells alone: copied they are one's own -/
theorem plain_own {w w' : World} {lo hi : Nat} {fs : List UF} (hp : ∀ f ∈ fs, ∀ k t, f ≠ .l k t) : ∀ {d : UD} {xs : List Value} {i : Nat}, tyU d fs i → uH w lo hi d xs → oH w' d xs []
  | .nil, _, _, _, h => ⟨h, rfl⟩
  | .p v r, _, i, h, ⟨ys, e, g⟩ => ⟨ys, e, plain_own hp h.2 g⟩
  | .l k n cs r, _, i, ⟨⟨t, h1, _⟩, _⟩, _ => (hp _ (List.mem_of_getElem? h1) k t rfl).elim
end Go.Proofs.Ytdnodaoeflbfkaa
/- A struct of many cells loaded whole: one letter. -/
namespace Go.Proofs.Ytdnodaoeflbfkaa
open Go.RowKit Go.BigFrame
set_option linter.unusedVariables false
theorem wpList_load_eq {P : Program} {ops : Array Oper} {rest : List Oper} {o : Oper} {a : Act} {w : World} {Q : Exit → Act → World → Prop} (hgd : o.guard = none) (t : TypeId) (x : Operand) (ho : o.op = .load t x) (ad : Addr) (hx : a.eval x = .pointer (some ad)) (v : Value)
    (hl : Sem.run P (Instr.loadAt t (.pointer (some ad))) w = .ok v w) (h : wpList P ops Q rest (a.put o.dst v) w) : wpList P ops Q (o :: rest) a w := by
  refine wpList_plain hgd fun K hK => ?_
  unfold Oper.wp execOp
  simp only [ho, Sem.run_bind, Sem.run_pure, hx, hl, Result.andThen_ok]
  exact hK _ _ h
theorem split_head {n : Nat} {xs : List Value} (h : xs.length = n + 1) : ∃ x r, xs = x :: r ∧ r.length = n := by
  cases xs with
  | nil => cases h
  | cons x r => exact ⟨x, r, rfl, by simpa using h⟩
theorem split_end {xs : List Value} (h : xs.length = 0) : xs = [] := List.eq_nil_of_length_eq_zero h
theorem step_load_eq {P : Program} {w : World} {ops : Array Oper} {o : Oper} {a : Act} {K : Act → World → Prop} {Q : Exit → Act → World → Prop} {E : Prop} (hgd : o.guard = none) (t : TypeId) (x : Operand) (ho : o.op = .load t x) (ad : Addr) (hx : a.eval x = .pointer (some ad)) (v : Value)
    (hl : Sem.run P (Instr.loadAt t (.pointer (some ad))) w = .ok v w) (h : K (a.put o.dst v) w) : if Region.wanted o (yielded ops a.tmps) = true then Oper.wp P o a w K Q else E := by
  have hw : Region.wanted o (yielded ops a.tmps) = true := by simp [Region.wanted, hgd]
  rw [if_pos hw]
  unfold Oper.wp execOp
  simp only [ho, Sem.run_bind, Sem.run_pure, hx, hl, Result.andThen_ok]
  exact h
theorem load_whole {P : Program} {t : TypeId} {k : Nat} {ad : Addr} {w : World} {xs : List Value} (ha : ∀ w, (isAgg t).run P w = .ok true w) (hs : ∀ w, (Go.sizeOf t).run P w = .ok k w) (hk : xs.length = k) (h : ∀ j v, xs[j]? = some v → w.cell? (ad.add j) = some v) : Sem.run P (Instr.loadAt t (.pointer (some ad))) w = .ok (.agg xs.toArray) w := by
  have hl := run_loadCellsFrom_list P w ad xs k hk h
  simp only [Instr.loadAt, Instr.sureAddr, Sem.run_bind, Sem.run_pure, Result.andThen_ok, loadVar, ha, hs, loadCells, hl, if_true]
end Go.Proofs.Ytdnodaoeflbfkaa
/- Data as cells: structs of many cells, loaded and stored whole; copying field by field, each step one law. -/
namespace Go.Proofs.Ytdnodaoeflbfkaa
open Go.RowKit Go.BigFrame
set_option linter.unusedVariables false

theorem OutS.setCells {b : Nat} : ∀ (vs : List Value) (o : Nat) (w : World), OutS [b] w (w.setCells b o vs)
  | [], o, w => OutS.refl _ _
  | v :: r, o, w => ((OutS.refl [b] w).setCell (p := ⟨b, o, none⟩) (by simp) v).trans (OutS.setCells r (o + 1) _)
theorem objU.there {w : World} {b : Nat} {t : TypeId} {xs : List Value} (h : objU w b t xs) (o n : Nat) (hn : o + n ≤ xs.length) : w.there b o n := fun j hj =>
  ⟨by rw [h.cell (o + j) xs[o + j] (List.getElem?_eq_getElem (by omega))]; rfl, h.fz _⟩
theorem objU.range {w : World} {b : Nat} {t : TypeId} {xs : List Value} (h : objU w b t xs) (o : Nat) (ys : List Value) (hy : ∀ j v, ys[j]? = some v → xs[o + j]? = some v) : w.rangeAt b o ys := fun j v hv => h.cell _ _ (hy j v hv)
theorem objU.whole {w : World} {b : Nat} {t : TypeId} {xs : List Value} (h : objU w b t xs) : w.rangeAt b 0 xs := h.range 0 xs (fun j v hv => by rw [Nat.zero_add]; exact hv)
theorem objU.setCells {b : Nat} {t : TypeId} : ∀ (ys zs : List Value) (pre post : List Value) (w : World), objU w b t (pre ++ (zs ++ post)) → zs.length = ys.length → objU (w.setCells b pre.length ys) b t (pre ++ (ys ++ post))
  | [], zs, pre, post, w, h, hl => by
    have : zs = [] := List.eq_nil_of_length_eq_zero hl
    subst this
    exact h
  | y :: ys, [], pre, post, w, h, hl => by cases hl
  | y :: ys, z :: zs, pre, post, w, h, hl => by
    have h1 := h.set pre.length y
    have e1 : (pre ++ (z :: zs ++ post)).set pre.length y = (pre ++ [y]) ++ (zs ++ post) := by
      rw [List.set_append_right _ _ (Nat.le_refl _), Nat.sub_self]; simp
    rw [e1] at h1
    have h2 := objU.setCells ys zs (pre ++ [y]) post _ h1 (by simpa using hl)
    rw [World.setCells]
    have e2 : (pre ++ [y]).length = pre.length + 1 := by simp
    rw [e2] at h2
    have e3 : pre ++ [y] ++ (ys ++ post) = pre ++ (y :: ys ++ post) := by simp
    rw [e3] at h2
    exact h2
/-- loads and stores, each a step; the value and the place said by the caller -/
theorem wpList_load_one {P : Program} {ops : Array Oper} {rest : List Oper} {o : Oper} {a : Act} {w : World} {Q : Exit → Act → World → Prop} (hgd : o.guard = none) (t : TypeId) (x : Operand) (ho : o.op = .load t x)
    (b j : Nat) (hx : a.eval x = .pointer (some ⟨b, j, none⟩)) (v : Value) (hu : (P.underlying t).map TypeDesc.isRow = some false) (hc : w.cell? ⟨b, j, none⟩ = some v) (h : wpList P ops Q rest (a.put o.dst v) w) : wpList P ops Q (o :: rest) a w := by
  refine wpList_load_eq hgd t x ho ⟨b, j, none⟩ hx v ?_ h
  cases hd : P.underlying t with
  | none => rw [hd] at hu; cases hu
  | some d =>
    rw [hd] at hu
    have hagg : (isAgg t).run P w = .ok false w := by
      unfold isAgg
      rw [Sem.run_bind, run_underlying hd w]
      cases d <;> simp_all [TypeDesc.isRow]
    simp only [Instr.loadAt, Instr.sureAddr, Sem.run_bind, Sem.run_pure, Result.andThen_ok, loadVar, hagg, Bool.false_eq_true, if_false, run_load, hc]
theorem load_row_eq {P : Program} {t : TypeId} {b j : Nat} {w : World} {ys : List Value} (hu : (P.underlying t).map TypeDesc.isRow = some true) (hi : (P.info? t).map (·.size) = some ys.length) (hr : w.rangeAt b j ys) : Sem.run P (Instr.loadAt t (.pointer (some ⟨b, j, none⟩))) w = .ok (.agg ys.toArray) w := by
  cases hd : P.underlying t with
  | none => rw [hd] at hu; cases hu
  | some d =>
    rw [hd] at hu
    exact run_loadAt_mid w b j t ys d hr hd (by simpa using hu) hi
theorem wpList_load_row2 {P : Program} {ops : Array Oper} {rest : List Oper} {o : Oper} {a : Act} {w : World} {Q : Exit → Act → World → Prop} (hgd : o.guard = none) (t : TypeId) (x : Operand) (ho : o.op = .load t x)
    (b j : Nat) (hx : a.eval x = .pointer (some ⟨b, j, none⟩)) (ys : List Value) (hu : (P.underlying t).map TypeDesc.isRow = some true) (hi : (P.info? t).map (·.size) = some ys.length) (hr : w.rangeAt b j ys) (h : wpList P ops Q rest (a.put o.dst (.agg ys.toArray)) w) : wpList P ops Q (o :: rest) a w :=
  wpList_load_eq hgd t x ho ⟨b, j, none⟩ hx _ (load_row_eq hu hi hr) h
theorem yieldsIf_load_row {P : Program} {ops : Array Oper} {S : World → Prop} {op : Oper} {a : Act} (hw : Region.wanted op (yielded ops a.tmps) = true) (t : TypeId) (x : Operand) (ho : op.op = .load t x)
    (b o : Nat) (hx : a.eval x = .pointer (some ⟨b, o, none⟩)) (ys : List Value) (hS : ∀ w, S w → w.rangeAt b o ys)
    (hu : (P.underlying t).map TypeDesc.isRow = some true) (hi : (P.info? t).map (·.size) = some ys.length) : YieldsIf P ops S op (.agg ys.toArray) a := by
  cases hd : P.underlying t with
  | none => rw [hd] at hu; cases hu
  | some d =>
    rw [hd] at hu
    exact yieldsIf_load_mid hw t x ho b o hx ys d hS hd (by simpa using hu) hi
theorem run_storeAt_cells {P : Program} {w : World} {b j : Nat} {t : TypeId} {v : Value} {ys : List Value} (hv : v.cells = ys.toArray) (h1 : ∀ u ∈ ys, u.oneCell' = true) (hi : (P.info? t).map (·.size) = some ys.length) (ht : w.there b j ys.length) :
    (Instr.storeAt t (.pointer (some ⟨b, j, none⟩)) v).run P w = .ok () (w.setCells b j ys) := by
  have := run_storeCells_cells (P := P) b j ys 0 w (fun q hq => by simpa using (ht q hq).1) (fun q hq => by simpa using (ht q hq).2) h1
  cases hq : P.info? t with
  | none => simp [hq] at hi
  | some i =>
    have hs : ys.length = i.size := by simp [hq] at hi; omega
    simp only [Nat.add_zero] at this
    simp [Instr.storeAt, Instr.sureAddr, storeVar, sizeOf, typeInfo, hq, hv, hs, this]
/-- behind a store the world is a letter -/
def Behind (φ : World → Prop) (w : World) : Prop := ∀ w', w' = w → φ w'
theorem wpList_store_cells {P : Program} {ops : Array Oper} {rest : List Oper} {o : Oper} {a : Act} {w : World} {Q : Exit → Act → World → Prop} (hgd : o.guard = none) (t : TypeId) (x y : Operand) (ho : o.op = .store t x y) (hd : o.dst = none)
    (b j : Nat) (hx : a.eval x = .pointer (some ⟨b, j, none⟩)) (v : Value) (hy : a.eval y = v) (ys : List Value) (hv : v.cells = ys.toArray) (h1 : ∀ u ∈ ys, u.oneCell' = true) (hi : (P.info? t).map (·.size) = some ys.length) (ht : w.there b j ys.length)
    (h : Behind (wpList P ops Q rest a) (w.setCells b j ys)) : wpList P ops Q (o :: rest) a w := by
  refine wpList_plain hgd fun K hK => ?_
  unfold Oper.wp execOp
  simp only [ho, hx, hy, Sem.run_bind, run_storeAt_cells hv h1 hi ht, Result.andThen_ok]
  exact hK _ _ (by rw [hd]; exact h _ rfl)
theorem one1 {v : Value} (h : v.oneCell' = true) : ∀ u ∈ [v], u.oneCell' = true := fun u hu => by simp at hu; subst hu; exact h
theorem one_int {k : IntKind} {z : Int} : (Value.int k z).oneCell' = true := rfl
theorem one_string {z : ByteArray} : (Value.string z).oneCell' = true := rfl
theorem one_bool {z : Bool} : (Value.bool z).oneCell' = true := rfl
theorem one_slice {a : Option Addr} {n p : Nat} : (Value.slice a n p).oneCell' = true := rfl
theorem cells_one {v : Value} (h : v.oneCell' = true) : v.cells = [v].toArray := by cases v <;> first | rfl | cases h
theorem wpList_store_v {P : Program} {ops : Array Oper} {rest : List Oper} {o : Oper} {a : Act} {w : World} {Q : Exit → Act → World → Prop} (hgd : o.guard = none) (t : TypeId) (x y : Operand) (ho : o.op = .store t x y) (hd : o.dst = none)
    (b j : Nat) (hx : a.eval x = .pointer (some ⟨b, j, none⟩)) (v : Value) (hy : a.eval y = v) (h1 : v.oneCell' = true) (hi : (P.info? t).map (·.size) = some 1) (ht : w.there b j 1)
    (h : Behind (wpList P ops Q rest a) (w.setCells b j [v])) : wpList P ops Q (o :: rest) a w :=
  wpList_store_cells hgd t x y ho hd b j hx v hy [v] (cells_one h1) (one1 h1) hi ht h
theorem ones_own {w : World} : ∀ {d : UD} {fs : List UF} {xs : List Value} {S : List Nat}, tyL d fs → oH w d xs S → ∀ u ∈ xs, u.oneCell' = true
  | .nil, _, _, _, _, h, u, hu => by rw [h.1] at hu; cases hu
  | .p v r, _, _, S, ⟨f, fr, e, h1, h2⟩, ⟨ys, e2, h⟩, u, hu => by
    subst e2
    rcases List.mem_cons.1 hu with rfl | hu
    · cases f with
      | i k => obtain ⟨z, rfl, _⟩ := h1; rfl
      | s => obtain ⟨z, rfl, _⟩ := h1; rfl
      | b => obtain ⟨z, rfl⟩ := h1; rfl
      | l k t => cases h1
    · exact ones_own h2 h u hu
  | .l k n cs r, _, _, _, ⟨t, fr, e, h1, h2⟩, ⟨c, ys, S1, S2, e2, eS, hk, ⟨t', zs, g1, g2⟩, h⟩, u, hu => by
    subst e2
    rcases List.mem_cons.1 hu with rfl | hu
    · obtain ⟨a, cap, rfl⟩ := uowns_slice g1; rfl
    · exact ones_own h2 h u hu
theorem cells_agg {ys : List Value} : (Value.agg ys.toArray).cells = ys.toArray := rfl

/-- where the copying of a struct, field by field, stands: j cells are copied, dd is what they are -/
def CP (w0 w : World) (A R O : Nat) (TA TO : TypeId) (AX Z : List Value) (dd : UD) (j : Nat) : Prop :=
  ∃ done S, objU w A TA AX ∧ objU w R TO Z ∧ objU w O TO (done ++ Z.drop j) ∧ done.length = j ∧ oH w dd done S ∧ own2 S (O + 1) w.heap.size ∧ Below w0.heap.size w0 w ∧ w0.heap.size ≤ A ∧ A < O ∧ w0.heap.size ≤ R ∧ R < O ∧ O < w.heap.size
theorem CP.start {w : World} {TA TO : TypeId} {AX Z : List Value} : CP w (((w.alloc (.cells AX.toArray TA)).alloc (.cells Z.toArray TO)).alloc (.cells Z.toArray TO)) w.heap.size (w.heap.size + 1) (w.heap.size + 1 + 1) TA TO AX Z .nil 0 := by
  refine ⟨[], [], ((objU.new2 _ _ rfl).old _).old _, (objU.new2 _ _ (by simp)).old _, ?_, rfl, oH.nil _, own2.nil _ _, (((Below.refl _ _).alloc (Nat.le_refl _) _).alloc (by simp) _).alloc (by simp; omega) _, Nat.le_refl _, by omega, by omega, by omega, by simp⟩
  simpa using objU.new2 (w := (w.alloc (.cells AX.toArray TA)).alloc (.cells Z.toArray TO)) TO Z (b := w.heap.size + 1 + 1) (by simp)
theorem CP.below {w0 w w' : World} {A R O : Nat} {TA TO : TypeId} {AX Z : List Value} {dd : UD} {j : Nat} (h : CP w0 w A R O TA TO AX Z dd j) (hb : Below w.heap.size w w') : CP w0 w' A R O TA TO AX Z dd j := by
  obtain ⟨done, S, h1, h2, h3, h4, h5, h6, h7, h8, h9, h10, h11, h12⟩ := h
  exact ⟨done, S, h1.below hb, h2.below hb, h3.below hb, h4, h5.below hb, h6.mono (Nat.le_refl _) hb.size, h7.trans (hb.mono h7.size), h8, h9, h10, h11, Nat.lt_of_lt_of_le h12 hb.size⟩
theorem CP.bel {w0 w : World} {A R O : Nat} {TA TO : TypeId} {AX Z : List Value} {dd : UD} {j : Nat} (h : CP w0 w A R O TA TO AX Z dd j) : Below w0.heap.size w0 w := by
  obtain ⟨done, S, h1, h2, h3, h4, h5, h6, h7, _⟩ := h; exact h7
theorem CP.cell {w0 w : World} {A R O : Nat} {TA TO : TypeId} {AX Z : List Value} {dd : UD} {j : Nat} (h : CP w0 w A R O TA TO AX Z dd j) {q : Nat} {v : Value} (hv : AX[q]? = some v) : w.cell? ⟨A, q, none⟩ = some v := by
  obtain ⟨done, S, h1, _⟩ := h; exact h1.cell q v hv
theorem CP.range {w0 w : World} {A R O : Nat} {TA TO : TypeId} {AX Z : List Value} {dd : UD} {j : Nat} (h : CP w0 w A R O TA TO AX Z dd j) {q : Nat} {ys : List Value} (hv : ∀ i v, ys[i]? = some v → AX[q + i]? = some v) : w.rangeAt A q ys := by
  obtain ⟨done, S, h1, _⟩ := h; exact h1.range q ys hv
theorem CP.there {w0 w : World} {A R O : Nat} {TA TO : TypeId} {AX Z : List Value} {dd : UD} {j : Nat} (h : CP w0 w A R O TA TO AX Z dd j) (n : Nat) (hn : j + n ≤ Z.length) : w.there O j n := by
  obtain ⟨done, S, h1, h2, h3, h4, _⟩ := h
  exact h3.there j n (by rw [List.length_append, List.length_drop, h4]; omega)
/-- cells are stored behind those that are copied: ys came of a call that ended in w1 (or w1 is w, where it is plain) -/
theorem CP.step {w0 w w1 : World} {A R O : Nat} {TA TO : TypeId} {AX Z : List Value} {dd : UD} {j : Nat} (h : CP w0 w A R O TA TO AX Z dd j) (hb : Below w.heap.size w w1) {dp : UD} {ys : List Value} {T : List Nat} (ho : oH w1 dp ys T) (hT : own2 T w.heap.size w1.heap.size) {w' : World} (e : w' = w1.setCells O j ys) {j' : Nat} (hj : j' = j + ys.length) (hn : j' ≤ Z.length) : CP w0 w' A R O TA TO AX Z (dd.app dp) j' := by
  have hlt := h
  obtain ⟨done, S, h1, h2, h3, h4, h5, h6, h7, h8, h9, h10, h11, h12⟩ := h.below hb
  obtain ⟨done', S', g1, g2, g3, g4, g5, g6, g7, g8, g9, g10, g11, g12⟩ := hlt
  subst e hj
  have hout : OutS [O] w1 (w1.setCells O j ys) := OutS.setCells ys j w1
  have hS' : ∀ s ∈ S', s < w.heap.size := g5.lt _ _ _
  refine ⟨done' ++ ys, S' ++ T, (g1.below hb).outS hout (by simp; omega), (g2.below hb).outS hout (by simp; omega), ?_, by rw [List.length_append, g4], oH.app ((g5.below hb).outS hout (fun g hg hx => ?_)) (ho.outS hout (fun g hg hx => ?_)), ?_, ?_, h8, h9, h10, h11, ?_⟩
  · have e1 : Z.drop j = (Z.drop j).take ys.length ++ Z.drop (j + ys.length) := by rw [← List.drop_drop]; exact (List.take_append_drop _ _).symm
    have g3' := g3.below hb
    rw [e1] at g3'
    have := objU.setCells ys ((Z.drop j).take ys.length) done' (Z.drop (j + ys.length)) w1 g3' (by rw [List.length_take, List.length_drop]; omega)
    rw [g4] at this
    rw [List.append_assoc]; exact this
  · simp at hx; have := g6.2 g hg; omega
  · simp at hx; have := hT.2 g hg; omega
  · have hsz := hout.size
    exact (g6.app hT (Nat.le_refl _) (by omega) hb.size).mono (Nat.le_refl _) hsz
  · exact h7.trans (hout.below (B := w0.heap.size) (fun t ht => by simp at ht; omega) h7.size)
  · exact Nat.lt_of_lt_of_le h12 hout.size
theorem CP.plain {w0 w : World} {A R O : Nat} {TA TO : TypeId} {AX Z : List Value} {dd : UD} {j : Nat} (h : CP w0 w A R O TA TO AX Z dd j) {v : Value} {w' : World} (e : w' = w.setCells O j [v]) {j' : Nat} (hj : j' = j + 1) (hn : j' ≤ Z.length) : CP w0 w' A R O TA TO AX Z (dd.app (.p v .nil)) j' :=
  h.step (Below.refl _ _) (oH.consP v (oH.nil _)) (own2.nil _ _) e hj hn
theorem CP.list {w0 w w1 : World} {A R O : Nat} {TA TO : TypeId} {AX Z : List Value} {dd : UD} {j : Nat} (h : CP w0 w A R O TA TO AX Z dd j) (hb : Below w.heap.size w w1) {k n : Nat} {cs : UD} {c : Value} {T : List Nat} (ho : oS w1 k n cs c T) (hT : own2 T w.heap.size w1.heap.size) {w' : World} (e : w' = w1.setCells O j [c]) {j' : Nat} (hj : j' = j + 1) (hn : j' ≤ Z.length) : CP w0 w' A R O TA TO AX Z (dd.app (.l k n cs .nil)) j' := by
  have := oH.consS ho (oH.nil _)
  rw [List.append_nil] at this
  exact h.step hb this hT e hj hn
/-- all is copied -/
theorem CP.fin {w0 w : World} {A R O : Nat} {TA TO : TypeId} {AX Z : List Value} {dd : UD} {j : Nat} (h : CP w0 w A R O TA TO AX Z dd j) {D : UD} (hD : dd = D) (hj : j = Z.length) : ∃ done S, Hid (w.rangeAt O 0 done) ∧ done.length = j ∧ Hid (w.there R 0 done.length) ∧ oH w D done S ∧ ∀ w', w' = w.setCells R 0 done → objU w' R TO done ∧ oH w' D done S ∧ S.Nodup ∧ (∀ s ∈ S, w0.heap.size ≤ s) ∧ Below w0.heap.size w0 w' := by
  subst hD
  obtain ⟨done, S, h1, h2, h3, h4, h5, h6, h7, h8, h9, h10, h11, h12⟩ := h
  have e0 : Z.drop j = [] := List.drop_eq_nil_of_le (by omega)
  rw [e0, List.append_nil] at h3
  refine ⟨done, S, h3.whole, h4, h2.there 0 _ (by omega), h5, fun w' e => ?_⟩
  subst e
  have hout : OutS [R] w (w.setCells R 0 done) := OutS.setCells done 0 w
  have h2' := objU.setCells done Z [] [] w (by simpa using h2) (by omega)
  refine ⟨by simpa using h2', h5.outS hout (fun g hg hx => ?_), h6.1, fun s hs => by have := h6.2 s hs; omega, h7.trans (hout.below (B := w0.heap.size) (fun t ht => by simp at ht; omega) h7.size)⟩
  simp at hx; have := h6.2 g hg; omega
theorem results_row {P : Program} {fn : Func} {p : Tmp} {ty : TypeId} (h : fn.results = #[.cell p ty]) (tmps : Array Value) (w : World) (g : Nat) (t : TypeId) (ys : List Value)
    (hp : tmps.getD p undef = .pointer (some ⟨g, 0, none⟩)) (hg : objU w g t ys) (hu : (P.underlying ty).map TypeDesc.isRow = some true) (hi : (P.info? ty).map (·.size) = some ys.length) :
    (results fn tmps).run P w = .ok (.agg ys.toArray) w := by
  cases hd : P.underlying ty with
  | none => rw [hd] at hu; cases hu
  | some d =>
    rw [hd] at hu
    exact results_cell_row h tmps w g t ys.toArray (0, 0) d hp hg hd (by cases d <;> simp_all [TypeDesc.isRow]) (by simpa using hi)

/-! rows of structs -/
theorem wSet_eq : ∀ (ys : List Value) (w : World) (g i : Nat), w.setCells g i ys = wSet w g i ys
  | [], w, g, i => rfl
  | y :: ys, w, g, i => by rw [World.setCells, wSet, wSet_eq ys]
theorem range_below {w w' : World} {b o : Nat} {xs : List Value} (h : w.rangeAt b o xs) (hb : Below w.heap.size w w') : w'.rangeAt b o xs := fun j v hv =>
  (hb.cell (p := ⟨b, o + j, none⟩) (World.block_lt_of_cell? _ _ (h j v hv))).trans (h j v hv)
theorem TS.there {w0 w : World} {e : TypeId} {k n : Nat} {cs : UD} {q : Nat} (h : TS w0 w e k n cs q) (p m : Nat) (hm : p + m ≤ n * k) : w.there w0.heap.size p m := fun j hj => by
  obtain ⟨v, hv⟩ := h.cell (p + j) (by omega)
  exact ⟨by rw [hv]; rfl, h.fz _⟩
theorem TS.row {w0 w w2 w' : World} {e : TypeId} {k n : Nat} {cs : UD} {q : Nat} (h : TS w0 w e k n cs q) (hb : Below w.heap.size w w2) {ys : List Value} {T : List Nat} (ho : oH w2 (rowU cs k q) ys T) (hnd : T.Nodup) (hT : ∀ t ∈ T, w.heap.size ≤ t) (hl : cs.len = n * k) (hq : q < n) (e' : w' = w2.setCells w0.heap.size (q * k) ys) : TS w0 w' e k n cs (q + 1) := by
  subst e'
  rw [wSet_eq]
  exact h.step hb ho hnd hT hl hq
theorem MS.there {w0 w : World} {e : TypeId} {k n : Nat} {cap : Nat} {g : Nat} {cs : UD} {j0 : Nat} {S : List Nat} {xs0 : List Value} {i : Nat} (h : MS w0 w e k n (.slice (some ⟨g, 0, none⟩) n cap) g cs j0 S xs0 i) (p : Nat) (hn : p < n * k) : w.there g p 1 := fun j hj => by
  obtain ⟨xs, h1, _⟩ := h
  have : j = 0 := by omega
  subst this
  exact ⟨by rw [Nat.add_zero, h1.cellAt p hn, List.getElem?_eq_getElem (by rw [h1.1]; exact hn)]; rfl, h1.frozenAt p⟩
theorem setCells_one (w : World) (b o : Nat) (v : Value) : w.setCells b o [v] = w.setCell ⟨b, o, none⟩ v := by rw [World.setCells, World.setCells]
theorem MS.cellS {w0 wx wy : World} {e : TypeId} {k n : Nat} {cap : Nat} {g : Nat} {cs : UD} {j0 : Nat} {S : List Nat} {xs0 : List Value} {i i' : Nat} (h : MS w0 wx e k n (.slice (some ⟨g, 0, none⟩) n cap) g cs j0 S xs0 i) {v u : Value} (he : cs.at? i = some (.p v)) {m : Nat} (hc : j0 + cnt (cs.takeN i) = m) (hu : u = mkP m v) (ey : wy = wx.setCells g i [u]) (hi : i' = i + 1) : MS w0 wy e k n (.slice (some ⟨g, 0, none⟩) n cap) g cs j0 S xs0 i' := by
  subst hi ey hc
  rw [setCells_one]
  exact h.plain he hu
theorem at_row {cs : UD} {K q : Nat} {R : UD} (hR : rowU cs K q = R) {j : Nat} {e : UE} (hj : j < K) (h : R.at? j = some e) : cs.at? (q * K + j) = some e := by
  rw [← rowU_at cs K q j hj, hR]; exact h
theorem ct_next {cs : UD} {k0 i m : Nat} {e : UE} (hc : k0 + cnt (cs.takeN i) = m) (h : cs.at? i = some e) : k0 + cnt (cs.takeN (i + 1)) = m + cntE e := by
  rw [cnt_succ cs i e h, ← Nat.add_assoc, hc]
theorem ct_end {cs : UD} {k0 q K m : Nat} (h : k0 + cnt (cs.takeN (q * K + K)) = m) : k0 + cnt (cs.takeN ((q + 1) * K)) = m := by
  rw [Nat.succ_mul]; exact h
/-! structs taken apart -/
theorem at_mid {pre ys post AX : List Value} {j i : Nat} {v : Value} (hA : AX = pre ++ (ys ++ post)) (hj : pre.length = j) (h : ys[i]? = some v) : AX[j + i]? = some v := by
  subst hA hj
  have hi := (List.getElem?_eq_some_iff.1 h).1
  rw [List.getElem?_append_right (by omega), List.getElem?_append_left (by omega), ← h]
  congr 1; omega
theorem tyL.split : ∀ {d : UD} {f1 f2 : List UF}, tyL d (f1 ++ f2) → ∃ d1 d2, d = d1.app d2 ∧ tyL d1 f1 ∧ tyL d2 f2
  | d, [], f2, h => ⟨.nil, d, (UD.app_nil d).symm, rfl, h⟩
  | .nil, f :: fr, f2, h => by cases h
  | .p v r, f :: fr, f2, h => by
    obtain ⟨g, gr, e, h1, h2⟩ := h
    cases e
    obtain ⟨d1, d2, rfl, h3, h4⟩ := tyL.split (f1 := fr) (f2 := f2) h2
    exact ⟨.p v d1, d2, (UD.app_p v d1 d2).symm, ⟨_, _, rfl, h1, h3⟩, h4⟩
  | .l k n cs r, f :: fr, f2, h => by
    obtain ⟨t, gr, e, h1, h2⟩ := h
    cases e
    obtain ⟨d1, d2, rfl, h3, h4⟩ := tyL.split (f1 := fr) (f2 := f2) h2
    exact ⟨.l k n cs d1, d2, (UD.app_l k n cs d1 d2).symm, ⟨_, _, rfl, h1, h3⟩, h4⟩
theorem uH.split {w : World} {lo hi : Nat} : ∀ {d1 d2 : UD} {xs : List Value}, uH w lo hi (d1.app d2) xs → ∃ x1 x2, xs = x1 ++ x2 ∧ x1.length = d1.len ∧ uH w lo hi d1 x1 ∧ uH w lo hi d2 x2
  | .nil, d2, xs, h => ⟨[], xs, rfl, rfl, rfl, by rw [UD.app_nil] at h; exact h⟩
  | .p v r, d2, xs, h => by
    rw [UD.app_p] at h
    obtain ⟨ys, rfl, h⟩ := h
    obtain ⟨x1, x2, rfl, hl, h1, h2⟩ := uH.split h
    exact ⟨v :: x1, x2, rfl, by rw [UD.len_p, ← hl]; rfl, ⟨x1, rfl, h1⟩, h2⟩
  | .l k n cs r, d2, xs, h => by
    rw [UD.app_l] at h
    obtain ⟨c, ys, rfl, hc, h⟩ := h
    obtain ⟨x1, x2, rfl, hl, h1, h2⟩ := uH.split h
    exact ⟨c :: x1, x2, rfl, by rw [UD.len_l, ← hl]; rfl, ⟨c, x1, rfl, hc, h1⟩, h2⟩
theorem UD.app_assoc (a b c : UD) : (a.app b).app c = a.app (b.app c) := by apply UD.ext; simp only [UD.app_toL, List.append_assoc]
theorem UD.app_nil_r (a : UD) : a.app .nil = a := by apply UD.ext; rw [UD.app_toL]; simp [UD.toL]
theorem tyL_cast {a b : UD} {fs : List UF} (e : a = b) (h : tyL a fs) : tyL b fs := e ▸ h
theorem oH_cast {w : World} {a b : UD} {xs : List Value} {S : List Nat} (e : a = b) (h : oH w b xs S) : oH w a xs S := e ▸ h
theorem mk_app : ∀ (a b : UD) (j : Nat), mk (a.app b) j = (mk a j).app (mk b (j + cnt a))
  | .nil, b, j => by rw [UD.app_nil]; simp only [mk, cnt, Nat.add_zero, UD.app_nil]
  | .p v r, b, j => by rw [UD.app_p, mk, mk, UD.app_p, mk_app r, cnt]; congr 2; congr 1; omega
  | .l k n cs r, b, j => by rw [UD.app_l, mk, mk, UD.app_l, mk_app r, cnt]; congr 2; congr 1; omega
theorem mkT_app : ∀ (a b : UD) (j : Nat), mkT (a.app b) j = (mkT a j).app (mkT b (j + cntT a))
  | .nil, b, j => by rw [UD.app_nil]; simp only [mkT, cntT, Nat.add_zero, UD.app_nil]
  | .p v r, b, j => by rw [UD.app_p, mkT, mkT, UD.app_p, mkT_app r, cntT]
  | .l k n cs r, b, j => by rw [UD.app_l, mkT, mkT, UD.app_l, mkT_app r, cntT]; congr 2; congr 1; omega
theorem cntT_app : ∀ (a b : UD), cntT (a.app b) = cntT a + cntT b
  | .nil, b => by rw [UD.app_nil]; simp [cntT]
  | .p v r, b => by rw [UD.app_p, cntT, cntT, cntT_app r]
  | .l k n cs r, b => by rw [UD.app_l, cntT, cntT, cntT_app r]; omega
end Go.Proofs.Ytdnodaoeflbfkaa
/- A region that draws its order and makes memory: one fact an operation, whatever the order. -/
namespace Go.Proofs.Ytdnodaoeflbfkaa
open Go.RowKit
set_option linter.unusedVariables false

section
variable {P : Program} {ops : Array Oper} {Q : Exit → Act → World → Prop}
def dstAt (ops : Array Oper) (i : Nat) : Option Tmp := match ops[i]? with | some o => o.dst | none => none
theorem dstAt_eq {ops : Array Oper} {i : Nat} {o : Oper} (h : ops[i]? = some o) : dstAt ops i = o.dst := by unfold dstAt; rw [h]
/-- what lies in an operation's slot -/
def slotV (ops : Array Oper) (i : Nat) (a : Act) : Value := match dstAt ops i with | some d => a.tmps.getD d undef | none => undef
/-- w' is w but for the blocks T and new ones; who owns an old block is as it was -/
structure Fr (T : World → World → Prop) (γ : Nat → Nat) (w : World) (γ' : Nat → Nat) (w' : World) : Prop where
  out : T w w'
  own : ∀ g, g < w.heap.size → γ' g = γ g
theorem Fr.same {T : World → World → Prop} {γ : Nat → Nat} {w : World} (h : T w w) : Fr T γ w γ w := ⟨h, fun _ _ => rfl⟩
/-- the slots that the region does not write -/
def Kept (ops : Array Oper) (a0 a : Act) : Prop := a.defers = a0.defers ∧ a.tmps.size = a0.tmps.size ∧ ∀ k, (∀ (i : Nat) (o : Oper), ops[i]? = some o → o.dst ≠ some k) → a.tmps.getD k undef = a0.tmps.getD k undef
/-- whether k waits for i -/
def depOn (ops : Array Oper) (k i : Nat) : Bool := match ops[k]? with | some o => o.after.any (fun e => Region.binds .any e && e.on == i) | none => false
/-- whether k waits for i, or for what waits for i -/
def depTr (ops : Array Oper) : Nat → Nat → Nat → Bool
  | 0, k, i => depOn ops k i
  | n + 1, k, i => depOn ops k i || (match ops[k]? with | some o => o.after.any (fun e => Region.binds .any e && depTr ops n e.on i) | none => false)
structure RInv (ops : Array Oper) (sp : Nat → Option Nat) (k0 : Nat) (G : Bool → World → Prop) (F : Nat → (Nat → Nat) → Value → World → Prop) (a0 : Act) (listed : Array Bool) (a : Act) (w : World) (γ : Nat → Nat) : Prop where
  size : listed.size = ops.size
  g : G (listed.getD k0 false) w
  b : Kept ops a0 a
  cl : ∀ k i, listed.getD k false = true → depOn ops k i = true → listed.getD i false = true
  f : ∀ i, listed.getD i false = true → (∀ k, sp i = some k → listed.getD k false = false) → F i γ (slotV ops i a) w
theorem RInv.clTr {ops : Array Oper} {sp : Nat → Option Nat} {k0 : Nat} {G : Bool → World → Prop} {F : Nat → (Nat → Nat) → Value → World → Prop} {a0 : Act} {listed : Array Bool} {a : Act} {w : World} {γ : Nat → Nat} (h : RInv ops sp k0 G F a0 listed a w γ) : ∀ (n k i : Nat), listed.getD k false = true → depTr ops n k i = true → listed.getD i false = true
  | 0, k, i, hk, hd => h.cl k i hk hd
  | n + 1, k, i, hk, hd => by
    unfold depTr at hd
    rw [Bool.or_eq_true] at hd
    rcases hd with hd | hd
    · exact h.cl k i hk hd
    · cases ho : ops[k]? with
      | none => rw [ho] at hd; cases hd
      | some o =>
        rw [ho] at hd
        simp only [Array.any_eq_true, Bool.and_eq_true] at hd
        obtain ⟨q, hq, hb, ht⟩ := hd
        refine RInv.clTr h n _ i (h.cl k _ hk ?_) ht
        unfold depOn
        rw [ho]
        simp only [Array.any_eq_true, Bool.and_eq_true, beq_iff_eq]
        exact ⟨q, hq, hb, rfl⟩
/-- an operation's own duty -/
def StepOk2 (P : Program) (ops : Array Oper) (Q : Exit → Act → World → Prop) (T : Nat → World → World → Prop) (sp : Nat → Option Nat) (k0 : Nat) (G : Bool → World → Prop) (F : Nat → (Nat → Nat) → Value → World → Prop) (a0 : Act) (i : Nat) (o : Oper) : Prop :=
  ∀ (c : Bool) (a : Act) (w : World) (γ : Nat → Nat), (depTr ops ops.size k0 i = true ∨ i = k0 → c = false) → (depOn ops i k0 = true → c = true) → G c w → Kept ops a0 a → (∀ (q : Nat) (hq : q < o.after.size), Region.binds .any (o.after[q]'hq) = true → (sp (o.after[q]'hq).on = none ∨ sp (o.after[q]'hq).on = some i ∨ ∃ k, sp (o.after[q]'hq).on = some k ∧ depOn ops k i = true) → F (o.after[q]'hq).on γ (slotV ops (o.after[q]'hq).on a) w) →
    ∀ K : Act → World → Prop, (∀ v w' γ', G (if i = k0 then true else c) w' → Fr (T i) γ w γ' w' → F i γ' v w' → K (a.put o.dst v) w') → Oper.wp P o a w K Q
/-- the slots are in range and no two alike -/
def slotsOk (ops : Array Oper) (n : Nat) : Bool := ((List.range ops.size).filterMap (dstAt ops)).all (fun d => decide (d < n)) && decide ((List.range ops.size).filterMap (dstAt ops)).Nodup && ops.all (fun o => o.guard.isNone)
theorem getD_set_same (x : Array Value) (d : Nat) (v : Value) (h : d < x.size) : (x.setIfInBounds d v).getD d undef = v := by simp [Array.getD, h]
theorem getD_set_ne (x : Array Value) (d k : Nat) (v : Value) (h : d ≠ k) : (x.setIfInBounds d v).getD k undef = x.getD k undef := by
  rw [Array.getD_eq_getD_getElem?, Array.getD_eq_getD_getElem?, Array.getElem?_setIfInBounds_ne h]
theorem slot_other {i j d : Nat} {o o' : Oper} (hn : ((List.range ops.size).filterMap (dstAt ops)).Nodup) (hi : ops[i]? = some o) (hj : ops[j]? = some o') (hd : o.dst = some d) (hd' : o'.dst = some d) : i = j := by
  have li := (Array.getElem?_eq_some_iff.1 hi).1
  have lj := (Array.getElem?_eq_some_iff.1 hj).1
  have key : ∀ (L : List Nat), L.Nodup → (L.filterMap (dstAt ops)).Nodup → i ∈ L → j ∈ L → i = j := by
    intro L
    induction L with
    | nil => intro _ _ h; cases h
    | cons x L ih =>
      intro hL h mi mj
      have hL' := List.nodup_cons.1 hL
      by_cases ex : i = x
      · by_cases ey : j = x
        · rw [ex, ey]
        · have mj' : j ∈ L := (List.mem_cons.1 mj).resolve_left ey
          subst ex
          rw [List.filterMap_cons_some (b := d) (by rw [dstAt_eq hi]; exact hd)] at h
          have := (List.nodup_cons.1 h).1
          exact (this (List.mem_filterMap.2 ⟨j, mj', by rw [dstAt_eq hj]; exact hd'⟩)).elim
      · have mi' : i ∈ L := (List.mem_cons.1 mi).resolve_left ex
        by_cases ey : j = x
        · subst ey
          rw [List.filterMap_cons_some (b := d) (by rw [dstAt_eq hj]; exact hd')] at h
          have := (List.nodup_cons.1 h).1
          exact (this (List.mem_filterMap.2 ⟨i, mi', by rw [dstAt_eq hi]; exact hd⟩)).elim
        · have mj' : j ∈ L := (List.mem_cons.1 mj).resolve_left ey
          refine ih hL'.2 ?_ mi' mj'
          cases hb : dstAt ops x with
          | none => rw [List.filterMap_cons_none hb] at h; exact h
          | some b => rw [List.filterMap_cons_some hb] at h; exact (List.nodup_cons.1 h).2
  exact key (List.range ops.size) List.nodup_range hn (by simpa using li) (by simpa using lj)
theorem Kept.put {a0 a : Act} (h : Kept ops a0 a) {i : Nat} {o : Oper} (hi : ops[i]? = some o) (v : Value) : Kept ops a0 (a.put o.dst v) := by
  obtain ⟨h1, h2, h3⟩ := h
  cases hd : o.dst with
  | none => exact ⟨h1, h2, h3⟩
  | some d =>
    refine ⟨h1, by simpa [Act.put] using h2, fun k hk => ?_⟩
    show (a.tmps.setIfInBounds d v).getD k undef = _
    rw [getD_set_ne _ _ _ _ (fun e => hk i o hi (by rw [hd, e]))]
    exact h3 k hk
theorem slotV_put_same {a : Act} {i : Nat} {o : Oper} (hi : ops[i]? = some o) (v : Value) (hv : o.dst = none → v = undef) (hs : ∀ d, o.dst = some d → d < a.tmps.size) : slotV ops i (a.put o.dst v) = v := by
  unfold slotV
  rw [dstAt_eq hi]
  cases hd : o.dst with
  | none => exact (hv hd).symm
  | some d => exact getD_set_same _ _ _ (hs d hd)
theorem slotV_put_other {a : Act} {i j : Nat} {o : Oper} (hn : ((List.range ops.size).filterMap (dstAt ops)).Nodup) (hi : ops[i]? = some o) (v : Value) (hne : i ≠ j) : slotV ops j (a.put o.dst v) = slotV ops j a := by
  unfold slotV
  cases hd' : dstAt ops j with
  | none => rfl
  | some d' =>
    cases hd : o.dst with
    | none => rfl
    | some d =>
      refine getD_set_ne _ _ _ _ (fun e => hne ?_)
      subst e
      cases hj : ops[j]? with
      | none => unfold dstAt at hd'; rw [hj] at hd'; cases hd'
      | some o' => rw [dstAt_eq hj] at hd'; exact slot_other hn hi hj hd hd'
def cntF (l : Array Bool) : Nat := (l.toList.filter (fun b => !b)).length
theorem cntL_set : ∀ (x : List Bool) (i : Nat), x[i]? = some false → ((x.set i true).filter (fun b => !b)).length + 1 = (x.filter (fun b => !b)).length
  | [], i, h => by simp at h
  | b :: x, 0, h => by
    have : b = false := by simpa using h
    subst this
    simp
  | b :: x, i + 1, h => by
    have := cntL_set x i (by simpa using h)
    simp only [List.set_cons_succ, List.filter_cons]
    split <;> simp_all
theorem cntF_set {l : Array Bool} {i : Nat} (hi : i < l.size) (hf : l[i] = false) : cntF (l.setIfInBounds i true) + 1 = cntF l := by
  unfold cntF
  rw [Array.toList_setIfInBounds]
  exact cntL_set _ _ (by rw [Array.getElem?_toList, Array.getElem?_eq_getElem hi, hf])
theorem wpAny_inv {T : Nat → World → World → Prop} {sp : Nat → Option Nat} {k0 : Nat} (hk0 : k0 < ops.size) {G : Bool → World → Prop} {F : Nat → (Nat → Nat) → Value → World → Prop} {a0 : Act} (hs : slotsOk ops a0.tmps.size = true)
    (hF : ∀ i j γ γ' v w w', i ≠ j → sp j ≠ some i → depOn ops j i = false → (∀ k, sp j = some k → depOn ops i k = false) → F j γ v w → Fr (T i) γ w γ' w' → F j γ' v w') (hU : ∀ (i : Nat) (o : Oper), ops[i]? = some o → o.dst = none → ∀ γ v w, F i γ v w → F i γ undef w)
    (hstep : ∀ i o, ops[i]? = some o → StepOk2 P ops Q T sp k0 G F a0 i o)
    (hend : ∀ a w γ, RInv ops sp k0 G F a0 (Array.replicate ops.size true) a w γ → Q .normal a w) :
    ∀ (fuel : Nat) (listed : Array Bool) (a : Act) (w : World) (γ : Nat → Nat), RInv ops sp k0 G F a0 listed a w γ → cntF listed ≤ fuel → (Region.ready .any ops listed = [] → cntF listed = 0) → (∀ l : Array Bool, l.size = ops.size → Region.ready .any ops l = [] → cntF l = 0) → wpAny P .any ops Q fuel listed a w := by
  unfold slotsOk at hs
  simp only [Bool.and_eq_true, decide_eq_true_eq, List.all_eq_true, Array.all_eq_true] at hs
  obtain ⟨⟨hs1, hs2⟩, hs3⟩ := hs
  have full : ∀ (l : Array Bool), cntF l = 0 → l.size = ops.size → l = Array.replicate ops.size true := by
    intro l h0 hl
    apply Array.ext
    · simp [hl]
    · intro i h1 h2
      rw [Array.getElem_replicate]
      unfold cntF at h0
      have h3 := List.length_eq_zero_iff.1 h0
      rw [List.filter_eq_nil_iff] at h3
      have := h3 l[i] (by simp)
      simpa using this
  intro fuel
  induction fuel with
  | zero =>
    intro listed a w γ h hc hr _
    have h0 : cntF listed = 0 := by omega
    have e := full listed h0 h.size
    refine ⟨?_, hend a w γ (e ▸ h)⟩
    rw [e]
    unfold Region.ready
    rw [List.filter_eq_nil_iff]
    intro i hi
    rw [List.mem_range] at hi
    simp [Array.getD, hi]
  | succ fuel ih =>
    intro listed a w γ h hc hr hall
    refine ⟨fun h0 => hend a w γ ((full listed (hr h0) h.size) ▸ h), fun i hi => ?_⟩
    unfold Region.ready at hi
    rw [List.mem_filter, List.mem_range] at hi
    obtain ⟨hlt, hi⟩ := hi
    have ho : ops[i]? = some ops[i] := Array.getElem?_eq_getElem hlt
    rw [ho] at hi
    simp only [Option.map_some, Option.getD_some, Bool.and_eq_true, Bool.not_eq_true', Array.all_eq_true, Bool.or_eq_true] at hi
    obtain ⟨hl, hd⟩ := hi
    have hls : i < listed.size := by rw [h.size]; exact hlt
    have hl' : listed[i] = false := by simpa [Array.getD, hls] using hl
    have hdst : ∀ d, (ops[i]).dst = some d → d < a.tmps.size := fun d hd => by
      rw [h.b.2.1]
      have := hs1 d (List.mem_filterMap.2 ⟨i, by simpa using hlt, by rw [dstAt_eq ho]; exact hd⟩)
      simpa using this
    refine wpOp_step ho (fun K hK => ?_)
    have hg : (ops[i]).guard = none := by
      have := hs3 i hlt
      simpa using this
    rw [if_pos (by simp [Region.wanted, hg])]
    refine hstep i ops[i] ho _ a w γ ?hc0 ?hc1 h.g h.b (fun q he hb hsp => ?_) K (fun v w' γ' hG hFr hFi => hK _ _ ?_)
    case hc0 =>
      rintro (hc | rfl)
      · cases hx : listed.getD k0 false with
        | false => rfl
        | true =>
          have := h.clTr _ k0 i hx hc
          simp [Array.getD, hls, hl'] at this
      · simp [Array.getD, hls, hl']
    case hc1 =>
      intro hc
      unfold depOn at hc
      rw [ho] at hc
      simp only [Array.any_eq_true, Bool.and_eq_true, beq_iff_eq] at hc
      obtain ⟨q, hq, hb, rfl⟩ := hc
      rcases hd q hq with h1 | h1
      · rw [hb] at h1; cases h1
      · exact h1
    · have := hd q he
      rcases this with h1 | h1
      · rw [hb] at h1; cases h1
      · refine h.f _ h1 (fun k hk => ?_)
        rcases hsp with hsp | hsp | ⟨k', hsp, hdk⟩
        · rw [hsp] at hk; cases hk
        · rw [hsp] at hk; cases hk
          simpa [Array.getD, hls] using hl'
        · rw [hsp] at hk; cases hk
          cases hc : listed.getD k false with
          | false => rfl
          | true =>
            have := h.cl k i hc hdk
            simp [Array.getD, hls, hl'] at this
    · have hc' := cntF_set hls hl'
      refine ih _ _ _ γ' ⟨by rw [Array.size_setIfInBounds]; exact h.size, ?hgg, h.b.put ho v, fun k i' hk hd' => ?_, fun j hj hjs => ?_⟩ (by omega) (hall _ (by rw [Array.size_setIfInBounds]; exact h.size)) hall
      case hgg =>
        by_cases ek0 : i = k0
        · subst ek0
          rw [if_pos rfl] at hG
          have : (listed.setIfInBounds i true).getD i false = true := by simp [Array.getD, hls]
          rw [this]; exact hG
        · rw [if_neg ek0] at hG
          rw [Array.getD_eq_getD_getElem?, Array.getElem?_setIfInBounds_ne ek0, ← Array.getD_eq_getD_getElem?]
          exact hG
      · by_cases ek : i = i'
        · subst ek
          simp [Array.getD, hls]
        · rw [Array.getD_eq_getD_getElem?, Array.getElem?_setIfInBounds_ne ek, ← Array.getD_eq_getD_getElem?]
          by_cases ek' : i = k
          · subst ek'
            unfold depOn at hd'
            rw [ho] at hd'
            simp only [Array.any_eq_true, Bool.and_eq_true, beq_iff_eq] at hd'
            obtain ⟨q, hq, hb, rfl⟩ := hd'
            have := hd q hq
            rcases this with h1 | h1
            · rw [hb] at h1; cases h1
            · exact h1
          · rw [Array.getD_eq_getD_getElem?, Array.getElem?_setIfInBounds_ne ek', ← Array.getD_eq_getD_getElem?] at hk
            exact h.cl k i' hk hd'
      by_cases e : i = j
      · subst e
        cases hdd : (ops[i]).dst with
        | none =>
          have : slotV ops i (a.put none v) = undef := by unfold slotV; rw [dstAt_eq ho, hdd]
          rw [this]
          exact hU i _ ho hdd _ _ _ hFi
        | some d =>
          have := slotV_put_same (a := a) ho v (fun hn => by rw [hdd] at hn; cases hn) hdst
          rw [hdd] at this
          rw [this]
          exact hFi
      · rw [slotV_put_other hs2 ho v e]
        have hset : ∀ k, i ≠ k → (listed.setIfInBounds i true).getD k false = listed.getD k false := fun k hk => by
          rw [Array.getD_eq_getD_getElem?, Array.getD_eq_getD_getElem?, Array.getElem?_setIfInBounds_ne hk]
        have hni : sp j ≠ some i := fun hh => by
          have := hjs i hh
          simp [Array.getD, hls] at this
        have hnd : depOn ops j i = false := by
          cases hc : depOn ops j i with
          | false => rfl
          | true =>
            have h1 : listed.getD j false = true := by rw [← hset j e]; exact hj
            have := h.cl j i h1 hc
            simp [Array.getD, hls, hl'] at this
        have hsd : ∀ k, sp j = some k → depOn ops i k = false := fun k hk => by
          cases hc : depOn ops i k with
          | false => rfl
          | true =>
            exfalso
            have h1 := hjs k hk
            have hki : i ≠ k := fun ee => hni (by rw [ee]; exact hk)
            rw [hset k hki] at h1
            unfold depOn at hc
            rw [ho] at hc
            simp only [Array.any_eq_true, Bool.and_eq_true, beq_iff_eq] at hc
            obtain ⟨q, hq, hb, rfl⟩ := hc
            rcases hd q hq with h2 | h2
            · rw [hb] at h2; cases h2
            · rw [h2] at h1; cases h1
        refine hF i j γ γ' _ w w' e hni hnd hsd (h.f j ?_ (fun k hk => by
          have := hjs k hk
          rwa [hset k (fun ee => hni (by rw [ee]; exact hk))] at this)) hFr
        have : (listed.setIfInBounds i true).getD j false = listed.getD j false := by
          rw [Array.getD_eq_getD_getElem?, Array.getD_eq_getD_getElem?, Array.getElem?_setIfInBounds_ne e]
        rw [← this]; exact hj
/-- no operation waits for a later one -/
def earlier (ops : Array Oper) : Bool := (List.range ops.size).all fun i => match ops[i]? with | some o => o.after.all (fun e => !Region.binds .any e || decide (e.on < i)) | none => true
theorem ready_all (he : earlier ops = true) (l : Array Bool) (hl : l.size = ops.size) (h : Region.ready .any ops l = []) : cntF l = 0 := by
  have key : ∀ i, i < ops.size → l.getD i false = true := by
    intro i
    induction i using Nat.strongRecOn with
    | ind i ih =>
      intro hi
      have ho : ops[i]? = some ops[i] := Array.getElem?_eq_getElem hi
      unfold Region.ready at h
      rw [List.filter_eq_nil_iff] at h
      have h1 := h i (by simpa using hi)
      rw [ho] at h1
      have hall : (ops[i]).after.all (fun e => !Region.binds .any e || l.getD e.on false) = true := by
        rw [Array.all_eq_true]
        intro q hq
        unfold earlier at he
        rw [List.all_eq_true] at he
        have h2 := he i (by simpa using hi)
        rw [ho] at h2
        simp only [Array.all_eq_true] at h2
        have h3 := h2 q hq
        cases hb : Region.binds .any (ops[i]).after[q] with
        | false => simp
        | true =>
          rw [hb] at h3
          have h4 : ((ops[i]).after[q]).on < i := by simpa using h3
          rw [ih _ h4 (by omega)]
          simp
      simp only [Option.map_some, Option.getD_some, hall, Bool.and_true] at h1
      have hls : i < l.size := by omega
      simpa [Array.getD, hls] using h1
  unfold cntF
  rw [List.length_eq_zero_iff, List.filter_eq_nil_iff]
  intro b hb
  obtain ⟨i, hi, rfl⟩ := List.mem_iff_getElem.1 hb
  have hi' : i < l.size := by simpa using hi
  have := key i (by omega)
  simpa [Array.getD, hi'] using this
def putAll : List Oper → Nat → (Nat → Value) → Act → Act
  | [], _, _, a => a
  | o :: r, k, x, a => putAll r (k + 1) x (a.put o.dst (x k))
theorem putAll_defers : ∀ (L : List Oper) (m : Nat) (x : Nat → Value) (a : Act), (putAll L m x a).defers = a.defers
  | [], _, _, _ => rfl
  | o :: r, m, x, a => by
    rw [putAll, putAll_defers]
    cases o.dst <;> rfl
theorem putAll_size : ∀ (L : List Oper) (m : Nat) (x : Nat → Value) (a : Act), (putAll L m x a).tmps.size = a.tmps.size
  | [], _, _, _ => rfl
  | o :: r, m, x, a => by
    rw [putAll, putAll_size]
    cases o.dst <;> simp [Act.put]
theorem putAll_other : ∀ (L : List Oper) (m : Nat) (x : Nat → Value) (a : Act) (k : Nat), (∀ o ∈ L, o.dst ≠ some k) → (putAll L m x a).tmps.getD k undef = a.tmps.getD k undef
  | [], _, _, _, _, _ => rfl
  | o :: r, m, x, a, k, h => by
    rw [putAll, putAll_other r _ _ _ _ (fun q hq => h q (.tail _ hq))]
    cases hd : o.dst with
    | none => rfl
    | some d => exact getD_set_ne _ _ _ _ (fun e => h o (.head _) (by rw [hd, e]))
theorem putAll_hit : ∀ (L : List Oper) (m : Nat) (x : Nat → Value) (a : Act) (i k : Nat) (o : Oper), L[i]? = some o → o.dst = some k → (∀ j o', L[j]? = some o' → o'.dst = some k → j = i) → k < a.tmps.size → (putAll L m x a).tmps.getD k undef = x (m + i)
  | [], _, _, _, _, _, _, h, _, _, _ => by simp at h
  | p :: r, m, x, a, 0, k, o, h, hd, hu, hk => by
    have : p = o := by simpa using h
    subst this
    rw [putAll, putAll_other]
    · rw [hd]; exact getD_set_same _ _ _ hk
    · intro q hq e
      obtain ⟨j, hj⟩ := List.mem_iff_getElem?.1 hq
      have := hu (j + 1) q (by simpa using hj) e
      omega
  | p :: r, m, x, a, i + 1, k, o, h, hd, hu, hk => by
    rw [putAll, putAll_hit r (m + 1) x _ i k o (by simpa using h) hd (fun j o' hj e => by have := hu (j + 1) o' (by simpa using hj) e; omega) (by cases p.dst <;> simpa [Act.put] using hk)]
    congr 1; omega
/-- THE LAW: a region that draws its order, one fact an operation -/
theorem wp_region_inv2 {id : Nat} (T : Nat → World → World → Prop) (sp : Nat → Option Nat) (k0 : Nat) (hk0 : k0 < ops.size) (G : Bool → World → Prop) (F : Nat → (Nat → Nat) → Value → World → Prop) {a0 : Act} {w : World} (hm : P.follows .mixedOrders = true) (hs : slotsOk ops a0.tmps.size = true) (he : earlier ops = true)
    (hF : ∀ i j γ γ' v w w', i ≠ j → sp j ≠ some i → depOn ops j i = false → (∀ k, sp j = some k → depOn ops i k = false) → F j γ v w → Fr (T i) γ w γ' w' → F j γ' v w') (hU : ∀ (i : Nat) (o : Oper), ops[i]? = some o → o.dst = none → ∀ γ v w, F i γ v w → F i γ undef w)
    (hG : G false w.drew) (hstep : ∀ i o, ops[i]? = some o → StepOk2 P ops Q T sp k0 G F a0 i o)
    (hend : ∀ (x : Nat → Value) (w' : World) (γ : Nat → Nat), G true w' → (∀ i, i < ops.size → sp i = none → F i γ (x i) w') → Q .normal (putAll ops.toList 0 x a0) w') : (Code.region id ops true).wp P Q a0 w := by
  refine wp_region_any hm ?_
  have hs' := hs
  unfold slotsOk at hs'
  simp only [Bool.and_eq_true, decide_eq_true_eq, List.all_eq_true, Array.all_eq_true] at hs'
  obtain ⟨⟨hs1, hs2⟩, hs3⟩ := hs'
  refine wpAny_inv (T := T) (sp := sp) (k0 := k0) hk0 (G := G) (F := F) (a0 := a0) hs hF hU hstep (fun a w' γ h => ?_) ops.size _ a0 _ (fun _ => 0) ⟨by simp, by simpa [Array.getD, hk0] using hG, ⟨rfl, rfl, fun _ _ => rfl⟩, fun k i hk => ?_, fun i hi _ => ?_⟩ ?_ (fun h => ready_all he _ (by simp) h) (fun l hl h => ready_all he l hl h)
  · have e : a = putAll ops.toList 0 (fun i => slotV ops i a) a0 := by
      obtain ⟨k1, k2, k3⟩ := h.b
      have e1 : a.tmps = (putAll ops.toList 0 (fun i => slotV ops i a) a0).tmps := by
        apply Array.ext
        · rw [putAll_size, k2]
        · intro k h1 h2
          have g1 : a.tmps.getD k undef = a.tmps[k] := by simp [Array.getD, h1]
          have g2 : (putAll ops.toList 0 (fun i => slotV ops i a) a0).tmps.getD k undef = (putAll ops.toList 0 (fun i => slotV ops i a) a0).tmps[k] := by simp only [Array.getD, h2]; rfl
          rw [← g1, ← g2]
          by_cases hx : ∃ (i : Nat) (o : Oper), ops[i]? = some o ∧ o.dst = some k
          · obtain ⟨i, o, hi, hd⟩ := hx
            rw [putAll_hit ops.toList 0 _ a0 i k o (by rw [Array.getElem?_toList]; exact hi) hd (fun j o' hj hd' => slot_other hs2 (by rw [Array.getElem?_toList] at hj; exact hj) hi hd' hd) (by omega)]
            rw [Nat.zero_add]
            unfold slotV
            rw [dstAt_eq hi, hd]
          · rw [putAll_other]
            · exact k3 k (fun i o hi hd => hx ⟨i, o, hi, hd⟩)
            · intro o ho hd
              obtain ⟨i, hi⟩ := List.mem_iff_getElem?.1 ho
              exact hx ⟨i, o, by rw [← Array.getElem?_toList]; exact hi, hd⟩
      have e2 : a.defers = (putAll ops.toList 0 (fun i => slotV ops i a) a0).defers := by rw [putAll_defers, k1]
      generalize putAll ops.toList 0 (fun i => slotV ops i a) a0 = b at e1 e2
      cases a; cases b
      simp_all
    rw [e]
    refine hend _ w' γ (by have := h.g; simpa [Array.getD, hk0] using this) (fun i hi hsp => h.f i (by simp [Array.getD, hi]) (fun k hk => by rw [hsp] at hk; cases hk))
  · exfalso
    simp only [Array.getD, Array.size_replicate] at hk
    split at hk
    · simp at hk
    · cases hk
  · exfalso
    simp only [Array.getD, Array.size_replicate] at hi
    split at hi
    · simp at hi
    · cases hi
  · unfold cntF
    exact Nat.le_trans (List.length_filter_le _ _) (by simp)
/-- an operation's own duty, where what holds throughout is one and the same -/
def StepOk (P : Program) (ops : Array Oper) (Q : Exit → Act → World → Prop) (T : Nat → World → World → Prop) (sp : Nat → Option Nat) (G : World → Prop) (F : Nat → (Nat → Nat) → Value → World → Prop) (a0 : Act) (i : Nat) (o : Oper) : Prop :=
  ∀ (a : Act) (w : World) (γ : Nat → Nat), G w → Kept ops a0 a → (∀ (q : Nat) (hq : q < o.after.size), Region.binds .any (o.after[q]'hq) = true → (sp (o.after[q]'hq).on = none ∨ sp (o.after[q]'hq).on = some i ∨ ∃ k, sp (o.after[q]'hq).on = some k ∧ depOn ops k i = true) → F (o.after[q]'hq).on γ (slotV ops (o.after[q]'hq).on a) w) →
    ∀ K : Act → World → Prop, (∀ v w' γ', G w' → Fr (T i) γ w γ' w' → F i γ' v w' → K (a.put o.dst v) w') → Oper.wp P o a w K Q
theorem wp_region_inv {id : Nat} (T : Nat → World → World → Prop) (sp : Nat → Option Nat) (G : World → Prop) (F : Nat → (Nat → Nat) → Value → World → Prop) {a0 : Act} {w : World} (hm : P.follows .mixedOrders = true) (hs : slotsOk ops a0.tmps.size = true) (he : earlier ops = true)
    (hF : ∀ i j γ γ' v w w', i ≠ j → sp j ≠ some i → depOn ops j i = false → (∀ k, sp j = some k → depOn ops i k = false) → F j γ v w → Fr (T i) γ w γ' w' → F j γ' v w') (hU : ∀ (i : Nat) (o : Oper), ops[i]? = some o → o.dst = none → ∀ γ v w, F i γ v w → F i γ undef w)
    (hG : G w.drew) (hstep : ∀ i o, ops[i]? = some o → StepOk P ops Q T sp G F a0 i o)
    (hend : ∀ (x : Nat → Value) (w' : World) (γ : Nat → Nat), G w' → (∀ i, i < ops.size → sp i = none → F i γ (x i) w') → Q .normal (putAll ops.toList 0 x a0) w') (h0 : 0 < ops.size := by decide) : (Code.region id ops true).wp P Q a0 w :=
  wp_region_inv2 T sp 0 h0 (fun _ => G) F hm hs he hF hU hG (fun i o hi c a w γ _ _ => hstep i o hi a w γ) hend
end
theorem wp_pure {P : Program} {o : Oper} {a : Act} {w : World} {K : Act → World → Prop} {Q : Exit → Act → World → Prop} (v : Value) (h : (execOp a.eval o).run P w = .ok (.value v) w) (hK : K (a.put o.dst v) w) : Oper.wp P o a w K Q := by
  unfold Oper.wp
  rw [h]
  exact hK
theorem wp_val {P : Program} {o : Oper} {a : Act} {w w' : World} {K : Act → World → Prop} {Q : Exit → Act → World → Prop} (v : Value) (h : (execOp a.eval o).run P w = .ok (.value v) w') (hK : K (a.put o.dst v) w') : Oper.wp P o a w K Q := by
  unfold Oper.wp
  rw [h]
  exact hK
theorem wp_skip {P : Program} {o : Oper} {a : Act} {w w' : World} {K : Act → World → Prop} {Q : Exit → Act → World → Prop} (h : (execOp a.eval o).run P w = .ok .skip w') (hK : K (a.put o.dst undef) w') : Oper.wp P o a w K Q := by
  unfold Oper.wp
  rw [h]
  exact hK
theorem append_run {P : Program} {o : Oper} {a : Act} {w w' : World} (s x : Operand) (t : TypeId) (ho : o.op = .call { callee := .builtin .append, args := #[s, x], argTypes := #[t, t] }) {v xv v' : Value} (hs : a.eval s = v) (hx : a.eval x = xv) (hr : (Builtin.append_ #[t, t] o.type #[v, xv]).run P w = .ok v' w') : (execOp a.eval o).run P w = .ok (.value v') w' := by
  unfold execOp
  simp only [ho, resolve, invoke, builtin, Sem.run_bind, Sem.run_pure, Result.andThen_ok, List.map_toArray, List.map_cons, List.map_nil, hs, hx, hr]
def noDst (ops : Array Oper) (k : Nat) : Bool := ops.all (fun o => o.dst != some k)
theorem Kept.at {ops : Array Oper} {a0 a : Act} (h : Kept ops a0 a) (k : Nat) (hc : noDst ops k = true) : a.tmps.getD k undef = a0.tmps.getD k undef := by
  refine h.2.2 k (fun i o hi hd => ?_)
  unfold noDst at hc
  rw [Array.all_eq_true] at hc
  obtain ⟨hlt, rfl⟩ := Array.getElem?_eq_some_iff.1 hi
  have := hc i hlt
  rw [hd] at this
  simp at this
theorem Fr.below {T : World → World → Prop} (γ : Nat → Nat) {w w' : World} (ht : T w w') (c : Nat) : Fr T γ w (fun x => if x = w.heap.size then c else γ x) w' := ⟨ht, fun g hg => if_neg (by omega)⟩
theorem below_alloc (w : World) (o : Obj) : Below w.heap.size w (w.alloc o) := (Below.refl _ _).alloc (Nat.le_refl _) _
theorem store_run {P : Program} {o : Oper} {a : Act} {w : World} (t : TypeId) (x y : Operand) (ho : o.op = .store t x y) {b j : Nat} (hx : a.eval x = .pointer (some ⟨b, j, none⟩)) {v : Value} (hy : a.eval y = v) (ys : List Value) (hv : v.cells = ys.toArray) (h1 : ∀ u ∈ ys, u.oneCell' = true) (hi : (P.info? t).map (·.size) = some ys.length) (ht : w.there b j ys.length) :
    (execOp a.eval o).run P w = .ok .skip (w.setCells b j ys) := by
  unfold execOp
  simp only [ho, hx, hy, Sem.run_bind, run_storeAt_cells hv h1 hi ht, Result.andThen_ok, Sem.run_pure]
end Go.Proofs.Ytdnodaoeflbfkaa
/- Rows of things of k cells, as lists of rows: read, owned, cut, struck. -/
namespace Go.Proofs.Ytdnodaoeflbfkaa
open Go.RowKit
set_option linter.unusedVariables false

/-- a slice that can be read: its rows of k cells -/
def rdR (w : World) (k : Nat) (c : Value) (R : List (List Value)) : Prop :=
  ∃ a cap, c = .slice a R.length cap ∧ R.length ≤ cap ∧ (a = none → cap = 0) ∧ (0 < R.length → ∃ b o, a = some ⟨b, o, none⟩ ∧ ∀ q r j v, R[q]? = some r → r[j]? = some v → w.cell? ⟨b, o + q * k + j, none⟩ = some v)
theorem rdR.below {w w' : World} {k : Nat} {c : Value} {R : List (List Value)} (h : rdR w k c R) (hb : Below w.heap.size w w') : rdR w' k c R := by
  obtain ⟨a, cap, h1, h2, h3, h4⟩ := h
  refine ⟨a, cap, h1, h2, h3, fun hp => ?_⟩
  obtain ⟨b, o, e, hc⟩ := h4 hp
  exact ⟨b, o, e, fun q r j v hq hj => by have := hc q r j v hq hj; exact (hb.cell (p := ⟨b, o + q * k + j, none⟩) (World.block_lt_of_cell? _ _ this)).trans this⟩
/-- whatever keeps its cells -/
theorem rdR.kept {w w' : World} {k : Nat} {c : Value} {R : List (List Value)} (h : rdR w k c R) (hb : ∀ g, c.ownBlock = some g → g < w.heap.size → w'.heap[g]? = w.heap[g]?) : rdR w' k c R := by
  obtain ⟨a, cap, rfl, h2, h3, h4⟩ := h
  refine ⟨a, cap, rfl, h2, h3, fun hp => ?_⟩
  obtain ⟨b, o, rfl, hc⟩ := h4 hp
  exact ⟨b, o, rfl, fun q r j v hq hj => by have := hc q r j v hq hj; exact (World.cell?_of_block (w := w) (hb b rfl (World.block_lt_of_cell? _ _ this))).trans this⟩
theorem rdR.slice {w : World} {k : Nat} {c : Value} {R : List (List Value)} (h : rdR w k c R) : ∃ a cap, c = .slice a R.length cap := by
  obtain ⟨a, cap, h1, _⟩ := h; exact ⟨a, cap, h1⟩
theorem rdR.opened {w : World} {k : Nat} {a : Option Addr} {n cap : Nat} {R : List (List Value)} (h : rdR w k (.slice a n cap) R) (hn : 0 < n) : n = R.length ∧ ∃ b o, a = some ⟨b, o, none⟩ ∧ ∀ q r j v, R[q]? = some r → r[j]? = some v → w.cell? ⟨b, o + q * k + j, none⟩ = some v := by
  obtain ⟨a', cap', e, h2, h3, h4⟩ := h
  cases e
  exact ⟨rfl, h4 hn⟩
/-- all rows have k cells -/
def rowsK (k : Nat) (R : List (List Value)) : Prop := ∀ r ∈ R, r.length = k
theorem rowsK.len {k : Nat} : ∀ {R : List (List Value)}, rowsK k R → R.flatten.length = R.length * k
  | [], _ => by simp
  | r :: R, h => by rw [List.flatten_cons, List.length_append, rowsK.len (fun x hx => h x (.tail _ hx)), h r (.head _), List.length_cons, Nat.succ_mul]; omega
theorem rowsK.tail {k : Nat} {r : List Value} {R : List (List Value)} (h : rowsK k (r :: R)) : rowsK k R := fun x hx => h x (.tail _ hx)
theorem rowsK.take {k : Nat} {R : List (List Value)} (h : rowsK k R) (i : Nat) : rowsK k (R.take i) := fun x hx => h x (List.mem_of_mem_take hx)
theorem rowsK.drop {k : Nat} {R : List (List Value)} (h : rowsK k R) (i : Nat) : rowsK k (R.drop i) := fun x hx => h x (List.mem_of_mem_drop hx)
theorem rowsK.app {k : Nat} {R T : List (List Value)} (h : rowsK k R) (g : rowsK k T) : rowsK k (R ++ T) := fun x hx => (List.mem_append.1 hx).elim (h x) (g x)
theorem flat_take {k : Nat} : ∀ (R : List (List Value)) (i : Nat), rowsK k R → (R.take i).flatten = R.flatten.take (i * k)
  | R, 0, h => by simp
  | [], i + 1, h => by simp
  | r :: R, i + 1, h => by
    have hr := h r (.head _)
    have e1 : List.take (i * k + k) r = r := List.take_of_length_le (by omega)
    rw [List.take_succ_cons, List.flatten_cons, List.flatten_cons, flat_take R i h.tail, Nat.succ_mul, List.take_append, e1, show i * k + k - r.length = i * k by omega]
theorem flat_drop {k : Nat} : ∀ (R : List (List Value)) (i : Nat), rowsK k R → (R.drop i).flatten = R.flatten.drop (i * k)
  | R, 0, h => by simp
  | [], i + 1, h => by simp
  | r :: R, i + 1, h => by
    have hr := h r (.head _)
    have e1 : List.drop (i * k + k) r = [] := List.drop_of_length_le (by omega)
    rw [List.drop_succ_cons, List.flatten_cons, flat_drop R i h.tail, Nat.succ_mul, List.drop_append, e1, List.nil_append, show i * k + k - r.length = i * k by omega]
theorem rowsR_get {k : Nat} : ∀ (R : List (List Value)) (q : Nat) (r : List Value) (j : Nat) (v : Value), rowsK k R → R[q]? = some r → r[j]? = some v → R.flatten[q * k + j]? = some v
  | [], q, r, j, v, h, hq, hj => by simp at hq
  | x :: R, 0, r, j, v, h, hq, hj => by
    cases hq
    rw [Nat.zero_mul, Nat.zero_add, List.flatten_cons, List.getElem?_append_left (List.getElem?_eq_some_iff.1 hj).1, hj]
  | x :: R, q + 1, r, j, v, h, hq, hj => by
    have hr := h x (.head _)
    rw [List.flatten_cons, List.getElem?_append_right (by rw [Nat.succ_mul]; omega), show (q + 1) * k + j - x.length = q * k + j by rw [Nat.succ_mul]; omega]
    exact rowsR_get R q r j v h.tail (by simpa using hq) hj
theorem flat_set {k : Nat} : ∀ (R : List (List Value)) (q : Nat) (r : List Value) (j : Nat) (v : Value), rowsK k R → R[q]? = some r → j < k → R.flatten.set (q * k + j) v = (R.set q (r.set j v)).flatten
  | [], q, r, j, v, h, hq, hj => by simp at hq
  | x :: R, 0, r, j, v, h, hq, hj => by
    cases hq
    have hr := h x (.head _)
    rw [Nat.zero_mul, Nat.zero_add, List.flatten_cons, List.set_append_left _ _ (by omega), List.set_cons_zero, List.flatten_cons]
  | x :: R, q + 1, r, j, v, h, hq, hj => by
    have hr := h x (.head _)
    rw [List.flatten_cons, List.set_append_right _ _ (by rw [Nat.succ_mul]; omega), show (q + 1) * k + j - x.length = q * k + j by rw [Nat.succ_mul]; omega, flat_set R q r j v h.tail (by simpa using hq) hj, List.set_cons_succ, List.flatten_cons]
/-- a slice of rows of one's own -/
def ownR (w : World) (base : Nat) (e : TypeId) (k : Nat) (v : Value) (R : List (List Value)) : Prop := rowsK k R ∧ w.ownsRow base e k v R.length R.flatten
theorem ownR.nil (w : World) (base : Nat) (e : TypeId) (k : Nat) : ownR w base e k (.slice none 0 0) [] := ⟨fun r hr => by simp at hr, World.ownsRow_nil w base e k⟩
theorem ownR.frame {w w' : World} {base : Nat} {e : TypeId} {k : Nat} {v : Value} {R : List (List Value)} (h : ownR w base e k v R) (hS : ∀ g ∈ blkOf v, w'.heap[g]? = w.heap[g]?) : ownR w' base e k v R := ⟨h.1, uowns_frame h.2 hS⟩
theorem ownR.lt {w : World} {base : Nat} {e : TypeId} {k : Nat} {v : Value} {R : List (List Value)} (h : ownR w base e k v R) : ∀ g ∈ blkOf v, base ≤ g ∧ g < w.heap.size := ublk_lt h.2
theorem ownR.below {w w' : World} {base : Nat} {e : TypeId} {k : Nat} {v : Value} {R : List (List Value)} (h : ownR w base e k v R) (hb : Below w.heap.size w w') : ownR w' base e k v R := h.frame (fun g hg => hb.block g (h.lt g hg).2)
theorem ownR.grown {w w' : World} {base : Nat} {e : TypeId} {k : Nat} {v : Value} {R : List (List Value)} {row : Option Nat} (h : ownR w base e k v R) (hg : w.grownBy w' row) (hne : ∀ g ∈ blkOf v, some g ≠ row) : ownR w' base e k v R := h.frame (fun g hb => hg.block g (h.lt g hb).2 (hne g hb))
theorem ownR.setCell {w : World} {base : Nat} {e : TypeId} {k : Nat} {v : Value} {R : List (List Value)} (h : ownR w base e k v R) (p : Addr) (hp : p.block ∉ blkOf v) (u : Value) : ownR (w.setCell p u) base e k v R := h.frame (fun g hg => Below.heap_setCell w p u g (fun e => hp (by rw [← e]; exact hg)))
theorem ownR.mono {w : World} {base base' : Nat} {e : TypeId} {k : Nat} {v : Value} {R : List (List Value)} (h : ownR w base e k v R) (hb : base' ≤ base) : ownR w base' e k v R := by
  obtain ⟨h1, h2, h3⟩ := h
  refine ⟨h1, h2, ?_⟩
  rcases h3 with h3 | ⟨g, cap, cur, a1, a2, a3⟩
  · exact .inl h3
  · exact .inr ⟨g, cap, cur, a1, Nat.le_trans hb a2, a3⟩
theorem ownR.slice {w : World} {base : Nat} {e : TypeId} {k : Nat} {v : Value} {R : List (List Value)} (h : ownR w base e k v R) : ∃ a cap, v = .slice a R.length cap := uowns_slice h.2
theorem ownR.rd {w : World} {base : Nat} {e : TypeId} {k : Nat} {v : Value} {R : List (List Value)} (h : ownR w base e k v R) (hk : 0 < k) : rdR w k v R := by
  obtain ⟨h1, h2⟩ := h
  have h2' := h2
  rcases h2.2 with ⟨rfl, h0⟩ | ⟨g, cap, cur, rfl, h3, h4, h5, h6⟩
  · exact ⟨none, 0, by rw [h0], by omega, fun _ => rfl, fun hp => by omega⟩
  · refine ⟨_, cap, rfl, h5, (fun e => by cases e), fun hp => ⟨g, 0, rfl, fun q r j v hq hj => ?_⟩⟩
    have hf := rowsR_get R q r j v h1 hq hj
    have hl := h1.len
    have hlt := (List.getElem?_eq_some_iff.1 hf).1
    rw [Nat.zero_add, h2'.cellAt (q * k + j) (by omega), hf]
/-- opened: its block -/
theorem ownR.opened {w : World} {base : Nat} {e : TypeId} {k : Nat} {v : Value} {R : List (List Value)} (h : ownR w base e k v R) (hn : 0 < R.length) : ∃ g cap, v = .slice (some ⟨g, 0, none⟩) R.length cap ∧ base ≤ g ∧ g < w.heap.size ∧ R.length ≤ cap ∧ blkOf v = [g] ∧
    (∀ q r j u, R[q]? = some r → r[j]? = some u → w.cell? ⟨g, q * k + j, none⟩ = some u) ∧ (∀ j, w.frozen? ⟨g, j, none⟩ = false) := by
  obtain ⟨h1, h2⟩ := h
  have h2' := h2
  rcases h2.2 with ⟨rfl, h0⟩ | ⟨g, cap, cur, rfl, h3, h4, h5, h6⟩
  · omega
  · refine ⟨g, cap, rfl, h3, (Array.getElem?_eq_some_iff.1 h4).1, h5, rfl, fun q r j v hq hj => ?_, fun j => h2'.frozenAt j⟩
    have hf := rowsR_get R q r j v h1 hq hj
    have hl := h1.len
    have hlt := (List.getElem?_eq_some_iff.1 hf).1
    rw [h2'.cellAt (q * k + j) (by omega), hf]
/-- a cell of it is stored -/
theorem ownR.store {w : World} {base : Nat} {e : TypeId} {k g n cap : Nat} {R : List (List Value)} (h : ownR w base e k (.slice (some ⟨g, 0, none⟩) n cap) R) (q j : Nat) (r : List Value) (u : Value) (hq : R[q]? = some r) (hj : j < k) :
    ownR (w.setCell ⟨g, q * k + j, none⟩ u) base e k (.slice (some ⟨g, 0, none⟩) n cap) (R.set q (r.set j u)) := by
  obtain ⟨h1, h2⟩ := h
  have hn : n = R.length := by
    rcases h2.2 with ⟨e', _⟩ | ⟨g', cap', cur, e', _⟩
    · cases e'
    · cases e'; rfl
  subst hn
  have h3 := (h2.stored (q * k + j) u).1
  rw [flat_set R q r j u h1 hq hj] at h3
  refine ⟨fun x hx => ?_, by rw [List.length_set]; exact h3⟩
  rcases List.mem_or_eq_of_mem_set hx with hx | rfl
  · exact h1 x hx
  · rw [List.length_set]; exact h1 r (List.mem_of_getElem? hq)
/-- memory where many cells are stored -/
theorem heap_setCells_same (g : Nat) (e : TypeId) : ∀ (vs : List Value) (o : Nat) (w : World) (cur : Array Value), w.heap[g]? = some (.cells cur e (0, 0)) → o + vs.length ≤ cur.size →
    ∃ cur' : Array Value, (w.setCells g o vs).heap[g]? = some (.cells cur' e (0, 0)) ∧ cur'.toList = cur.toList.take o ++ vs ++ cur.toList.drop (o + vs.length)
  | [], o, w, cur, h, hl => ⟨cur, h, by simp⟩
  | v :: r, o, w, cur, h, hl => by
    rw [List.length_cons] at hl
    obtain ⟨cur', h1, h2⟩ := heap_setCells_same g e r (o + 1) (w.setCell ⟨g, o, none⟩ v) (cur.setIfInBounds o v) (heap_setCell_same w g o cur e v h) (by simp; omega)
    refine ⟨cur', h1, ?_⟩
    rw [h2, Array.toList_setIfInBounds, List.length_cons]
    have hlo : o < cur.toList.length := by simp; omega
    rw [List.take_set, List.drop_set_of_lt (by omega)]
    rw [show List.take (o + 1) cur.toList = List.take o cur.toList ++ [cur.toList[o]] by rw [List.take_add_one, List.getElem?_eq_getElem hlo]; rfl]
    rw [List.set_append_right _ _ (by simp; omega)]
    have : o - (List.take o cur.toList).length = 0 := by simp; omega
    rw [this, List.set_cons_zero]
    simp [List.append_assoc, Nat.add_comm, Nat.add_left_comm]
theorem grown_setCells (w : World) (g o : Nat) (vs : List Value) : w.grownBy (w.setCells g o vs) (some g) := by
  obtain ⟨h1, h2, h3, h4⟩ : (w.setCells g o vs).os = w.os ∧ (w.setCells g o vs).tape = w.tape ∧ (w.setCells g o vs).output = w.output ∧ (w.setCells g o vs).heap.size = w.heap.size := by
    induction vs generalizing o w with
    | nil => exact ⟨rfl, rfl, rfl, rfl⟩
    | cons v r ih =>
      obtain ⟨a, b, c, d⟩ := ih (w.setCell ⟨g, o, none⟩ v) (o + 1)
      exact ⟨a, b, c, d.trans (by simp [World.setCell])⟩
  refine ⟨h1, h2, h3, by omega, fun k hk hne => ?_⟩
  induction vs generalizing o w with
  | nil => rfl
  | cons v r ih =>
    have := ih (w.setCell ⟨g, o, none⟩ v) (o + 1)
    simp only [World.setCells]
    have e1 : (w.setCell ⟨g, o, none⟩ v).heap[k]? = w.heap[k]? := Below.heap_setCell w _ v k (fun e => hne (by rw [e]))
    obtain ⟨a1, a2, a3, a4⟩ : ((w.setCell ⟨g, o, none⟩ v).setCells g (o + 1) r).os = (w.setCell ⟨g, o, none⟩ v).os ∧ ((w.setCell ⟨g, o, none⟩ v).setCells g (o + 1) r).tape = (w.setCell ⟨g, o, none⟩ v).tape ∧ ((w.setCell ⟨g, o, none⟩ v).setCells g (o + 1) r).output = (w.setCell ⟨g, o, none⟩ v).output ∧ ((w.setCell ⟨g, o, none⟩ v).setCells g (o + 1) r).heap.size = (w.setCell ⟨g, o, none⟩ v).heap.size := by
      refine ⟨h1, h2, h3, h4.trans (by simp [World.setCell])⟩
    exact (this a1 a2 a3 a4 (by simpa [World.setCell] using hk)).trans e1
/-- clear(s) at elements of k cells -/
theorem run_clear_k {P : Program} (w : World) (t e ty : TypeId) (z : Value) (zs : List Value) (ht : P.underlying t = some (.slice e)) (hv : ∀ w, (zeroValue e).run P w = .ok z w) (hz : z.cells = zs.toArray) (h1 : ∀ u ∈ zs, u.oneCell' = true) (b o n c : Nat) (hn : 0 < n)
    (hc : ∀ j, j < n * zs.length → (w.cell? ⟨b, o + j, none⟩).isSome = true) (hf : ∀ j, j < n * zs.length → w.frozen? ⟨b, o + j, none⟩ = false) :
    ∃ vs : List Value, vs.length = n * zs.length ∧ (Builtin.clear_ #[t] ty #[.slice (some ⟨b, o, none⟩) n c]).run P w = .ok (.tuple #[]) (w.setCells b o vs) := by
  have hl : (Builtin.zeroCells z.cells n).toList.length = n * zs.length := by rw [Array.length_toList, size_zeroCells, hz]; simp
  have hm : ∀ u ∈ (Builtin.zeroCells z.cells n).toList, u.oneCell' = true := by
    intro u hu
    rw [hz] at hu
    simp [Builtin.zeroCells] at hu
    obtain ⟨i, hi, rfl⟩ := hu
    have hp : 0 < zs.length := by rcases Nat.eq_zero_or_pos zs.length with h | h; · rw [h] at hi; omega
                                  · exact h
    have : i % zs.length < zs.length := Nat.mod_lt _ hp
    first | exact h1 _ (List.getElem_mem this) | (rw [List.getElem?_eq_getElem this]; exact h1 _ (List.getElem_mem this)) | (simp [this]; exact h1 _ (List.getElem_mem this))
  refine ⟨(Builtin.zeroCells z.cells n).toList, hl, ?_⟩
  have hst := run_storeCells_cells (P := P) b o (Builtin.zeroCells z.cells n).toList 0 w (by rw [hl]; simpa using hc) (by rw [hl]; simpa using hf) hm
  simp only [Nat.add_zero] at hst
  obtain ⟨m, rfl⟩ : ∃ m, n = m + 1 := ⟨n - 1, by omega⟩
  simp [Builtin.clear_, run_underlying ht, hv, hst]
end Go.Proofs.Ytdnodaoeflbfkaa
/- Rows of things of k cells: append of what can be read, parts of a slice, the library's Delete. -/
namespace Go.Proofs.Ytdnodaoeflbfkaa
open Go.RowKit
set_option linter.unusedVariables false

/-- a slice type, its elements of k cells -/
def elT (P : Program) (t e : TypeId) (k : Nat) : Prop := P.underlying t = some (.slice e) ∧ ∃ i z, P.info? e = some i ∧ i.zero = some z ∧ i.size = k ∧ z.cells.size = k ∧ i.bytes ≤ 1000
theorem elT_of {P : Program} {t e : TypeId} {k b : Nat} (h1 : P.underlying t = some (.slice e)) (h2 : (P.info? e).map (fun i => (i.zero.map (fun z => z.cells.size), i.size, i.bytes)) = some (some k, k, b)) (hb : b ≤ 1000) : elT P t e k := by
  refine ⟨h1, ?_⟩
  cases hi : P.info? e with
  | none => rw [hi] at h2; cases h2
  | some i =>
    rw [hi] at h2
    simp only [Option.map_some, Option.some.injEq, Prod.mk.injEq] at h2
    obtain ⟨g1, g2, g3⟩ := h2
    cases hz : i.zero with
    | none => rw [hz] at g1; cases g1
    | some z =>
      rw [hz] at g1
      simp only [Option.map_some, Option.some.injEq] at g1
      exact ⟨i, z, rfl, hz, g2, g1, by omega⟩
theorem flat_inv {k : Nat} (hk : 0 < k) : ∀ (R : List (List Value)) (j : Nat) (u : Value), rowsK k R → R.flatten[j]? = some u → ∃ q r i, R[q]? = some r ∧ r[i]? = some u ∧ j = q * k + i
  | [], j, u, h, hj => by simp at hj
  | x :: R, j, u, h, hj => by
    have hx := h x (.head _)
    rw [List.flatten_cons] at hj
    by_cases hlt : j < k
    · rw [List.getElem?_append_left (by omega)] at hj
      exact ⟨0, x, j, rfl, hj, by omega⟩
    · rw [List.getElem?_append_right (by omega), hx] at hj
      obtain ⟨q, r, i, h1, h2, h3⟩ := flat_inv hk R (j - k) u h.tail hj
      exact ⟨q + 1, r, i, by simpa using h1, h2, by rw [Nat.succ_mul]; omega⟩
def oneR (R : List (List Value)) : Prop := ∀ r ∈ R, ∀ u ∈ r, u.oneCell' = true
theorem oneR.flat {R : List (List Value)} (h : oneR R) : ∀ u ∈ R.flatten, u.oneCell' = true := fun u hu => by
  obtain ⟨r, hr, hu⟩ := List.mem_flatten.1 hu
  exact h r hr u hu
section
variable {P : Program} {w : World} {t e : TypeId} {k : Nat}
theorem run_append_rd (hE : elT P t e k) (hk0 : 0 < k) (ty : TypeId) (base : Nat) (v : Value) (R0 : List (List Value)) (hown : ownR w base e k v R0) (xv : Value) (R : List (List Value)) (hr : rdR w k xv R) (hk : rowsK k R) (h1 : oneR R)
    (hn : R0.length + R.length ≤ 10000000) (hbase : base ≤ w.heap.size) :
    ∃ v' w', (Builtin.append_ #[t, t] ty #[v, xv]).run P w = .ok v' w' ∧ ownR w' base e k v' (R0 ++ R) ∧ w.grownBy w' v.ownBlock ∧ (v'.ownBlock = v.ownBlock ∨ v'.ownBlock = some w.heap.size) := by
  obtain ⟨ht, i, z, hi, hz, hs, hzs, hb⟩ := hE
  obtain ⟨a, cap, rfl, g1, g2, g3⟩ := hr
  cases a with
  | none =>
    have hc := g2 rfl
    subst hc
    have h0 : R = [] := List.length_eq_zero_iff.1 (by omega)
    subst h0
    exact ⟨v, w, run_append_owned_none (P := P) (w := w) base t ty e i k ht hi v _ _ hown.2, by rw [List.append_nil]; exact hown, World.grownBy.refl w _, .inl rfl⟩
  | some ad =>
    have hsrc : ∀ j u, R.flatten[j]? = some u → w.cell? (ad.add j) = some u := by
      intro j u hj
      obtain ⟨q, r, i', q1, q2, rfl⟩ := flat_inv hk0 R j u hk hj
      obtain ⟨b, o, e', hc⟩ := g3 (by have := (List.getElem?_eq_some_iff.1 q1).1; omega)
      cases e'
      rw [Go.WideShapes.add_plain, ← Nat.add_assoc]
      exact hc q r i' u q1 q2
    obtain ⟨v', w', e1, e2, e3, -, e5⟩ := run_append_own_at (P := P) w base t ty e i z k i.bytes ht hi hz hs rfl hzs hk0 v _ _ hown.2 ad R.length cap R.flatten hk.len hsrc h1.flat (by unfold maxLen; omega) (by
      have : (R0.length + R.length) * i.bytes ≤ 10000000 * 1000 := Nat.mul_le_mul hn hb
      omega) hbase
    exact ⟨v', w', e1, ⟨hown.1.app hk, by rw [List.length_append, List.flatten_append]; exact e2⟩, e3, e5⟩
theorem run_append_lit (ht : P.underlying t = some (.slice e)) {i : TypeInfo} {z : Value} (hi : P.info? e = some i) (hz : i.zero = some z) (ty : TypeId) (g : Nat) (ad : Addr) (n c : Nat) (news : List Value) (hl : news.length = n * i.size) (hnews : ∀ j u, news[j]? = some u → w.cell? (ad.add j) = some u) (h1 : ∀ u ∈ news, u.oneCell' = true) (hn : 0 < n) (h63 : n ≤ 10000000) (hb : i.bytes ≤ 1000) :
    (Builtin.append_ #[t, t] ty #[.slice (some ⟨g, 0, none⟩) 0 0, .slice (some ad) n c]).run P w = (Builtin.append_ #[t, t] ty #[.slice none 0 0, .slice (some ad) n c]).run P w := by
  have hs : Src P i.size t (.slice (some ad) n c) n news w := Src.ofSlice w ht ad n c news hl hnews h1
  have hcap : Builtin.nextslicecap (0 + n) 0 * i.bytes ≤ 281474976710656 := by
    have : Builtin.nextslicecap (0 + n) 0 = 0 + n := by unfold Builtin.nextslicecap; rw [if_pos (by omega)]
    rw [this]
    have : (0 + n) * i.bytes ≤ 10000000 * 1000 := Nat.mul_le_mul (by omega) hb
    omega
  rw [run_append_grow_src w t t ty e i z ht hi hz (some ⟨g, 0, none⟩) 0 0 [] (run_firstCells_some w.drew i.size 0 ⟨g, 0, none⟩ 0 0 [] (by simp) (by simp)) (.slice (some ad) n c) n news hs (by omega) (by omega) hcap]
  rw [run_append_grow_src w t t ty e i z ht hi hz none 0 0 [] (run_firstCells_none w.drew i.size 0 0 0) (.slice (some ad) n c) n news hs (by omega) (by omega) hcap]
/-- append behind a list that was just made and has no room -/
theorem run_append_rd0 (hE : elT P t e k) (hk0 : 0 < k) (ty : TypeId) (base g : Nat) (hown : ownR w base e k (.slice (some ⟨g, 0, none⟩) 0 0) []) (xv : Value) (R : List (List Value)) (hr : rdR w k xv R) (hk : rowsK k R) (h1 : oneR R)
    (hn : R.length ≤ 10000000) (hbase : base ≤ w.heap.size) :
    ∃ v' w', (Builtin.append_ #[t, t] ty #[.slice (some ⟨g, 0, none⟩) 0 0, xv]).run P w = .ok v' w' ∧ ownR w' base e k v' R ∧ Below w.heap.size w w' ∧ (v'.ownBlock = some g ∨ v'.ownBlock = some w.heap.size) := by
  have hE' := hE
  obtain ⟨ht, i, z, hi, hz, hs, hzs, hb⟩ := hE
  have hr' := hr
  obtain ⟨a, cap, rfl, g1, g2, g3⟩ := hr
  rcases Nat.eq_zero_or_pos R.length with h0 | hp
  · have e0 : R = [] := List.length_eq_zero_iff.1 h0
    subst e0
    refine ⟨_, w, ?_, hown, Below.refl _ _, .inl rfl⟩
    cases a with
    | none =>
      have hc := g2 rfl
      subst hc
      exact run_append_owned_none (P := P) (w := w) base t ty e i k ht hi _ _ _ hown.2
    | some ad =>
      have hf := run_firstCells_some (P := P) w i.size 0 ad 0 cap [] (by simp) (by simp)
      simp [Builtin.append_, run_underlying ht, sizeOf, typeInfo, hi, Builtin.lenOf, hf, storeCells]
  · obtain ⟨b, o, rfl, hc⟩ := g3 hp
    obtain ⟨v', w', e1, e2, e3, e5⟩ := run_append_rd hE' hk0 ty base (.slice none 0 0) [] (ownR.nil w base e k) _ R hr' hk h1 (by simp; omega) hbase
    have hsrc : ∀ j u, R.flatten[j]? = some u → w.cell? ((⟨b, o, none⟩ : Addr).add j) = some u := by
      intro j u hj
      obtain ⟨q, r, i', q1, q2, rfl⟩ := flat_inv hk0 R j u hk hj
      rw [Go.WideShapes.add_plain, ← Nat.add_assoc]
      exact hc q r i' u q1 q2
    refine ⟨v', w', ?_, e2, ⟨e3.os, e3.tape, e3.output, e3.size, fun k hk => e3.block k hk (fun e => by cases e)⟩, ?_⟩
    · rw [run_append_lit ht hi hz ty g _ R.length cap R.flatten (by rw [hs]; exact hk.len) hsrc h1.flat hp hn hb]
      exact e1
    · rcases e5 with h | h
      · exfalso
        rcases e2.2.2 with ⟨hv, hl⟩ | ⟨g', cap', cur, hv, _⟩
        · exact absurd (show ([] ++ R).length = 0 from hl) (by rw [List.nil_append]; omega)
        · rw [hv] at h; cases h
      · exact .inr h
/-- what stands behind an operation: the walk stops here -/
def After (φ : Value → World → Prop) : Prop := ∀ v' w', φ v' w'
theorem wpList_append_rd {ops : Array Oper} {rest : List Oper} {o : Oper} {a : Act} {Q : Exit → Act → World → Prop} (hgd : o.guard = none) (s x : Operand) (t : TypeId)
    (ho : o.op = .call { callee := .builtin .append, args := #[s, x], argTypes := #[t, t] }) (e : TypeId) (k : Nat) (hE : elT P t e k) (hk0 : 0 < k) (base : Nat) (v : Value) (R0 : List (List Value)) (hs : a.eval s = v) (hown : ownR w base e k v R0)
    (xv : Value) (R : List (List Value)) (hx : a.eval x = xv) (hr : rdR w k xv R) (hk : rowsK k R) (h1 : oneR R) (hn : R0.length + R.length ≤ 10000000) (hbase : base ≤ w.heap.size)
    (h : After fun v' w' => ownR w' base e k v' (R0 ++ R) → w.grownBy w' v.ownBlock → (v'.ownBlock = v.ownBlock ∨ v'.ownBlock = some w.heap.size) → wpList P ops Q rest (a.put o.dst v') w') : wpList P ops Q (o :: rest) a w := by
  refine wpList_plain hgd fun K hK => ?_
  obtain ⟨v', w', hr, h2, h3, h5⟩ := run_append_rd hE hk0 o.type base v R0 hown xv R hr hk h1 hn hbase
  unfold Oper.wp execOp
  simp only [ho, resolve, invoke, builtin, Sem.run_bind, Sem.run_pure, Result.andThen_ok, List.map_toArray, List.map_cons, List.map_nil, hs, hx, hr]
  exact hK _ _ (h v' w' h2 h3 h5)
theorem step_append_rd {ops : Array Oper} {o : Oper} {a : Act} {K : Act → World → Prop} {Q : Exit → Act → World → Prop} {E : Prop} (hgd : o.guard = none) (s x : Operand) (t : TypeId)
    (ho : o.op = .call { callee := .builtin .append, args := #[s, x], argTypes := #[t, t] }) (e : TypeId) (k : Nat) (hE : elT P t e k) (hk0 : 0 < k) (base : Nat) (v : Value) (R0 : List (List Value)) (hs : a.eval s = v) (hown : ownR w base e k v R0)
    (xv : Value) (R : List (List Value)) (hx : a.eval x = xv) (hr : rdR w k xv R) (hk : rowsK k R) (h1 : oneR R) (hn : R0.length + R.length ≤ 10000000) (hbase : base ≤ w.heap.size)
    (h : ∀ v' w', ownR w' base e k v' (R0 ++ R) → w.grownBy w' v.ownBlock → (v'.ownBlock = v.ownBlock ∨ v'.ownBlock = some w.heap.size) → K (a.put o.dst v') w') :
    if Region.wanted o (yielded ops a.tmps) = true then Oper.wp P o a w K Q else E := by
  have hw : Region.wanted o (yielded ops a.tmps) = true := by simp [Region.wanted, hgd]
  rw [if_pos hw]
  obtain ⟨v', w', hr, h2, h3, h5⟩ := run_append_rd hE hk0 o.type base v R0 hown xv R hr hk h1 hn hbase
  unfold Oper.wp execOp
  simp only [ho, resolve, invoke, builtin, Sem.run_bind, Sem.run_pure, Result.andThen_ok, List.map_toArray, List.map_cons, List.map_nil, hs, hx, hr]
  exact h v' w' h2 h3 h5
end
/-- what lies in a block that was just laid -/
theorem rdR.block {w : World} {g k : Nat} {e : TypeId} {r : List Value} (n : Nat) (h : objU w g e r) (hr : r.length = k) : rdR w k (.slice (some ⟨g, 0, none⟩) 1 n) [r] ∨ n = 0 := by
  rcases Nat.eq_zero_or_pos n with h0 | hp
  · exact .inr h0
  · refine .inl ⟨_, n, rfl, hp, (fun h => by cases h), fun _ => ⟨g, 0, rfl, fun q r' j v hq hj => ?_⟩⟩
    cases q with
    | zero =>
      cases hq
      have := h.cell j v hj
      rw [← this]; congr 2; omega
    | succ q => simp at hq
theorem rdR.one {w : World} {g k : Nat} {e : TypeId} {r : List Value} (h : objU w g e r) : rdR w k (.slice (some ⟨g, 0, none⟩) 1 1) [r] := by
  refine ⟨_, 1, rfl, Nat.le_refl _, (fun h => by cases h), fun _ => ⟨g, 0, rfl, fun q r' j v hq hj => ?_⟩⟩
  cases q with
  | zero =>
    cases hq
    have := h.cell j v hj
    rw [← this]; congr 2; omega
  | succ q => simp at hq
/-- the beginning and the end of a slice -/
theorem rdR.take {w : World} {k : Nat} {a : Option Addr} {n cap : Nat} {R : List (List Value)} (h : rdR w k (.slice a n cap) R) {i : Nat} (hi : i ≤ R.length) : rdR w k (.slice a i cap) (R.take i) := by
  obtain ⟨a', cap', e, h2, h3, h4⟩ := h
  cases e
  refine ⟨a, cap, by rw [List.length_take, Nat.min_eq_left hi], by rw [List.length_take]; omega, h3, fun hp => ?_⟩
  rw [List.length_take] at hp
  obtain ⟨b, o, rfl, hc⟩ := h4 (by omega)
  exact ⟨b, o, rfl, fun q r j v hq hj => hc q r j v (by rw [List.getElem?_take] at hq; split at hq; exact hq; cases hq) hj⟩
theorem rdR.drop {w : World} {k : Nat} {b o n cap : Nat} {R : List (List Value)} (h : rdR w k (.slice (some ⟨b, o, none⟩) n cap) R) {i : Nat} (hi : i ≤ R.length) {A : Option Addr} (hA : A = if cap = i then some ⟨b, o, none⟩ else some ⟨b, o + i * k, none⟩) : rdR w k (.slice A (R.length - i) (cap - i)) (R.drop i) := by
  obtain ⟨a', cap', e, h2, h3, h4⟩ := h
  cases e
  refine ⟨A, cap - i, by rw [List.length_drop], by rw [List.length_drop]; omega, (fun hn => by rw [hA] at hn; split at hn <;> cases hn), fun hp => ?_⟩
  rw [List.length_drop] at hp
  obtain ⟨b', o', e', hc⟩ := h4 (by omega)
  cases e'
  refine ⟨b, o + i * k, by rw [hA, if_neg (by omega)], fun q r j v hq hj => ?_⟩
  rw [List.getElem?_drop] at hq
  rw [← hc (i + q) r j v hq hj]
  congr 2
  rw [Nat.add_mul]; omega
theorem grown_below {w w' : World} (h : w.grownBy w' none) : Below w.heap.size w w' := ⟨h.os, h.tape, h.output, h.size, fun k hk => h.block k hk (fun e => by cases e)⟩
theorem grown_out {w w' : World} {g : Nat} (h : w.grownBy w' (some g)) : OutS [g] w w' := ⟨h.os, h.tape, h.output, h.size, fun k hk hn => h.block k hk (fun e => hn (by cases e; simp))⟩
theorem blk_own {v : Value} {g : Nat} : g ∈ blkOf v ↔ v.ownBlock = some g := by
  unfold blkOf
  cases v.ownBlock with
  | none => simp
  | some b => simp [eq_comm]
end Go.Proofs.Ytdnodaoeflbfkaa
