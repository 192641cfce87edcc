/- spec.l6Wants: what each would get. -/
import Derived.Test.YtdnodaoeflbfkaaShrS
import Derived.Test.YtdnodaoeflbfkaaShrD
import Derived.Deep.OwnRows
namespace Go.Proofs.Ytdnodaoeflbfkaa
open Go.RowKit Go.BigFrame
set_option linter.unusedVariables false
theorem rowIs_below {w w' : World} {b : Nat} {t : TypeId} {n : Nat} {f : Nat → Value} (h : w.rowIs b t n f) (hb : Below w.heap.size w w') : w'.rowIs b t n f := h.of_block (hb.block b h.lt)
theorem cell_lt {w : World} {p : Addr} {v : Value} (h : w.cell? p = some v) : p.block < w.heap.size := by
  simp only [World.cell?] at h
  cases e : w.heap[p.block]? with
  | none => rw [e] at h; cases h
  | some o => exact (Array.getElem?_eq_some_iff.1 e).1
theorem sumTo_succ (f : Nat → Int) (k : Nat) : sumTo f (k + 1) = sumTo f k + f k := rfl
theorem quo_bd {m s : Int} {w : Nat → Int} {i : Nat} (hm : 0 ≤ m) (hs : 0 < s) (hw : 0 ≤ w i) : 0 ≤ quo m s w i ∧ quo m s w i ≤ m * w i ∧ (m * w i).tdiv s = quo m s w i ∧ 0 ≤ rem m s w i ∧ rem m s w i < s ∧ (m * w i).tmod s = rem m s w i := by
  have h := Int.mul_nonneg hm hw
  unfold quo rem
  exact ⟨Int.ediv_nonneg h (by omega), Int.ediv_le_self _ h, Int.tdiv_eq_ediv_of_nonneg h, Int.emod_nonneg _ (by omega), Int.emod_lt_of_pos _ hs, Int.tmod_eq_emod_of_nonneg h⟩
/-- what the rests are while some are served -/
def rO (O : Nat → Bool) (r : Nat → Int) (P : Nat → Bool) : Nat → Int := fun j => if P j = true then -1 else onO O r j
/-- the best of the first p -/
def bestI (O : Nat → Bool) (r : Nat → Int) (p : Nat) (z : Int) : Prop := (z = -1 ∧ ∀ i, i < p → O i = false) ∨ ∃ b : Nat, z = (b : Int) ∧ b < p ∧ O b = true ∧ ∀ i, i < p → O i = true → i ≠ b → ahead r b i
theorem bestI.skip {O : Nat → Bool} {r : Nat → Int} {p : Nat} {z : Int} (h : bestI O r p z) (ho : O p = false) : bestI O r (p + 1) z := by
  rcases h with ⟨h1, h2⟩ | ⟨b, h1, h2, h3, h4⟩
  · refine .inl ⟨h1, fun i hi => ?_⟩
    by_cases e : i = p
    · subst e; exact ho
    · exact h2 i (by omega)
  · refine .inr ⟨b, h1, by omega, h3, fun i hi hoi hne => ?_⟩
    by_cases e : i = p
    · subst e; rw [ho] at hoi; cases hoi
    · exact h4 i (by omega) hoi hne
theorem bestI.fst {O : Nat → Bool} {r : Nat → Int} {p : Nat} (h : ∀ i, i < p → O i = false) (ho : O p = true) : bestI O r (p + 1) (p : Int) := by
  refine .inr ⟨p, rfl, by omega, ho, fun i hi hoi hne => ?_⟩
  have := h i (by omega)
  rw [hoi] at this; cases this
theorem bestI.keep {O : Nat → Bool} {r : Nat → Int} {p b : Nat} (hb : b < p) (hob : O b = true) (h : ∀ i, i < p → O i = true → i ≠ b → ahead r b i) (hle : ¬ r b < r p) : bestI O r (p + 1) (b : Int) := by
  refine .inr ⟨b, rfl, by omega, hob, fun i hi hoi hne => ?_⟩
  by_cases e : i = p
  · subst e; unfold ahead; omega
  · exact h i (by omega) hoi hne
theorem bestI.take {O : Nat → Bool} {r : Nat → Int} {p b : Nat} (hb : b < p) (h : ∀ i, i < p → O i = true → i ≠ b → ahead r b i) (hop : O p = true) (hlt : r b < r p) : bestI O r (p + 1) (p : Int) := by
  refine .inr ⟨p, rfl, by omega, hop, fun i hi hoi hne => ?_⟩
  by_cases e : i = b
  · subst e; exact .inl hlt
  · exact ahead_trans (.inl hlt) (h i (by omega) hoi e)
/-- the best of all is one that was not served yet, and the next to be -/
theorem bestI.end {O P : Nat → Bool} {r : Nat → Int} {L : Nat} {z : Int} (h : bestI O (rO O r P) L z) (hr : ∀ i, i < L → 0 ≤ r i) (hP : Seg L O r P) (hn : nOf P L < nOf O L) : ∃ b : Nat, z = (b : Int) ∧ b < L ∧ O b = true ∧ P b = false ∧ Seg L O r (upB P b) ∧ nOf (upB P b) L = nOf P L + 1 := by
  obtain ⟨i, hi, hoi, hpi⟩ := more_ex hn
  have hri : rO O r P i = r i := by unfold rO onO; rw [if_neg (by rw [hpi]; decide), if_pos hoi]
  rcases h with ⟨h1, h2⟩ | ⟨b, h1, h2, h3, h4⟩
  · have := h2 i hi
    rw [hoi] at this; cases this
  · have hpb : P b = false := by
      cases hpb : P b
      · rfl
      · have hne : i ≠ b := fun e => by subst e; rw [hpi] at hpb; cases hpb
        have ha := h4 i hi hoi hne
        have hrb : rO O r P b = -1 := by unfold rO; rw [if_pos hpb]
        have := hr i hi
        unfold ahead at ha
        rw [hri, hrb] at ha
        omega
    refine ⟨b, h1, h2, h3, hpb, hP.up h2 h3 hpb (fun j hj hoj hpj hne => ?_)⟩
    have ha := h4 j hj hoj hne
    have e1 : rO O r P j = r j := by unfold rO onO; rw [if_neg (by rw [hpj]; decide), if_pos hoj]
    have e2 : rO O r P b = r b := by unfold rO onO; rw [if_neg (by rw [hpb]; decide), if_pos h3]
    unfold ahead at ha ⊢
    rw [e1, e2] at ha
    exact ha
set_option maxRecDepth 20000 in
set_option maxHeartbeats 6400000 in
theorem l6Wants_any (m s : Int) (k1 : Nat) (c1 : UD) (v1 : Value) (lo hi : Nat) (bO : Nat) (O : Nat → Bool) (w : World) (ht1 : tyS 1 k1 c1 1) (hx1 : uS w lo hi 1 k1 c1 v1) (hO : w.rowIs bO 4 k1 (fun j => .bool (O j))) (h64 : k1 ≤ 64) (hm : 0 < m ∧ m ≤ 10000) (hw : ∀ i, i < k1 → 0 ≤ gI (intL c1) i ∧ gI (intL c1) i ≤ 1000) (hs : 0 < s ∧ s ≤ 64000) (he : s = sumTo (onO O (gI (intL c1))) k1) :
    Calls Try.prog 219 #[.int .i64 m, v1, .slice (some ⟨bO, 0, none⟩) k1 k1, .int .i64 s] w fun e w' => ∃ b, e = .returned (.slice (some ⟨b, 0, none⟩) k1 k1) ∧ w.heap.size ≤ b ∧ w'.rowIs b 3 k1 (fun j => .int .i64 (wantsF k1 m s (gI (intL c1)) O j)) ∧ Below w.heap.size w w' := by
  obtain ⟨a1, p1, rfl, hy1⟩ := hx1
  have H1 : Hid (uS w lo hi 1 k1 c1 (.slice a1 k1 p1)) := ⟨_, _, rfl, hy1⟩
  have T1 := uhide ht1
  have HO := uhide hO
  have HW := uhide hw
  have HE := uhide he
  have hmk := run_make_row' (P := Try.prog) 79 3 (.int .i64 0) 8 Try.underlying79 Try.infoDInt rfl .i64 .i64 k1 (by omega) (by omega)
  clear hy1 ht1 hO hw he
  go_enter Try.func219, Try.ntmps219
  go_wp2
  have R0 : Hid (World.rowIs ((w.alloc (.cells (madeCells #[.int .i64 0] k1) 3)).alloc (.cells (madeCells #[.int .i64 0] k1) 3)) w.heap.size 3 k1 (fun j => .int .i64 (if j < 0 then onO O (quo m s (gI (intL c1))) j else 0))) := ((World.rowIs_made w (.int .i64 0) k1 3).alloc _).congr (fun i _ => by rw [if_neg (by omega)])
  have R1 : Hid (World.rowIs ((w.alloc (.cells (madeCells #[.int .i64 0] k1) 3)).alloc (.cells (madeCells #[.int .i64 0] k1) 3)) (w.heap.size + 1) 3 k1 (fun j => .int .i64 (if j < 0 then onO O (rem m s (gI (intL c1))) j else 0))) := by
    have h := (World.rowIs_made (w.alloc (.cells (madeCells #[.int .i64 0] k1) 3)) (.int .i64 0) k1 3)
    have e : (w.alloc (.cells (madeCells #[.int .i64 0] k1) 3)).heap.size = w.heap.size + 1 := by simp
    rw [e] at h
    exact h.congr (fun i _ => by rw [if_neg (by omega)])
  have HB0 : Hid (Below w.heap.size w ((w.alloc (.cells (madeCells #[.int .i64 0] k1) 3)).alloc (.cells (madeCells #[.int .i64 0] k1) 3))) := ((Below.refl _ _).alloc (Nat.le_refl _) _).alloc (by simp) _
  clear hmk
  have hfor := HO.out.lt
  go_loopw [11, 12] (fun l i wr => ∃ (q : Nat), q ≤ k1 ∧ i = .int .i64 q ∧ l = .int .i64 (m - sumTo (onO O (quo m s (gI (intL c1)))) q) ∧ Hid (wr.rowIs w.heap.size 3 k1 (fun j => .int .i64 (if j < q then onO O (quo m s (gI (intL c1))) j else 0))) ∧ Hid (wr.rowIs (w.heap.size + 1) 3 k1 (fun j => .int .i64 (if j < q then onO O (rem m s (gI (intL c1))) j else 0))) ∧ Hid (Below w.heap.size w wr)) (fun _ i _ => k1 - (intOf i).toNat)
  case atStart => exact ⟨0, Nat.zero_le _, rfl, by simp [sumTo], R0, R1, HB0⟩
  case round =>
    clear R0 R1 HB0
    obtain ⟨q, hq, rfl, rfl, R0, R1, HB⟩ := hrel
    by_cases hlt : q < k1
    · obtain ⟨b1, off1, rfl, hb1, -⟩ := (H1.out.below HB.out).cells (by omega)
      have q1 := cell_int T1.out (H1.out.below HB.out) q hlt
      have hb1l : b1 < w.heap.size := cell_lt (cell_int T1.out H1.out q hlt)
      have hne : b1 ≠ w.heap.size := by omega
      have hne' : b1 ≠ w.heap.size + 1 := by omega
      have qO := (rowIs_below HO.out HB.out).cell hlt
      have x0 := R0.out.cell hlt
      have f0 := R0.out.frozen q
      have x1 := R1.out.cell hlt
      have f1 := R1.out.frozen q
      have hwq := HW.out q hlt
      obtain ⟨d1, d2, d3, d4, d5, d6⟩ := quo_bd (i := q) (by omega) hs.1 hwq.1 (m := m) (w := gI (intL c1))
      have hmw := Int.mul_le_mul hm.2 hwq.2 hwq.1 (by omega)
      have hmw0 := Int.mul_nonneg (show 0 ≤ m by omega) hwq.1
      have hsq := sumTo_bd (f := onO O (quo m s (gI (intL c1)))) (m := 10000000) (n := q) (fun i hi => by
        have hwi := HW.out i (by omega)
        obtain ⟨e1, e2, -⟩ := quo_bd (i := i) (by omega) hs.1 hwi.1 (m := m) (w := gI (intL c1))
        have := Int.mul_le_mul hm.2 hwi.2 hwi.1 (by omega)
        unfold onO; split <;> omega) q (Nat.le_refl _)
      cases hoq : O q
      · rw [hoq] at qO
        have HS : Hid (m - sumTo (onO O (quo m s (gI (intL c1)))) (q + 1) = m - sumTo (onO O (quo m s (gI (intL c1)))) q) := by
          show _ = _
          rw [sumTo_succ]; unfold onO; rw [if_neg (by rw [hoq]; decide)]; omega
        have R0' : Hid (wr.rowIs w.heap.size 3 k1 (fun j => .int .i64 (if j < q + 1 then onO O (quo m s (gI (intL c1))) j else 0))) := R0.out.congr (fun j _ => by
          by_cases e : j = q
          · subst e; rw [if_neg (by omega), if_pos (by omega)]; unfold onO; rw [if_neg (by rw [hoq]; decide)]
          · by_cases h : j < q
            · rw [if_pos h, if_pos (by omega)]
            · rw [if_neg h, if_neg (by omega)])
        have R1' : Hid (wr.rowIs (w.heap.size + 1) 3 k1 (fun j => .int .i64 (if j < q + 1 then onO O (rem m s (gI (intL c1))) j else 0))) := R1.out.congr (fun j _ => by
          by_cases e : j = q
          · subst e; rw [if_neg (by omega), if_pos (by omega)]; unfold onO; rw [if_neg (by rw [hoq]; decide)]
          · by_cases h : j < q
            · rw [if_pos h, if_pos (by omega)]
            · rw [if_neg h, if_neg (by omega)])
        clear x0 x1 f0 f1 R0 R1 q1 H1 T1 HO HW HE d1 d2 d3 d4 d5 d6 hmw hmw0
        go_wp2
        go_roundw
        case rel => exact ⟨q + 1, by omega, by go_num, by rw [HS.out], R0', R1', HB⟩
        case measure => simp [intOf]; omega
      · rw [hoq] at qO
        have HS : Hid (m - sumTo (onO O (quo m s (gI (intL c1)))) (q + 1) = m - sumTo (onO O (quo m s (gI (intL c1)))) q - quo m s (gI (intL c1)) q) := by
          show _ = _
          rw [sumTo_succ]; unfold onO; rw [if_pos hoq]; omega
        have R0' : Hid (World.rowIs ((wr.setCell ⟨w.heap.size, q, none⟩ (.int .i64 (quo m s (gI (intL c1)) q))).setCell ⟨w.heap.size + 1, q, none⟩ (.int .i64 (rem m s (gI (intL c1)) q))) w.heap.size 3 k1 (fun j => .int .i64 (if j < q + 1 then onO O (quo m s (gI (intL c1))) j else 0))) := ((R0.out.set q (.int .i64 (quo m s (gI (intL c1)) q))).setOther (a := ⟨w.heap.size + 1, q, none⟩) (by simp) _).congr (fun j _ => by
          by_cases e : j = q
          · subst e; rw [if_pos rfl, if_pos (by omega)]; unfold onO; rw [if_pos hoq]
          · rw [if_neg e]
            by_cases h : j < q
            · rw [if_pos h, if_pos (by omega)]
            · rw [if_neg h, if_neg (by omega)])
        have R1' : Hid (World.rowIs ((wr.setCell ⟨w.heap.size, q, none⟩ (.int .i64 (quo m s (gI (intL c1)) q))).setCell ⟨w.heap.size + 1, q, none⟩ (.int .i64 (rem m s (gI (intL c1)) q))) (w.heap.size + 1) 3 k1 (fun j => .int .i64 (if j < q + 1 then onO O (rem m s (gI (intL c1))) j else 0))) := ((R1.out.setOther (a := ⟨w.heap.size, q, none⟩) (by simp) _).set q (.int .i64 (rem m s (gI (intL c1)) q))).congr (fun j _ => by
          by_cases e : j = q
          · subst e; rw [if_pos rfl, if_pos (by omega)]; unfold onO; rw [if_pos hoq]
          · rw [if_neg e]
            by_cases h : j < q
            · rw [if_pos h, if_pos (by omega)]
            · rw [if_neg h, if_neg (by omega)])
        have HB' : Hid (Below w.heap.size w ((wr.setCell ⟨w.heap.size, q, none⟩ (.int .i64 (quo m s (gI (intL c1)) q))).setCell ⟨w.heap.size + 1, q, none⟩ (.int .i64 (rem m s (gI (intL c1)) q)))) := (HB.out.setCell (by simp) _).setCell (by simp) _
        generalize sumTo (onO O (quo m s (gI (intL c1)))) q = SQ at *
        generalize quo m s (gI (intL c1)) q = QQ at *
        generalize rem m s (gI (intL c1)) q = RR at *
        generalize gI (intL c1) q = X at *
        clear R0 R1 H1 T1 HO HW HE
        go_wp2
        go_roundw
        case rel => exact ⟨q + 1, by omega, by go_num, by rw [HS.out], R0', R1', HB'⟩
        case measure => simp [intOf]; omega
    · have e : q = k1 := by omega
      subst e
      obtain ⟨hl0, hl1⟩ := left_bd (m := m) hs.1 HE.out
      have HQB : Hid (∀ i, i < q → 0 ≤ onO O (quo m s (gI (intL c1))) i ∧ onO O (quo m s (gI (intL c1))) i ≤ 10000000) := fun i hi => by
        have hwi := HW.out i hi
        obtain ⟨e1, e2, -⟩ := quo_bd (i := i) (by omega) hs.1 hwi.1 (m := m) (w := gI (intL c1))
        have := Int.mul_le_mul hm.2 hwi.2 hwi.1 (by omega)
        unfold onO; split <;> omega
      have HRB : Hid (∀ i, i < q → 0 ≤ rem m s (gI (intL c1)) i) := fun i hi => (quo_bd (i := i) (by omega) hs.1 (HW.out i hi).1 (m := m) (w := gI (intL c1))).2.2.2.1
      have HRC : Hid (∀ i, i < q → rem m s (gI (intL c1)) i < s) := fun i hi => (quo_bd (i := i) (by omega) hs.1 (HW.out i hi).1 (m := m) (w := gI (intL c1))).2.2.2.2.1
      have HWF : Hid (∀ P, Seg q O (rem m s (gI (intL c1))) P → nOf P q = leftT m s (gI (intL c1)) O q → ∀ j, wantsF q m s (gI (intL c1)) O j = onO O (quo m s (gI (intL c1))) j + (if P j = true then 1 else 0)) := fun P hP hn j => by
        unfold wantsF; rw [segOf_eq hP hn]
      have hT : ((leftT m s (gI (intL c1)) O q : Nat) : Int) = m - sumTo (onO O (quo m s (gI (intL c1)))) q := by unfold leftT; omega
      rw [← hT] at hl1 ⊢
      have hTn : leftT m s (gI (intL c1)) O q ≤ nOf O q := by omega
      have hTm : leftT m s (gI (intL c1)) O q ≤ 10000 := by
        have := (sumTo_bd (f := onO O (quo m s (gI (intL c1)))) (m := 10000000) (n := q) HQB.out q (Nat.le_refl _)).1
        omega
      have R0' : Hid (wr.rowIs w.heap.size 3 q (fun j => .int .i64 (onO O (quo m s (gI (intL c1))) j + (if (fun _ => false : Nat → Bool) j = true then 1 else 0)))) := R0.out.congr (fun j hj => by rw [if_pos hj, if_neg (by simp), Int.add_zero])
      have R1' : Hid (wr.rowIs (w.heap.size + 1) 3 q (fun j => .int .i64 (rO O (rem m s (gI (intL c1))) (fun _ => false) j))) := R1.out.congr (fun j hj => by rw [if_pos hj]; unfold rO; rw [if_neg (by simp)])
      obtain ⟨hS0, hN0⟩ := Seg.none q O (rem m s (gI (intL c1)))
      have HS0 := uhide hS0
      have HN0 := uhide hN0
      generalize leftT m s (gI (intL c1)) O q = T0 at *
      generalize onO O (quo m s (gI (intL c1))) = Bf at *
      generalize rem m s (gI (intL c1)) = Rf at *
      clear R0 R1 hS0 hN0 hT hl0 hl1 HE HW
      go_wp2
      go_loopw [11] (fun l w2 => ∃ (t : Nat) (P : Nat → Bool), t ≤ T0 ∧ l = .int .i64 ((T0 : Int) - (t : Int)) ∧ Hid (Seg q O Rf P) ∧ Hid (nOf P q = t) ∧ Hid (w2.rowIs w.heap.size 3 q (fun j => .int .i64 (Bf j + (if P j = true then 1 else 0)))) ∧ Hid (w2.rowIs (w.heap.size + 1) 3 q (fun j => .int .i64 (rO O Rf P j))) ∧ Hid (Below w.heap.size w w2)) (fun l _ => (intOf l).toNat)
      case atStart => exact ⟨0, _, Nat.zero_le _, by simp, HS0, HN0, R0', R1', HB⟩
      case round =>
        clear R0' R1' HB HS0 HN0
        obtain ⟨w2, rfl⟩ : ∃ w2, w2 = wr := ⟨_, rfl⟩
        obtain ⟨t, P, ht, rfl, HS, HN, R0, R1, HB⟩ := hrel
        by_cases htt : t < T0
        · go_wp2
          go_loopw [13, 14] (fun b i w3 => ∃ (p : Nat) (z : Int), p ≤ q ∧ i = .int .i64 p ∧ b = .int .i64 z ∧ Hid (bestI O (rO O Rf P) p z) ∧ Hid (Below w2.heap.size w2 w3)) (fun _ i _ => q - (intOf i).toNat)
          case atStart => exact ⟨0, -1, Nat.zero_le _, rfl, rfl, .inl ⟨rfl, fun i hi => by omega⟩, Below.refl _ _⟩
          case round =>
            obtain ⟨w3, rfl⟩ : ∃ w3, w3 = wr := ⟨_, rfl⟩
            obtain ⟨p, z, hp, rfl, rfl, HBI, HBx⟩ := hrel
            have HBw : Hid (Below w.heap.size w w3) := HB.out.trans (HBx.out.mono HB.out.size)
            by_cases hpl : p < q
            · have qO := (rowIs_below HO.out HBw.out).cell hpl
              have x1 := (rowIs_below R1.out HBx.out).cell hpl
              cases hop : O p
              · rw [hop] at qO
                have HN2 := uhide (HBI.out.skip hop)
                clear HBI R0 R1 HS HN HO HWF HRB HRC HQB H1 T1
                go_wp2
                go_quiet (fail)
                go_wp2
                go_roundw
                case rel => exact ⟨p + 1, z, by omega, by go_num, rfl, HN2, below_drewN HBx.out _⟩
                case measure => simp [intOf]; omega
              · rw [hop] at qO
                rcases HBI.out with ⟨rfl, h2⟩ | ⟨b, rfl, hb, hob, h4⟩
                · have HN2 : Hid (bestI O (rO O Rf P) (p + 1) (p : Int)) := bestI.fst h2 hop
                  clear HBI R0 R1 HS HN HO HWF HRB HRC HQB H1 T1 h2
                  go_wp2
                  go_quiet (fail)
                  go_wp2
                  go_roundw
                  case rel => exact ⟨p + 1, p, by omega, by go_num, rfl, HN2, below_drewN HBx.out _⟩
                  case measure => simp [intOf]; omega
                · have x1b := (rowIs_below R1.out HBx.out).cell (show b < q by omega)
                  have z0 : decide ((b : Int) < 0) = false := by rw [decide_eq_false_iff_not]; omega
                  by_cases hlr : rO O Rf P b < rO O Rf P p
                  · have HN2 : Hid (bestI O (rO O Rf P) (p + 1) (p : Int)) := bestI.take hb h4 hop hlr
                    generalize rO O Rf P b = Rb at *
                    generalize rO O Rf P p = Rp at *
                    clear HBI R0 R1 HS HN HO HWF HRB HRC HQB H1 T1 h4
                    go_wp2
                    go_quiet (fail)
                    go_wp2
                    go_roundw
                    case rel => exact ⟨p + 1, p, by omega, by go_num, rfl, HN2, below_drewN HBx.out _⟩
                    case measure => simp [intOf]; omega
                  · have HN2 : Hid (bestI O (rO O Rf P) (p + 1) (b : Int)) := bestI.keep hb hob h4 hlr
                    have z1 : decide (rO O Rf P b < rO O Rf P p) = false := by rw [decide_eq_false_iff_not]; exact hlr
                    generalize rO O Rf P b = Rb at *
                    generalize rO O Rf P p = Rp at *
                    clear HBI R0 R1 HS HN HO HWF HRB HRC HQB H1 T1 h4
                    go_wp2
                    go_quiet (fail)
                    go_wp2
                    go_roundw
                    case rel => exact ⟨p + 1, b, by omega, by go_num, rfl, HN2, below_drewN HBx.out _⟩
                    case measure => simp [intOf]; omega
            · have e : p = q := by omega
              subst e
              obtain ⟨b, rfl, hb, hob, hpb, hseg, hcnt⟩ := HBI.out.end HRB.out HS.out (by rw [HN.out]; omega)
              have HSb := uhide hseg
              have HNb : Hid (nOf (upB P b) p = t + 1) := by show _ = _; rw [hcnt, HN.out]
              have x0 := (rowIs_below R0.out HBx.out).cell hb
              rw [if_neg (by rw [hpb]; decide), Int.add_zero] at x0
              have f0 := (rowIs_below R0.out HBx.out).frozen b
              have x1 := (rowIs_below R1.out HBx.out).cell hb
              have f1 := (rowIs_below R1.out HBx.out).frozen b
              have hbf := HQB.out b hb
              have R0b : Hid (World.rowIs ((w3.setCell ⟨w.heap.size, b, none⟩ (.int .i64 (Bf b + 1))).setCell ⟨w.heap.size + 1, b, none⟩ (.int .i64 (-1))) w.heap.size 3 p (fun j => .int .i64 (Bf j + (if upB P b j = true then 1 else 0)))) := (((rowIs_below R0.out HBx.out).set b (.int .i64 (Bf b + 1))).setOther (a := ⟨w.heap.size + 1, b, none⟩) (by simp) _).congr (fun j _ => by
                by_cases e : j = b
                · subst e; rw [if_pos rfl, upB_self, if_pos rfl]
                · rw [if_neg e, upB_ne e])
              have R1b : Hid (World.rowIs ((w3.setCell ⟨w.heap.size, b, none⟩ (.int .i64 (Bf b + 1))).setCell ⟨w.heap.size + 1, b, none⟩ (.int .i64 (-1))) (w.heap.size + 1) 3 p (fun j => .int .i64 (rO O Rf (upB P b) j))) := (((rowIs_below R1.out HBx.out).setOther (a := ⟨w.heap.size, b, none⟩) (by simp) _).set b (.int .i64 (-1))).congr (fun j _ => by
                by_cases e : j = b
                · subst e; rw [if_pos rfl]; unfold rO; rw [upB_self, if_pos rfl]
                · rw [if_neg e]; unfold rO; rw [upB_ne e])
              have HBb : Hid (Below w.heap.size w ((w3.setCell ⟨w.heap.size, b, none⟩ (.int .i64 (Bf b + 1))).setCell ⟨w.heap.size + 1, b, none⟩ (.int .i64 (-1)))) := (HBw.out.setCell (by simp) _).setCell (by simp) _
              clear HBI R0 R1 HS HN HO HWF HRB HRC HQB H1 T1 hseg hcnt hpb hob
              generalize Bf b = Bb at *
              generalize rO O Rf P b = Rb at *
              go_wp2
              go_roundw
              case rel => exact ⟨t + 1, upB P b, by omega, by go_num, HSb, HNb, R0b, R1b, HBb⟩
              case measure => simp [intOf]; omega
        · have e : t = T0 := by omega
          subst e
          have RW : Hid (w2.rowIs w.heap.size 3 q (fun j => .int .i64 (wantsF q m s (gI (intL c1)) O j))) := R0.out.congr (fun j _ => by rw [HWF.out P HS.out HN.out j])
          clear R0 R1 HS HN HO HWF HRB HRC HQB H1 T1
          go_wp2
          go_ret
          exact ⟨w.heap.size, rfl, Nat.le_refl _, RW.out, HB.out⟩
end Go.Proofs.Ytdnodaoeflbfkaa
