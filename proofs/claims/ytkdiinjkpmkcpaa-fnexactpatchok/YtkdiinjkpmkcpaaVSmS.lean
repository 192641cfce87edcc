/- spec.SameValue: it answers whether the cells are the same, all through. -/
import Derived.Test.YtkdiinjkpmkcpaaVSmN
namespace Go.Proofs.Ytkdiinjkpmkcpaa
open Go.RowKit Go.BigFrame
set_option linter.unusedVariables false
set_option maxRecDepth 20000 in
set_option maxHeartbeats 3200000 in
theorem sSame_N : ∀ (N : Nat) (d d' : UD) (xs ys : List Value) (lo hi lo' hi' : Nat) (w : World) (r : Bool), uszD d < N → tyL d (uE 6) → tyL d' (uE 6) → uH w lo hi d xs → uH w lo' hi' d' ys → (r = true ↔ d = d') →
    Calls Try.prog 14 #[.agg xs.toArray, .agg ys.toArray] w fun e w' => e = .returned (.bool r) ∧ Below w.heap.size w w' := by
  intro N
  induction N with
  | zero => intro d d' xs ys lo hi lo' hi' w r hN; omega
  | succ N ihN =>
  intro d d' xs ys lo hi lo' hi' w r hN ht ht' hx hy hr
  have HI := uhide ihN
  clear ihN
  obtain ⟨z0, z1, z2, n3, c3, n4, c4, rfl, g0, g1, g2, g3, g4⟩ := partsValue ht
  obtain ⟨y0, y1, y2, m3, e3, m4, e4, rfl, k0, k1, k2, k3, k4⟩ := partsValue ht'
  obtain ⟨_, rfl, ⟨_, rfl, ⟨_, rfl, ⟨v3, _, rfl, s3, ⟨v4, _, rfl, s4, rfl⟩⟩⟩⟩⟩ := hx
  obtain ⟨a3, p3, rfl, t3⟩ := s3
  obtain ⟨a4, p4, rfl, t4⟩ := s4
  obtain ⟨_, rfl, ⟨_, rfl, ⟨_, rfl, ⟨v3', _, rfl, s3', ⟨v4', _, rfl, s4', rfl⟩⟩⟩⟩⟩ := hy
  obtain ⟨b3, o3, rfl, t3'⟩ := s3'
  obtain ⟨b4, o4, rfl, t4'⟩ := s4'
  have H3 : Hid (uS w lo hi 1 n3 c3 (.slice a3 n3 p3)) := ⟨_, _, rfl, t3⟩
  have H4 : Hid (uS w lo hi 5 n4 c4 (.slice a4 n4 p4)) := ⟨_, _, rfl, t4⟩
  have K3 : Hid (uS w lo' hi' 1 m3 e3 (.slice b3 m3 o3)) := ⟨_, _, rfl, t3'⟩
  have K4 : Hid (uS w lo' hi' 5 m4 e4 (.slice b4 m4 o4)) := ⟨_, _, rfl, t4'⟩
  have HA : Hid (∀ o o', Below w.heap.size w ((w.alloc o).alloc o')) := fun o o' => ((Below.refl _ _).alloc (Nat.le_refl _) _).alloc (by simp) _
  rw [val_eq] at hr
  rw [uszD_val] at hN
  have HN : Hid (uszD c4 < N) := by show _ < _; omega
  have G3 := uhide g3
  have G4 := uhide g4
  have L3 := uhide k3
  have L4 := uhide k4
  have hn3 := g3.2.2.1
  have hn4 := g4.2.2.1
  unfold maxLen at hn3 hn4
  clear t3 t4 t3' t4' g0 g2 k0 k2 g1 k1 g3 g4 k3 k4 ht ht' hN
  have no : ∀ {p : Prop}, (r = true ↔ p) → ¬ p → r = false := fun h hp => by
    cases r
    · rfl
    · exact (hp (h.1 rfl)).elim
  by_cases hall : z0 = y0 ∧ z1 = y1 ∧ z2 = y2 ∧ n3 = m3 ∧ n4 = m4
  rotate_left
  · have hrf := no hr (fun h => hall ⟨h.1, h.2.1, h.2.2.1, h.2.2.2.1.1, h.2.2.2.2.1⟩)
    subst hrf
    exact sSame_no _ _ _ _ _ _ _ _ _ _ _ _ _ _ _ _ _ _ w hall
  obtain ⟨rfl, rfl, rfl, rfl, rfl⟩ := hall
  have c0 : (z0 != z0) = false := by simp
  have c1 : (z1.toList == z1.toList) = true := by simp
  have c2 : (z2 != z2) = false := by simp
  have c3' : ((n3 : Int) != (n3 : Int)) = false := by simp
  have c4' : ((n4 : Int) != (n4 : Int)) = false := by simp
  have HR : Hid (r = true ↔ c3 = e3 ∧ c4 = e4) := hr.trans ⟨fun h => ⟨h.2.2.2.1.2, h.2.2.2.2.2⟩, fun h => ⟨rfl, rfl, rfl, ⟨rfl, h.1⟩, rfl, h.2⟩⟩
  have NO : Hid (∀ p : Prop, (r = true ↔ p) → ¬ p → r = false) := fun p h hp => no h hp
  clear hr no
  go_enter Try.func14, Try.ntmps14
  go_wp2
  clear c0 c1 c2 c3' c4'
  have OA := uhide (objU.old (objU.new w 27 [.int .i64 z0, .string z1, .int .i64 z2, .slice a3 n3 p3, .slice a4 n4 p4]) (.cells #[.int .i64 z0, .string z1, .int .i64 z2, .slice b3 n3 o3, .slice b4 n4 o4] 27))
  have OB := uhide (objU.new2 (w := w.alloc (.cells #[.int .i64 z0, .string z1, .int .i64 z2, .slice a3 n3 p3, .slice a4 n4 p4] 27)) 27 [.int .i64 z0, .string z1, .int .i64 z2, .slice b3 n3 o3, .slice b4 n4 o4] (b := w.heap.size + 1) (by simp))
  go_loopw [5] (fun i wr => ∃ (q : Nat), q ≤ n3 ∧ i = .int .i64 q ∧ Hid (∀ j (g : j < (strL c3).length) (g' : j < (strL e3).length), j < q → (strL c3)[j]'g = (strL e3)[j]'g') ∧ Hid (objU wr w.heap.size 27 [.int .i64 z0, .string z1, .int .i64 z2, .slice a3 n3 p3, .slice a4 n4 p4]) ∧
      Hid (objU wr (w.heap.size + 1) 27 [.int .i64 z0, .string z1, .int .i64 z2, .slice b3 n3 o3, .slice b4 n4 o4]) ∧ Hid (Below w.heap.size w wr)) (fun i _ => n3 - (intOf i).toNat)
  case atStart => exact ⟨0, Nat.zero_le _, rfl, (fun j _ _ h => by omega), OA, OB, HA.out _ _⟩
  case round =>
    clear OA OB
    obtain ⟨q, hq, rfl, HE, OA, OB, HB⟩ := hrel
    have oa3 := OA.out.cell 3 _ rfl
    have ob3 := OB.out.cell 3 _ rfl
    have oa4 := OA.out.cell 4 _ rfl
    have ob4 := OB.out.cell 4 _ rfl
    by_cases hlt : q < n3
    · obtain ⟨b, off, rfl, hbk, -⟩ := (H3.out.below HB.out).cells (by omega)
      obtain ⟨b', off', rfl, hbk', -⟩ := (K3.out.below HB.out).cells (by omega)
      have hl := strL_len G3.out
      have hl' := strL_len L3.out
      have q0 := txt_at G3.out (H3.out.below HB.out) q (by omega)
      have q1 := txt_at L3.out (K3.out.below HB.out) q (by omega)
      have Hnx : Hid ((strL c3)[q]'(by omega) = (strL e3)[q]'(by omega) → ∀ j (g : j < (strL c3).length) (g' : j < (strL e3).length), j < q + 1 → (strL c3)[j]'g = (strL e3)[j]'g') := fun he j g g' hj => by
        by_cases e : j = q
        · subst e; exact he
        · exact HE.out j g g' (by omega)
      have Hno : Hid ((strL c3)[q]'(by omega) ≠ (strL e3)[q]'(by omega) → c3 ≠ e3) := fun hne e => hne (by subst e; rfl)
      have he := beqS ((strL c3)[q]'(by omega)) ((strL e3)[q]'(by omega))
      generalize (strL c3)[q]'(by omega) = X at *
      generalize (strL e3)[q]'(by omega) = Y at *
      by_cases hXY : X = Y
      · rw [decide_eq_true hXY] at he
        have Hnx := uhide (Hnx.out hXY)
        clear Hno hXY hl hl'
        go_wp2
        go_quiet (fail)
        go_wp2
        go_roundw
        case rel => exact ⟨q + 1, by omega, by go_num, Hnx, OA.out.below (by repeat (first | with_reducible exact Below.refl _ _ | with_reducible refine Below.drew ?_ | with_reducible refine below_drewN ?_ _)), OB.out.below (by repeat (first | with_reducible exact Below.refl _ _ | with_reducible refine Below.drew ?_ | with_reducible refine below_drewN ?_ _)), below_drewN HB.out _⟩
        case measure => simp [intOf]; omega
      · rw [decide_eq_false hXY] at he
        have hrf := NO.out _ HR.out (fun h => Hno.out hXY h.1)
        subst hrf
        clear Hno Hnx hXY hl hl'
        go_wp2
        go_quiet (fail)
        go_wp2
        go_ret
        exact ⟨rfl, below_drewN HB.out _⟩
    · have e : q = n3 := by omega
      subst e
      have hc : c3 = e3 := strL_ext G3.out L3.out (fun j g g' => HE.out j g g' (by have := strL_len G3.out; omega))
      have HR2 : Hid (r = true ↔ c4 = e4) := HR.out.trans ⟨fun h => h.2, fun h => ⟨hc, h⟩⟩
      clear HR HE hc
      go_wp2
      clear oa3 ob3 oa4 ob4
      go_loopw [6] (fun i wr => ∃ (k : Nat), k ≤ n4 ∧ i = .int .i64 k ∧ Hid (r = true ↔ tailEq n4 k c4 e4) ∧ Hid (objU wr w.heap.size 27 [.int .i64 z0, .string z1, .int .i64 z2, .slice a3 q p3, .slice a4 n4 p4]) ∧
          Hid (objU wr (w.heap.size + 1) 27 [.int .i64 z0, .string z1, .int .i64 z2, .slice b3 q o3, .slice b4 n4 o4]) ∧ Hid (Below w.heap.size w wr)) (fun i _ => n4 - (intOf i).toNat)
      case atStart => exact ⟨0, Nat.zero_le _, rfl, HR2.out.trans (tailEq_zero G4.out L4.out).symm, OA, OB, HB⟩
      case round =>
        clear OA OB HB HR2
        obtain ⟨k, hk, rfl, HR, OA, OB, HB⟩ := hrel
        have oa3 := OA.out.cell 3 _ rfl
        have ob3 := OB.out.cell 3 _ rfl
        have oa4 := OA.out.cell 4 _ rfl
        have ob4 := OB.out.cell 4 _ rfl
        by_cases hlt4 : k < n4
        · obtain ⟨b, off, rfl, hbk, hm⟩ := (H4.out.below HB.out).cells (by omega)
          obtain ⟨b', off', rfl, hbk', hm'⟩ := (K4.out.below HB.out).cells (by omega)
          obtain ⟨rq, hrq⟩ := bool_iff (rowU c4 5 k = rowU e4 5 k)
          have htr := G4.out.row hlt4
          have htr' := L4.out.row hlt4
          obtain ⟨xs, hh, hcl⟩ := (hm.row 5 k).hand
          obtain ⟨ys, hh', hcl'⟩ := (hm'.row 5 k).hand
          have Hcon : Hid (∀ wx, Below wr.heap.size wr wx → Calls Try.prog 14 #[.agg xs.toArray, .agg ys.toArray] wx fun e w' => e = .returned (.bool rq) ∧ Hid (Below wr.heap.size wr w')) := fun wx hb => (HI.out _ _ xs ys _ _ _ _ wx rq (by have := uszD_row c4 5 k; have := HN.out; omega) htr htr' (hh.below hb) (hh'.below hb) hrq).mono fun e w' h => ⟨h.1, hb.trans (h.2.mono hb.size)⟩
          have HT : Hid (r = true ↔ rq = true ∧ tailEq n4 (k + 1) c4 e4) := by show _ ↔ _; rw [hrq]; exact HR.out.trans (tailEq_step hlt4)
          obtain ⟨x0, x1, x2, l3, f3, l4, f4, hR, -, -, -, -, -⟩ := partsValue htr
          obtain ⟨u0, u1, u2, i3, j3, i4, j4, hR', -, -, -, -, -⟩ := partsValue htr'
          rw [hR] at hh
          rw [hR'] at hh'
          obtain ⟨_, rfl, ⟨_, rfl, ⟨_, rfl, ⟨v3l, _, rfl, s3l, ⟨v4l, _, rfl, s4l, rfl⟩⟩⟩⟩⟩ := hh
          obtain ⟨a3l, p3l, rfl, t3l⟩ := s3l
          obtain ⟨a4l, p4l, rfl, t4l⟩ := s4l
          obtain ⟨_, rfl, ⟨_, rfl, ⟨_, rfl, ⟨v3r, _, rfl, s3r, ⟨v4r, _, rfl, s4r, rfl⟩⟩⟩⟩⟩ := hh'
          obtain ⟨a3r, p3r, rfl, t3r⟩ := s3r
          obtain ⟨a4r, p4r, rfl, t4r⟩ := s4r
          have q0 : wr.cell? ⟨b, off + k * 5, none⟩ = some (.int .i64 x0) := hcl 0 _ rfl
          have q1 : wr.cell? ⟨b, off + k * 5 + 1, none⟩ = some (.string x1) := hcl 1 _ rfl
          have q2 : wr.cell? ⟨b, off + k * 5 + 2, none⟩ = some (.int .i64 x2) := hcl 2 _ rfl
          have q3 : wr.cell? ⟨b, off + k * 5 + 3, none⟩ = some (.slice a3l l3 p3l) := hcl 3 _ rfl
          have q4 : wr.cell? ⟨b, off + k * 5 + 4, none⟩ = some (.slice a4l l4 p4l) := hcl 4 _ rfl
          have r0 : wr.cell? ⟨b', off' + k * 5, none⟩ = some (.int .i64 u0) := hcl' 0 _ rfl
          have r1 : wr.cell? ⟨b', off' + k * 5 + 1, none⟩ = some (.string u1) := hcl' 1 _ rfl
          have r2 : wr.cell? ⟨b', off' + k * 5 + 2, none⟩ = some (.int .i64 u2) := hcl' 2 _ rfl
          have r3 : wr.cell? ⟨b', off' + k * 5 + 3, none⟩ = some (.slice a3r i3 p3r) := hcl' 3 _ rfl
          have r4 : wr.cell? ⟨b', off' + k * 5 + 4, none⟩ = some (.slice a4r i4 p4r) := hcl' 4 _ rfl
          clear hR hR' hcl hcl' hm hm' htr htr' t3l t3r t4l t4r hrq HR
          cases rq
          · have hrf := NO.out _ HT.out (fun h => by cases h.1)
            subst hrf
            go_wp2
            go_region_with (go_at_call 14; refine (Hcon.out _ (by repeat (first | with_reducible exact Below.refl _ _ | with_reducible refine Below.drew ?_ | with_reducible refine below_drewN ?_ _))).mono ?_; rintro e w2 ⟨rfl, hb2⟩)
            all_goals go_wp2
            all_goals go_ret
            all_goals exact ⟨rfl, HB.out.trans (Below.mono (by repeat (first | with_reducible exact hb2.out | with_reducible refine Below.drew ?_ | with_reducible refine below_drewN ?_ _)) HB.out.size)⟩
          · have HT2 : Hid (r = true ↔ tailEq n4 (k + 1) c4 e4) := HT.out.trans ⟨fun h => h.2, fun h => ⟨rfl, h⟩⟩
            clear HT
            go_wp2
            go_region_with (go_at_call 14; refine (Hcon.out _ (by repeat (first | with_reducible exact Below.refl _ _ | with_reducible refine Below.drew ?_ | with_reducible refine below_drewN ?_ _))).mono ?_; rintro e w2 ⟨rfl, hb2⟩)
            all_goals go_wp2
            all_goals (
              go_roundw
              case rel => exact ⟨k + 1, by omega, by go_num, HT2, OA.out.below (by repeat (first | with_reducible exact hb2.out | with_reducible refine Below.drew ?_ | with_reducible refine below_drewN ?_ _)), OB.out.below (by repeat (first | with_reducible exact hb2.out | with_reducible refine Below.drew ?_ | with_reducible refine below_drewN ?_ _)), HB.out.trans (Below.mono (by repeat (first | with_reducible exact hb2.out | with_reducible refine Below.drew ?_ | with_reducible refine below_drewN ?_ _)) HB.out.size)⟩
              case measure => simp [intOf]; omega)
        · have e : k = n4 := by omega
          subst e
          have hrt : r = true := HR.out.2 (tailEq_end.2 trivial)
          subst hrt
          go_wp2
          go_ret
          exact ⟨rfl, HB.out⟩
end Go.Proofs.Ytkdiinjkpmkcpaa
