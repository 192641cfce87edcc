/- Where a path leads: spec.Reach, and what both answer. -/
import Derived.Test.YtbadjopaocindaaVReachS
import Derived.Test.YtbadjopaocindaaVCopyS
namespace Go.Proofs.Ytbadjopaocindaa
open Go.RowKit Go.BigFrame
set_option linter.unusedVariables false
theorem stepU_way {d e : UD} {s : ByteArray} (h : onWay d) (hs : stepU d s = some e) : onWay e := by
  obtain ⟨z0, z1, z2, n3, c3, n4, c4, rfl, g3, g4, hb, _, _, hk⟩ := h.parts
  simp only [stepU, Option.map_eq_some_iff] at hs
  obtain ⟨i, hi, rfl⟩ := hs
  exact hk i (kidI_lt hb hi)
theorem reachU_way : ∀ (ss : List ByteArray) (d e : UD), onWay d → reachU ss d = some e → onWay e
  | [], d, e, h, hr => by
    have : d = e := Option.some.inj hr
    subst this
    exact h
  | s :: r, d, e, h, hr => by
    unfold reachU at hr
    cases hs : stepU d s with
    | none => rw [hs] at hr; cases hr
    | some d' => rw [hs] at hr; exact reachU_way r d' e (stepU_way h hs) hr
theorem zU_ty : tyL zU (uE 6) :=
  ⟨_, _, rfl, ⟨_, rfl, by unfold inK; decide⟩, _, _, rfl, ⟨_, rfl, by decide⟩, _, _, rfl, ⟨_, rfl, by unfold inK; decide⟩, _, _, rfl, ⟨by decide, rfl, by decide, rfl, trivial⟩, _, _, rfl, ⟨by decide, rfl, by decide, rfl, trivial⟩, rfl⟩
theorem zU_wt : wt zU = 0 := rfl
set_option maxRecDepth 20000 in
set_option maxHeartbeats 3200000 in
theorem sReach_any (d : UD) (n1 : Nat) (cs1 : UD) (b : Bool) (ht : tyL d (uE 6)) (ht1 : tyS 1 n1 cs1 0) (hw : wt d + (n1 + wt cs1) ≤ 1048576) (hb : b = true → onWay d)
    (HV : ∀ (w : World) (lo hi : Nat) (xs : List Value), uH w lo hi d xs → Calls Try.prog 22 #[.agg xs.toArray] w fun e w' => e = .returned (.bool b) ∧ Below w.heap.size w w')
    (dR : UD) (bR : Bool) (hR : (dR, bR) = if b then (match reachU (strL cs1) d with | some e => (e, true) | none => (zU, false)) else (zU, false)) (hdt : tyL dR (uE 6)) (hdw : wt dR ≤ 1048576) :
    ∀ (w : World) (lo hi : Nat) (xs : List Value) (lo1 hi1 : Nat) (c1 : Value), uH w lo hi d xs → uS w lo1 hi1 1 n1 cs1 c1 →
      Calls Try.prog 21 #[.agg xs.toArray, c1] w fun e w' => ∃ (ys : List Value), e = .returned (.tuple #[.agg ys.toArray, .bool bR]) ∧ uH w' 0 w'.heap.size dR ys ∧ Below w.heap.size w w' := by
  intro w lo hi xs lo1 hi1 c1 hx hx1
  have hx1' := hx1
  obtain ⟨a1, p1, rfl, t1⟩ := hx1'
  obtain ⟨z0, z1, z2, n3, c3, n4, c4, hd, -, -, -, -, -⟩ := partsValue ht
  have hx' := hx
  rw [hd] at hx'
  obtain ⟨_, rfl, ⟨_, rfl, ⟨_, rfl, ⟨v3, _, rfl, s3, ⟨v4, _, rfl, s4, rfl⟩⟩⟩⟩⟩ := hx'
  obtain ⟨a3, p3, rfl, -⟩ := s3
  obtain ⟨a4, p4, rfl, -⟩ := s4
  have HVy : Hid (∀ wx, Below w.heap.size w wx → Calls Try.prog 22 #[.agg #[.int .i64 z0, .string z1, .int .i64 z2, .slice a3 n3 p3, .slice a4 n4 p4]] wx fun e w' => e = .returned (.bool b) ∧ Hid (Below wx.heap.size wx w')) := fun wx hbx => HV wx lo hi _ (hx.below hbx)
  have hn1 : n1 ≤ 1048576 := by omega
  have HA : Hid (∀ o o', Below w.heap.size w ((w.alloc o).alloc o')) := fun o o' => ((Below.refl _ _).alloc (Nat.le_refl _) _).alloc (by simp) _
  obtain ⟨y0, y1, y2, m3, e3, m4, e4, hdR, -, -, -, -, -⟩ := partsValue hdt
  have HSHo : Hid (∀ (w2 : World) ys S, oH w2 dR ys S → ∃ a3s p3s a4s p4s, ys = [.int .i64 y0, .string y1, .int .i64 y2, .slice a3s m3 p3s, .slice a4s m4 p4s]) := by
    intro w2 ys S h
    rw [hdR] at h
    obtain ⟨_, rfl, ⟨_, rfl, ⟨_, rfl, ⟨v3, _, _, _, rfl, _, _, ⟨_, _, o3, _⟩, ⟨v4, _, _, _, rfl, _, _, ⟨_, _, o4, _⟩, ⟨rfl, _⟩⟩⟩⟩⟩⟩ := h
    obtain ⟨a3, p3, rfl⟩ := uowns_slice o3
    obtain ⟨a4, p4, rfl⟩ := uowns_slice o4
    exact ⟨_, _, _, _, rfl⟩
  have HSHu : Hid (∀ (w2 : World) l h ys, uH w2 l h dR ys → ∃ a3s p3s a4s p4s, ys = [.int .i64 y0, .string y1, .int .i64 y2, .slice a3s m3 p3s, .slice a4s m4 p4s]) := by
    intro w2 l h ys hh
    rw [hdR] at hh
    obtain ⟨_, rfl, ⟨_, rfl, ⟨_, rfl, ⟨v3, _, rfl, s3, ⟨v4, _, rfl, s4, rfl⟩⟩⟩⟩⟩ := hh
    obtain ⟨a3, p3, rfl, -⟩ := s3
    obtain ⟨a4, p4, rfl, -⟩ := s4
    exact ⟨_, _, _, _, rfl⟩
  have HCp : Hid (∀ (wx : World) (ys : List Value), uH wx 0 wx.heap.size dR ys → ∀ wy, Below wx.heap.size wx wy → Calls Try.prog 67 #[.agg ys.toArray] wy fun e w' => ∃ a3s p3s a4s p4s S, e = .returned (.agg #[.int .i64 y0, .string y1, .int .i64 y2, .slice a3s m3 p3s, .slice a4s m4 p4s]) ∧ Hid (oH w' dR [.int .i64 y0, .string y1, .int .i64 y2, .slice a3s m3 p3s, .slice a4s m4 p4s] S) ∧ Hid (own2 S wy.heap.size w'.heap.size) ∧ Hid (Below wy.heap.size wy w')) := fun wx ys hy wy hb =>
    (l4Copy_N (uszD dR + 1) dR ys 0 wx.heap.size wy (by omega) hdt hdw (hy.below hb)).mono fun e w' ⟨zs, S, h1, h2, h3, h4⟩ => by
      obtain ⟨a3s, p3s, a4s, p4s, rfl⟩ := HSHo.out _ _ _ h2
      exact ⟨a3s, p3s, a4s, p4s, S, h1, h2, h3, h4⟩
  have HRc : Hid (b = true → ∀ wx, Below w.heap.size w wx → Calls Try.prog 66 #[.agg #[.int .i64 z0, .string z1, .int .i64 z2, .slice a3 n3 p3, .slice a4 n4 p4], .slice a1 n1 p1] wx fun e w' => ∃ a3s p3s a4s p4s, e = .returned (.tuple #[.agg #[.int .i64 y0, .string y1, .int .i64 y2, .slice a3s m3 p3s, .slice a4s m4 p4s], .bool bR]) ∧ Hid (uH w' 0 w'.heap.size dR [.int .i64 y0, .string y1, .int .i64 y2, .slice a3s m3 p3s, .slice a4s m4 p4s]) ∧ Hid (Below wx.heap.size wx w')) := fun hbt wx hbx =>
    (l4Reach_any d n1 cs1 (hb hbt) ht1 hn1 dR bR (by rw [hR, if_pos hbt]; cases reachU (strL cs1) d <;> rfl) wx lo hi _ lo1 hi1 _ (hx.below hbx) (hx1.below hbx)).mono fun e w' ⟨ys, h1, h2, h3⟩ => by
      obtain ⟨a3s, p3s, a4s, p4s, rfl⟩ := HSHu.out _ _ _ _ h2
      exact ⟨a3s, p3s, a4s, p4s, h1, h2, h3⟩
  have HR := uhide hR
  clear hx hx1 t1 ht hd HV hb hR hw ht1 HSHo HSHu hdR hdt hdw hn1
  cases b
  · have hR2 : (dR, bR) = (zU, false) := HR.out
    obtain ⟨rfl, rfl⟩ := Prod.mk.inj hR2
    clear HR hR2 HRc HCp
    go_enter Try.func21, Try.ntmps21
    go_wp2_with fail
    refine (HVy.out _ (HA.out _ _)).mono ?_
    rintro e w1 ⟨rfl, hb1⟩
    have OR := uhide (objU.below (objU.new2 (w := w.alloc (.cells #[.int .i64 z0, .string z1, .int .i64 z2, .slice a3 n3 p3, .slice a4 n4 p4] 36)) 36 [.int .i64 0, .string ⟨#[]⟩, .int .i64 0, .slice none 0 0, .slice none 0 0] (b := w.heap.size + 1) (by simp)) hb1.out)
    have HB : Hid (Below w.heap.size w w1) := (HA.out _ _).trans (hb1.out.mono (by simp; omega))
    clear hb1
    have r0 := OR.out.cell 0 _ rfl
    have r1 := OR.out.cell 1 _ rfl
    have r2 := OR.out.cell 2 _ rfl
    have r3 := OR.out.cell 3 _ rfl
    have r4 := OR.out.cell 4 _ rfl
    have k0 := OR.out.fz 0
    have k1 := OR.out.fz 1
    have k2 := OR.out.fz 2
    have k3 := OR.out.fz 3
    have k4 := OR.out.fz 4
    go_wp2
    refine bodyPost_ret (v := .tuple #[.agg #[.int .i64 0, .string ⟨#[]⟩, .int .i64 0, .slice none 0 0, .slice none 0 0], .bool false]) ?_ rfl ⟨[.int .i64 0, .string ⟨#[]⟩, .int .i64 0, .slice none 0 0, .slice none 0 0], rfl, zU_hand _ _ _, ?_⟩
    · simp [results, Try.results21, go_sem, r0, r1, r2, r3, r4]
    · repeat (first | with_reducible exact HB.out | with_reducible refine Below.setCell ?_ (by simp <;> omega) _)
  have HRt := uhide (HRc.out rfl)
  clear HR HRc
  go_enter Try.func21, Try.ntmps21
  go_wp2_with fail
  refine (HVy.out _ (HA.out _ _)).mono ?_
  rintro e w1 ⟨rfl, hb1⟩
  have OR := uhide (objU.below (objU.new2 (w := w.alloc (.cells #[.int .i64 z0, .string z1, .int .i64 z2, .slice a3 n3 p3, .slice a4 n4 p4] 36)) 36 [.int .i64 0, .string ⟨#[]⟩, .int .i64 0, .slice none 0 0, .slice none 0 0] (b := w.heap.size + 1) (by simp)) hb1.out)
  have OA := uhide (objU.below (objU.old (objU.new w 36 [.int .i64 z0, .string z1, .int .i64 z2, .slice a3 n3 p3, .slice a4 n4 p4]) _) hb1.out)
  have HB : Hid (Below w.heap.size w w1) := (HA.out _ _).trans (hb1.out.mono (by simp; omega))
  clear hb1 HA HVy
  have o0 := OA.out.cell 0 _ rfl
  have o1 := OA.out.cell 1 _ rfl
  have o2 := OA.out.cell 2 _ rfl
  have o3 := OA.out.cell 3 _ rfl
  have o4 := OA.out.cell 4 _ rfl
  go_wp2_with fail
  refine (HRt.out _ HB.out).mono ?_
  rintro e w2 ⟨b3, q3, b4, q4, rfl, HY, hb2⟩
  have OR2 := uhide (OR.out.below hb2.out)
  have HB2 : Hid (Below w.heap.size w w2) := HB.out.trans (hb2.out.mono HB.out.size)
  have HC := uhide (HCp.out w2 _ HY.out)
  clear OR OA HB hb2 HY HRt HCp o0 o1 o2 o3 o4
  go_wp2_with fail
  refine (HC.out _ (by repeat (first | with_reducible exact Below.refl _ _ | with_reducible refine Below.alloc ?_ (by simp) _))).mono ?_
  rintro e w3 ⟨c3', r3', c4', r4', S, rfl, HO, HS, hb3⟩
  have HBB : Hid (Below w2.heap.size w2 w3) := ((Below.refl _ _).alloc (Nat.le_refl _) _).trans (hb3.out.mono (by simp))
  have OR3 := uhide (OR2.out.below HBB.out)
  have HB3 : Hid (Below w.heap.size w w3) := HB2.out.trans (HBB.out.mono HB2.out.size)
  have HZ : Hid (w.heap.size + 1 < w2.heap.size) := OR2.out.lt
  clear HC OR2 HB2 hb3 HBB
  have r0 := OR3.out.cell 0 _ rfl
  have r1 := OR3.out.cell 1 _ rfl
  have r2 := OR3.out.cell 2 _ rfl
  have r3 := OR3.out.cell 3 _ rfl
  have r4 := OR3.out.cell 4 _ rfl
  have k0 := OR3.out.fz 0
  have k1 := OR3.out.fz 1
  have k2 := OR3.out.fz 2
  have k3 := OR3.out.fz 3
  have k4 := OR3.out.fz 4
  go_wp2
  refine bodyPost_ret (v := .tuple #[.agg #[.int .i64 y0, .string y1, .int .i64 y2, .slice c3' m3 r3', .slice c4' m4 r4'], .bool bR]) ?_ rfl ⟨[.int .i64 y0, .string y1, .int .i64 y2, .slice c3' m3 r3', .slice c4' m4 r4'], rfl, ?_, ?_⟩
  · simp [results, Try.results21, go_sem, r0, r1, r2, r3, r4]
  · refine (HO.out.outs (T := [w.heap.size + 1]) (by repeat (first | with_reducible exact OutS.refl _ _ | with_reducible refine OutS.setCell ?_ (show _ ∈ [w.heap.size + 1] by simp) _)) HS.out (fun x hx => by have := HZ.out; simp at hx ⊢; omega)).hand (fun g hg => ⟨Nat.zero_le _, ?_⟩)
    have := (HS.out.2 g hg).2
    simpa using this
  · repeat (first | with_reducible exact HB3.out | with_reducible refine Below.setCell ?_ (by simp <;> omega) _)
theorem reach_both (dA0 : UD) (nA1 : Nat) (csA1 : UD) (htA0 : tyL dA0 (uE 6)) (htA1 : tyS 1 nA1 csA1 0) (hw : (wt dA0) + (nA1 + wt csA1) ≤ 1048576) :
    ∃ (dR0 : UD) (bR1 : Bool), tyL dR0 (uE 6) ∧ cnt dR0 ≤ 50000000 ∧ (∀ (w : World) (loA0 hiA0 : Nat) (xsA0 : List Value) (loA1 hiA1 : Nat) (cA1 : Value), uH w loA0 hiA0 dA0 xsA0 → uS w loA1 hiA1 1 nA1 csA1 cA1 → Calls Try.prog 21 #[.agg xsA0.toArray, cA1] w fun e w' => ∃ (ysR0 : List Value), e = .returned (.tuple #[.agg ysR0.toArray, .bool bR1]) ∧ uH w' 0 w'.heap.size dR0 ysR0 ∧ Below w.heap.size w w') ∧
    (∀ (w : World) (loA0 hiA0 : Nat) (xsA0 : List Value) (loA1 hiA1 : Nat) (cA1 : Value), uH w loA0 hiA0 dA0 xsA0 → uS w loA1 hiA1 1 nA1 csA1 cA1 → Calls Try.prog 20 #[.agg xsA0.toArray, cA1] w fun e w' => ∃ (ysR0 : List Value) (SR0 : List Nat), e = .returned (.tuple #[.agg ysR0.toArray, .bool bR1]) ∧ oH w' dR0 ysR0 SR0 ∧ own2 SR0 w.heap.size w'.heap.size ∧ Below w.heap.size w w') := by
  obtain ⟨b, h1, h2, h3⟩ := vok_both dA0 htA0
  have hb : b = true → onWay dA0 := fun h => ⟨htA0, by omega, h1 h⟩
  obtain ⟨dR, bR, hR⟩ : ∃ (dR : UD) (bR : Bool), (dR, bR) = if b then (match reachU (strL csA1) dA0 with | some e => (e, true) | none => (zU, false)) else (zU, false) := ⟨_, _, rfl⟩
  have hW : tyL dR (uE 6) ∧ wt dR ≤ 1048576 := by
    have hz : tyL zU (uE 6) ∧ wt zU ≤ 1048576 := ⟨zU_ty, by rw [zU_wt]; omega⟩
    cases hbb : b with
    | false =>
      rw [hbb] at hR
      obtain ⟨rfl, rfl⟩ := Prod.mk.inj (show (dR, bR) = (zU, false) from hR)
      exact hz
    | true =>
      rw [hbb] at hR
      have hR' : (dR, bR) = (match reachU (strL csA1) dA0 with | some e => (e, true) | none => (zU, false)) := hR
      cases hr : reachU (strL csA1) dA0 with
      | none =>
        rw [hr] at hR'
        obtain ⟨rfl, rfl⟩ := Prod.mk.inj hR'
        exact hz
      | some e =>
        rw [hr] at hR'
        obtain ⟨rfl, rfl⟩ := Prod.mk.inj hR'
        have hway := reachU_way _ _ _ (hb hbb) hr
        exact ⟨hway.1, hway.2.1⟩
  obtain ⟨ht, hwR⟩ := hW
  refine ⟨dR, bR, ht, ?_, sReach_any dA0 nA1 csA1 b htA0 htA1 hw hb h2 dR bR hR ht hwR, ?_⟩
  · obtain ⟨z0, z1, z2, n3, c3, n4, c4, rfl, -, -, -, g3, g4⟩ := partsValue ht
    rw [wt_slot] at hwR
    have e3 := cnt_wt g3
    have e4 := cnt_wt g4
    simp only [cnt]
    omega
  · intro w lo hi xs lo1 hi1 c1 hx hx1
    exact iReach_any dA0 nA1 csA1 b htA0 htA1 hw hb h3 dR bR hR w lo hi xs lo1 hi1 c1 hx hx1
end Go.Proofs.Ytbadjopaocindaa
