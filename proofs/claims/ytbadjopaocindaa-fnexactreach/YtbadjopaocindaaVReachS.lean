/- Where a path leads, by the spec: l4Reach. -/
import Derived.Test.YtbadjopaocindaaVReach
namespace Go.Proofs.Ytbadjopaocindaa
open Go.RowKit Go.BigFrame
set_option linter.unusedVariables false
theorem zU_hand (w : World) (lo hi : Nat) : uH w lo hi zU [.int .i64 0, .string ⟨#[]⟩, .int .i64 0, .slice none 0 0, .slice none 0 0] :=
  ⟨_, rfl, ⟨_, rfl, ⟨_, rfl, ⟨_, _, rfl, ⟨none, 0, rfl, ⟨Nat.le_refl _, fun _ => rfl, by decide, rfl⟩, fun h => by cases h⟩, ⟨_, _, rfl, ⟨none, 0, rfl, ⟨Nat.le_refl _, fun _ => rfl, by decide, rfl⟩, fun h => by cases h⟩, rfl⟩⟩⟩⟩⟩
set_option maxRecDepth 20000 in
set_option maxHeartbeats 3200000 in
theorem l4Reach_any (d : UD) (n1 : Nat) (cs1 : UD) (hway : onWay d) (ht1 : tyS 1 n1 cs1 0) (hn1 : n1 ≤ 1048576)
    (dR : UD) (bR : Bool) (hR : (dR, bR) = match reachU (strL cs1) d with | some e => (e, true) | none => (zU, false)) :
    ∀ (w : World) (lo hi : Nat) (xs : List Value) (lo1 hi1 : Nat) (c1 : Value), uH w lo hi d xs → uS w lo1 hi1 1 n1 cs1 c1 →
      Calls Try.prog 66 #[.agg xs.toArray, c1] w fun e w' => ∃ (ys : List Value), e = .returned (.tuple #[.agg ys.toArray, .bool bR]) ∧ uH w' 0 w'.heap.size dR ys ∧ Below w.heap.size w w' := by
  intro w lo hi xs lo1 hi1 c1 hx hx1
  obtain ⟨a1, p1, rfl, t1⟩ := hx1
  have hS1 : uS w lo1 hi1 1 n1 cs1 (.slice a1 n1 p1) := ⟨_, _, rfl, t1⟩
  have Hx := uhide hx.clip
  obtain ⟨q1, q2, q3⟩ := strB_of ht1 hS1
  have Hpath := uhide q1.of
  have hpz := (strL_get cs1 0 ht1.2.2.2.2)
  have Hpz : Hid (∀ j (h : j < (strL cs1).length), ((strL cs1)[j]'h).size ≤ maxLen) := fun j h => (hpz.2 j h).2
  have HW := uhide hway
  obtain ⟨z0, z1, z2, n3, c3, n4, c4, hd, -, -, -, -, -, -⟩ := hway.parts
  have hx' := hx
  rw [hd] at hx'
  obtain ⟨_, rfl, ⟨_, rfl, ⟨_, rfl, ⟨v3, _, rfl, s3, ⟨v4, _, rfl, s4, rfl⟩⟩⟩⟩⟩ := hx'
  obtain ⟨a3, p3, rfl, -⟩ := s3
  obtain ⟨a4, p4, rfl, -⟩ := s4
  have HA : Hid (∀ o o', Below w.heap.size w ((w.alloc o).alloc o')) := fun o o' => ((Below.refl _ _).alloc (Nat.le_refl _) _).alloc (by simp) _
  have HR2 := uhide hR
  have HX0 := uhide (Hx.out.below ((Below.refl _ _).alloc (Nat.le_refl _) (.cells #[.int .i64 z0, .string z1, .int .i64 z2, .slice a3 n3 p3, .slice a4 n4 p4] 36)))
  clear hx hS1 t1 q1 q2 hpz hd hR ht1 hway
  go_enter Try.func66, Try.ntmps66
  go_wp2
  go_loopw [6] (fun i wr => ∃ (q : Nat) (e : UD) (ys : List Value), q ≤ n1 ∧ i = .int .i64 q ∧ Hid (reachU ((strL cs1).drop q) e = reachU (strL cs1) d) ∧ Hid (onWay e) ∧ Hid (objU wr w.heap.size 36 ys) ∧ Hid (uH wr lo w.heap.size e ys) ∧
      Hid (objU wr (w.heap.size + 1) 36 [.int .i64 0, .string ⟨#[]⟩, .int .i64 0, .slice none 0 0, .slice none 0 0]) ∧ Hid (Below w.heap.size w wr)) (fun i _ => n1 - (intOf i).toNat)
  case atStart => exact ⟨0, d, _, Nat.zero_le _, rfl, rfl, HW, (objU.new _ _ _).old _, HX0.out.below ((Below.refl _ _).alloc (Nat.le_refl _) _), objU.new2 _ _ (by simp), HA.out _ _⟩
  case round =>
    clear HX0 Hx HW HA
    obtain ⟨q, e, ys, hq, rfl, Hrc, HW, OA, HX, OR, HB⟩ := hrel
    obtain ⟨y0, y1, y2, m3, e3, m4, e4, rfl, g3, g4, hb5, hm3, hm4, hrow⟩ := HW.out.parts
    have hxx := HX.out
    obtain ⟨_, rfl, ⟨_, rfl, ⟨_, rfl, ⟨v3, _, rfl, s3, ⟨v4, _, rfl, s4, rfl⟩⟩⟩⟩⟩ := hxx
    obtain ⟨b3, o3, rfl, u3⟩ := s3
    obtain ⟨b4, o4, rfl, u4⟩ := s4
    have H3 : uS wr lo w.heap.size 1 m3 e3 (.slice b3 m3 o3) := ⟨_, _, rfl, u3⟩
    have H4 : Hid (uS wr lo w.heap.size 5 m4 e4 (.slice b4 m4 o4)) := ⟨_, _, rfl, u4⟩
    obtain ⟨f1, f2, f3⟩ := strB_of g3 H3
    by_cases hlt : q < n1
    · have hqs : q < (strL cs1).length := by omega
      obtain ⟨pb, poff, hpa, hat⟩ := Hpath.out (by omega)
      have hcc := hat q hqs
      have hpl : pb < w.heap.size := World.block_lt_of_cell? _ _ hcc
      have c0 := (HB.out.cell (p := ⟨pb, poff + q, none⟩) hpl).trans hcc
      have hrd := reach_drop hqs (.p (.int .i64 y0) (.p (.string y1) (.p (.int .i64 y2) (.l 1 m3 e3 (.l 5 m4 e4 .nil)))))
      have HTX := Hpz.out q hqs
      generalize (strL cs1)[q]'hqs = TX at *
      have hstep : stepU (.p (.int .i64 y0) (.p (.string y1) (.p (.int .i64 y2) (.l 1 m3 e3 (.l 5 m4 e4 .nil))))) TX = (kidI y0 (strL e3) m4 TX).map fun i => rowU e4 5 i := rfl
      have hTX : TX.size ≤ maxLen := HTX
      have HK : Hid (∀ wx, Below wr.heap.size wr wx → Calls Try.prog 105 #[.agg #[.int .i64 y0, .string y1, .int .i64 y2, .slice b3 m3 o3, .slice b4 m4 o4], .string TX] wx fun e w' => e = .returned (.int .i64 (kidR (kidI y0 (strL e3) m4 TX))) ∧ Hid (Below wr.heap.size wr w')) := fun wx hbx => by
        have := (l4Kid_any y0 y1 y2 (strL e3) b3 b4 o3 o4 m4 TX wx hb5 (by unfold maxLen; omega) (by unfold maxLen; omega) hTX (f1.of.below hbx)).mono fun e w' h => And.intro h.1 (show Hid (Below wr.heap.size wr w') from hbx.trans (h.2.mono hbx.size))
        rw [f3] at this
        exact this
      have HLT : Hid (∀ j, kidI y0 (strL e3) m4 TX = some j → j < m4) := fun j hj => kidI_lt hb5 hj
      subst hpa
      have Hrd := uhide (hrd.trans (by rw [hstep]))
      have Hrow := uhide hrow
      have G4 := uhide g4
      have oa0 := OA.out.cell 0 _ rfl
      have oa1 := OA.out.cell 1 _ rfl
      have oa2 := OA.out.cell 2 _ rfl
      have oa3 := OA.out.cell 3 _ rfl
      have oa4 := OA.out.cell 4 _ rfl
      have HQ : Hid (∀ wx, Below wr.heap.size wr wx → wx.cell? ⟨pb, poff + q, none⟩ = some (.string TX) ∧ wx.cell? ⟨w.heap.size, 0, none⟩ = some (.int .i64 y0) ∧ wx.cell? ⟨w.heap.size, 1, none⟩ = some (.string y1) ∧ wx.cell? ⟨w.heap.size, 2, none⟩ = some (.int .i64 y2) ∧ wx.cell? ⟨w.heap.size, 3, none⟩ = some (.slice b3 m3 o3) ∧ wx.cell? ⟨w.heap.size, 4, none⟩ = some (.slice b4 m4 o4)) := fun wx hbx => ⟨(hbx.cell (p := ⟨pb, poff + q, none⟩) (World.block_lt_of_cell? _ _ c0)).trans c0, (OA.out.below hbx).cell 0 _ rfl, (OA.out.below hbx).cell 1 _ rfl, (OA.out.below hbx).cell 2 _ rfl, (OA.out.below hbx).cell 3 _ rfl, (OA.out.below hbx).cell 4 _ rfl⟩
      clear hat hcc hrd hstep hb5 f1 f2 f3 H3 u3 u4 hrow g3 g4 HTX hTX
      cases hk : kidI y0 (strL e3) m4 TX with
      | none =>
        rw [hk] at Hrd HK
        have hkr : kidR none = -1 := rfl
        rw [hkr] at HK
        clear hkr
        go_wp2
        go_region_with (go_at_call 105; refine (HK.out _ (by repeat (first | with_reducible exact Below.refl _ _ | with_reducible refine Below.drew ?_ | with_reducible refine below_drewN ?_ _))).mono ?_; rintro e w2 ⟨rfl, hb2⟩)
        all_goals (
          have OA2 := uhide (OA.out.below hb2.out)
          have OR2 := uhide (OR.out.below hb2.out)
          have HX2 := uhide (HX.out.below hb2.out)
          have H42 := uhide (H4.out.below hb2.out)
          have HB2 : Hid (Below w.heap.size w w2) := HB.out.trans (hb2.out.mono HB.out.size)
          clear OA OR HX H4 HB hb2 oa0 oa1 oa2 oa3 oa4 c0
          have hfin : reachU (strL cs1) d = none := by rw [← Hrc.out]; exact Hrd.out
          have hR3 := HR2.out
          rw [hfin] at hR3
          obtain ⟨rfl, rfl⟩ := Prod.mk.inj (show (dR, bR) = (zU, false) from hR3)
          have r0 := OR2.out.cell 0 _ rfl
          have r1 := OR2.out.cell 1 _ rfl
          have r2 := OR2.out.cell 2 _ rfl
          have r3 := OR2.out.cell 3 _ rfl
          have r4 := OR2.out.cell 4 _ rfl
          have k0 := OR2.out.fz 0
          have k1 := OR2.out.fz 1
          have k2 := OR2.out.fz 2
          have k3 := OR2.out.fz 3
          have k4 := OR2.out.fz 4
          clear hR3 hfin HR2 Hrd Hrc hk
          go_wp2
          refine bodyPost_ret (v := .tuple #[.agg #[.int .i64 0, .string ⟨#[]⟩, .int .i64 0, .slice none 0 0, .slice none 0 0], .bool false]) ?_ rfl ⟨[.int .i64 0, .string ⟨#[]⟩, .int .i64 0, .slice none 0 0, .slice none 0 0], rfl, zU_hand _ _ _, ?_⟩
          · simp [results, Try.results66, go_sem, r0, r1, r2, r3, r4]
          · repeat (first | with_reducible exact HB2.out | with_reducible refine Below.setCell ?_ (by simp <;> omega) _))
      | some j =>
        have hjm := HLT.out j hk
        rw [hk] at Hrd HK
        have hkr : kidR (some j) = (j : Int) := rfl
        rw [hkr] at HK
        clear hkr
        have Hrc2 : Hid (reachU ((strL cs1).drop (q + 1)) (rowU e4 5 j) = reachU (strL cs1) d) := by show _ = _; rw [← Hrc.out]; exact Hrd.out.symm
        go_wp2
        go_region_with (go_at_call 105; refine (HK.out _ (by repeat (first | with_reducible exact Below.refl _ _ | with_reducible refine Below.drew ?_ | with_reducible refine below_drewN ?_ _))).mono ?_; rintro e w2 ⟨rfl, hb2⟩)
        all_goals (
          have OA2 := uhide (OA.out.below hb2.out)
          have OR2 := uhide (OR.out.below hb2.out)
          have HX2 := uhide (HX.out.below hb2.out)
          have H42 := uhide (H4.out.below hb2.out)
          have HB2 : Hid (Below w.heap.size w w2) := HB.out.trans (hb2.out.mono HB.out.size)
          clear OA OR HX H4 HB hb2 oa0 oa1 oa2 oa3 oa4 c0
          obtain ⟨kb, koff, rfl, hkl, hm⟩ := H42.out.cells (by omega)
          obtain ⟨xs, hh, hcl⟩ := (hm.row 5 j).hand
          have HH := uhide hh
          obtain ⟨x0, x1, x2, l3, f3, l4, f4, hR5, -, -, -, -, -⟩ := partsValue (G4.out.row hjm)
          rw [hR5] at hh
          obtain ⟨_, rfl, ⟨_, rfl, ⟨_, rfl, ⟨v3, _, rfl, s3, ⟨v4, _, rfl, s4, rfl⟩⟩⟩⟩⟩ := hh
          obtain ⟨a3k, p3k, rfl, -⟩ := s3
          obtain ⟨a4k, p4k, rfl, -⟩ := s4
          have c0 : w2.cell? ⟨kb, koff + j * 5, none⟩ = some (.int .i64 x0) := hcl 0 _ rfl
          have c1 : w2.cell? ⟨kb, koff + j * 5 + 1, none⟩ = some (.string x1) := hcl 1 _ rfl
          have c2 : w2.cell? ⟨kb, koff + j * 5 + 2, none⟩ = some (.int .i64 x2) := hcl 2 _ rfl
          have c3 : w2.cell? ⟨kb, koff + j * 5 + 3, none⟩ = some (.slice a3k l3 p3k) := hcl 3 _ rfl
          have c4 : w2.cell? ⟨kb, koff + j * 5 + 4, none⟩ = some (.slice a4k l4 p4k) := hcl 4 _ rfl
          have oa0 := OA2.out.cell 0 _ rfl
          have oa1 := OA2.out.cell 1 _ rfl
          have oa2 := OA2.out.cell 2 _ rfl
          have oa3 := OA2.out.cell 3 _ rfl
          have oa4 := OA2.out.cell 4 _ rfl
          have k0 := OA2.out.fz 0
          have k1 := OA2.out.fz 1
          have k2 := OA2.out.fz 2
          have k3 := OA2.out.fz 3
          have k4 := OA2.out.fz 4
          have hw1 : w.heap.size + 1 < w2.heap.size := OR2.out.lt
          have HOA : Hid (objU (((((w2.setCell ⟨w.heap.size, 0, none⟩ (.int .i64 x0)).setCell ⟨w.heap.size, 1, none⟩ (.string x1)).setCell ⟨w.heap.size, 2, none⟩ (.int .i64 x2)).setCell ⟨w.heap.size, 3, none⟩ (.slice a3k l3 p3k)).setCell ⟨w.heap.size, 4, none⟩ (.slice a4k l4 p4k)) w.heap.size 36 [.int .i64 x0, .string x1, .int .i64 x2, .slice a3k l3 p3k, .slice a4k l4 p4k]) :=
            ((((OA2.out.set 0 _).set 1 _).set 2 _).set 3 _).set 4 _
          have HOR : Hid (objU (((((w2.setCell ⟨w.heap.size, 0, none⟩ (.int .i64 x0)).setCell ⟨w.heap.size, 1, none⟩ (.string x1)).setCell ⟨w.heap.size, 2, none⟩ (.int .i64 x2)).setCell ⟨w.heap.size, 3, none⟩ (.slice a3k l3 p3k)).setCell ⟨w.heap.size, 4, none⟩ (.slice a4k l4 p4k)) (w.heap.size + 1) 36 [.int .i64 0, .string ⟨#[]⟩, .int .i64 0, .slice none 0 0, .slice none 0 0]) :=
            ((((OR2.out.other _ (by simp) _).other _ (by simp) _).other _ (by simp) _).other _ (by simp) _).other _ (by simp) _
          have HO : OutR w.heap.size (w.heap.size + 1) w2 (((((w2.setCell ⟨w.heap.size, 0, none⟩ (.int .i64 x0)).setCell ⟨w.heap.size, 1, none⟩ (.string x1)).setCell ⟨w.heap.size, 2, none⟩ (.int .i64 x2)).setCell ⟨w.heap.size, 3, none⟩ (.slice a3k l3 p3k)).setCell ⟨w.heap.size, 4, none⟩ (.slice a4k l4 p4k)) :=
            (((((((OutS.refl [w.heap.size] w2).setCell (p := ⟨w.heap.size, 0, none⟩) (by simp) _).setCell (p := ⟨w.heap.size, 1, none⟩) (by simp) _).setCell (p := ⟨w.heap.size, 2, none⟩) (by simp) _).setCell (p := ⟨w.heap.size, 3, none⟩) (by simp) _).setCell (p := ⟨w.heap.size, 4, none⟩) (by simp) _)).out (fun t ht => by simp at ht; omega)
          have HXX := uhide (HH.out.out HO (Or.inl (Nat.le_refl _)))
          have HBB := uhide (HB2.out.trans (HO.below (Nat.le_refl _) (by omega)))
          have HWW := uhide (Hrow.out j hjm)
          clear hR5 hcl hm HH Hrd HO HB2 OA2 OR2 HX2 H42 hw1 hk HLT HQ
          go_wp2
          go_roundw
          case rel => exact ⟨q + 1, _, _, by omega, by go_num, Hrc2, HWW, HOA, HXX, HOR, HBB⟩
          case measure => (simp [intOf]; omega))
    · have eq : q = n1 := by omega
      subst eq
      have hfin : reachU (strL cs1) d = some (.p (.int .i64 y0) (.p (.string y1) (.p (.int .i64 y2) (.l 1 m3 e3 (.l 5 m4 e4 .nil))))) := by rw [← Hrc.out, ← q3, List.drop_length]; rfl
      have hR3 := HR2.out
      rw [hfin] at hR3
      obtain ⟨rfl, rfl⟩ := Prod.mk.inj (show (dR, bR) = (_, true) from hR3)
      have oa0 := OA.out.cell 0 _ rfl
      have oa1 := OA.out.cell 1 _ rfl
      have oa2 := OA.out.cell 2 _ rfl
      have oa3 := OA.out.cell 3 _ rfl
      have oa4 := OA.out.cell 4 _ rfl
      have r0 := OR.out.cell 0 _ rfl
      have r1 := OR.out.cell 1 _ rfl
      have r2 := OR.out.cell 2 _ rfl
      have r3 := OR.out.cell 3 _ rfl
      have r4 := OR.out.cell 4 _ rfl
      have k0 := OR.out.fz 0
      have k1 := OR.out.fz 1
      have k2 := OR.out.fz 2
      have k3 := OR.out.fz 3
      have k4 := OR.out.fz 4
      clear hR3 hfin HR2 Hrc HW H3 H4 f1 f2 f3 u3 u4 g3 g4 hb5 hrow Hpath Hpz
      go_wp2
      refine bodyPost_ret (v := .tuple #[.agg #[.int .i64 y0, .string y1, .int .i64 y2, .slice b3 m3 o3, .slice b4 m4 o4], .bool true]) ?_ rfl ⟨[.int .i64 y0, .string y1, .int .i64 y2, .slice b3 m3 o3, .slice b4 m4 o4], rfl, ?_, ?_⟩
      · simp [results, Try.results66, go_sem, r0, r1, r2, r3, r4]
      · have hz := HB.out.size
        have HO : OutS [w.heap.size + 1] wr (((((wr.setCell ⟨w.heap.size + 1, 0, none⟩ (.int .i64 y0)).setCell ⟨w.heap.size + 1, 1, none⟩ (.string y1)).setCell ⟨w.heap.size + 1, 2, none⟩ (.int .i64 y2)).setCell ⟨w.heap.size + 1, 3, none⟩ (.slice b3 m3 o3)).setCell ⟨w.heap.size + 1, 4, none⟩ (.slice b4 m4 o4)) := by repeat (first | with_reducible exact OutS.refl _ _ | with_reducible refine OutS.setCell ?_ (show _ ∈ [w.heap.size + 1] by simp) _)
        exact (HX.out.out (HO.out (lo := w.heap.size + 1) (hi := w.heap.size + 2) (fun t ht => by simp at ht; omega)) (Or.inl (by omega))).mono (Nat.zero_le _) (by simp; omega)
      · repeat (first | with_reducible exact HB.out | with_reducible refine Below.setCell ?_ (by simp <;> omega) _)
end Go.Proofs.Ytbadjopaocindaa
