/- Where a path leads: what it is, and impl.Reach. -/
import Derived.Test.YtbadjopaocindaaVKid
import Derived.Test.YtbadjopaocindaaBrg
import Derived.Test.YtbadjopaocindaaVCopy
namespace Go.Proofs.Ytbadjopaocindaa
open Go.RowKit Go.BigFrame
set_option linter.unusedVariables false

def zU : UD := .p (.int .i64 0) (.p (.string ⟨#[]⟩) (.p (.int .i64 0) (.l 1 0 .nil (.l 5 0 .nil .nil))))
def stepU : UD → ByteArray → Option UD
  | .p (.int _ z0) (.p _ (.p _ (.l _ _ c3 (.l _ n4 c4 _)))), s => (kidI z0 (strL c3) n4 s).map fun i => rowU c4 5 i
  | _, _ => none
def reachU : List ByteArray → UD → Option UD
  | [], d => some d
  | s :: r, d => match stepU d s with | some e => reachU r e | none => none
theorem reach_drop {ss : List ByteArray} {q : Nat} (h : q < ss.length) (d : UD) : reachU (ss.drop q) d = match stepU d (ss[q]'h) with | some e => reachU (ss.drop (q + 1)) e | none => none := by
  rw [List.drop_eq_getElem_cons h]; rfl
/-- what is asked of a value on the way -/
def onWay (d : UD) : Prop := tyL d (uE 6) ∧ wt d ≤ 1048576 ∧ ∃ N, rgtU N d
theorem wt_slot (z0 : Int) (z1 : ByteArray) (z2 : Int) (n3 : Nat) (c3 : UD) (n4 : Nat) (c4 : UD) : wt (.p (.int .i64 z0) (.p (.string z1) (.p (.int .i64 z2) (.l 1 n3 c3 (.l 5 n4 c4 .nil))))) = z1.size + (n3 + wt c3 + (n4 + wt c4)) := by simp only [wt, wtP]; omega
/-- the parts of a value on the way -/
theorem onWay.parts {d : UD} (h : onWay d) : ∃ (z0 : Int) (z1 : ByteArray) (z2 : Int) (n3 : Nat) (c3 : UD) (n4 : Nat) (c4 : UD), d = .p (.int .i64 z0) (.p (.string z1) (.p (.int .i64 z2) (.l 1 n3 c3 (.l 5 n4 c4 .nil)))) ∧ tyS 1 n3 c3 0 ∧ tyS 5 n4 c4 6 ∧ hdB z0 z1 z2 (strL c3) n4 = true ∧ n3 ≤ 1048576 ∧ n4 ≤ 1048576 ∧
    ∀ i, i < n4 → onWay (rowU c4 5 i) := by
  obtain ⟨ht, hw, N, hr⟩ := h
  obtain ⟨z0, z1, z2, n3, c3, n4, c4, rfl, g0, g1, g2, g3, g4⟩ := partsValue ht
  rw [wt_slot] at hw
  cases N with
  | zero => exact hr.elim
  | succ N =>
    obtain ⟨y0, y1, y2, m3, e3, m4, e4, e, hb, hk⟩ := hr
    cases e
    exact ⟨_, _, _, _, _, _, _, rfl, g3, g4, hb, by omega, by omega, fun i hi => ⟨g4.row hi, by have := wt_row c4 5 i; omega, N, hk i hi⟩⟩
set_option maxRecDepth 20000 in
set_option maxHeartbeats 3200000 in
theorem iReach_any (d : UD) (n1 : Nat) (cs1 : UD) (b : Bool) (ht : tyL d (uE 6)) (ht1 : tyS 1 n1 cs1 0) (hw : wt d + (n1 + wt cs1) ≤ 1048576) (hb : b = true → onWay d)
    (HV : ∀ (w : World) (lo hi : Nat) (xs : List Value), uH w lo hi d xs → Calls Try.prog 37 #[.agg xs.toArray] w fun e w' => e = .returned (.bool b) ∧ Below w.heap.size w w')
    (dR : UD) (bR : Bool) (hR : (dR, bR) = if b then (match reachU (strL cs1) d with | some e => (e, true) | none => (zU, false)) else (zU, false)) :
    ∀ (w : World) (lo hi : Nat) (xs : List Value) (lo1 hi1 : Nat) (c1 : Value), uH w lo hi d xs → uS w lo1 hi1 1 n1 cs1 c1 →
      Calls Try.prog 20 #[.agg xs.toArray, c1] w fun e w' => ∃ (ys : List Value) (S : List Nat), e = .returned (.tuple #[.agg ys.toArray, .bool bR]) ∧ oH w' dR ys S ∧ own2 S w.heap.size w'.heap.size ∧ Below w.heap.size w w' := by
  intro w lo hi xs lo1 hi1 c1 hx hx1
  obtain ⟨a1, p1, rfl, t1⟩ := hx1
  have hS1 : uS w lo1 hi1 1 n1 cs1 (.slice a1 n1 p1) := ⟨_, _, rfl, t1⟩
  have Hx := uhide hx.clip
  obtain ⟨q1, q2, q3⟩ := strB_of ht1 hS1
  have Hpath := uhide q1.of
  have hpz := (strL_get cs1 0 ht1.2.2.2.2)
  have Hpz : Hid (∀ j (h : j < (strL cs1).length), ((strL cs1)[j]'h).size ≤ maxLen) := fun j h => (hpz.2 j h).2
  have Ht := uhide ht
  have HVx := uhide (HV w lo hi xs hx)
  obtain ⟨z0, z1, z2, n3, c3, n4, c4, hd, -, -, -, -, -⟩ := partsValue ht
  have hx' := hx
  rw [hd] at hx'
  obtain ⟨_, rfl, ⟨_, rfl, ⟨_, rfl, ⟨v3, _, rfl, s3, ⟨v4, _, rfl, s4, rfl⟩⟩⟩⟩⟩ := hx'
  obtain ⟨a3, p3, rfl, -⟩ := s3
  obtain ⟨a4, p4, rfl, -⟩ := s4
  have HVy : Hid (∀ wx, Below w.heap.size w wx → Calls Try.prog 37 #[.agg #[.int .i64 z0, .string z1, .int .i64 z2, .slice a3 n3 p3, .slice a4 n4 p4]] wx fun e w' => e = .returned (.bool b) ∧ Hid (Below wx.heap.size wx w')) := fun wx hbx => HV wx lo hi _ (hx.below hbx)
  have hn1 : n1 ≤ 1048576 := by omega
  have HA : Hid (∀ o o', Below w.heap.size w ((w.alloc o).alloc o')) := fun o o' => ((Below.refl _ _).alloc (Nat.le_refl _) _).alloc (by simp) _
  have Hb := uhide hb
  have HR := uhide hR
  clear hx hS1 t1 q1 q2 hpz ht hd HV HVx hb hR hw ht1
  cases b
  · have hR2 : (dR, bR) = (zU, false) := HR.out
    obtain ⟨rfl, rfl⟩ := Prod.mk.inj hR2
    clear HR hR2
    go_enter Try.func20, Try.ntmps20
    go_wp2_with fail
    refine (HVy.out _ (HA.out _ _)).mono ?_
    rintro e w1 ⟨rfl, hb1⟩
    have OR := uhide (objU.below (objU.new2 (w := w.alloc (.cells #[.int .i64 z0, .string z1, .int .i64 z2, .slice a3 n3 p3, .slice a4 n4 p4] 36)) 36 [.int .i64 0, .string ⟨#[]⟩, .int .i64 0, .slice none 0 0, .slice none 0 0] (b := w.heap.size + 1) (by simp)) hb1.out)
    have HB : Hid (Below w.heap.size w w1) := (HA.out _ _).trans (hb1.out.mono (by simp; omega))
    clear hb1
    have r0 := OR.out.cell 0 _ rfl
    have r1 := OR.out.cell 1 _ rfl
    have r2 := OR.out.cell 2 _ rfl
    have r3 := OR.out.cell 3 _ rfl
    have r4 := OR.out.cell 4 _ rfl
    have k0 := OR.out.fz 0
    have k1 := OR.out.fz 1
    have k2 := OR.out.fz 2
    have k3 := OR.out.fz 3
    have k4 := OR.out.fz 4
    go_wp2
    refine bodyPost_ret (v := .tuple #[.agg #[.int .i64 0, .string ⟨#[]⟩, .int .i64 0, .slice none 0 0, .slice none 0 0], .bool false]) ?_ rfl ⟨[.int .i64 0, .string ⟨#[]⟩, .int .i64 0, .slice none 0 0, .slice none 0 0], [], rfl, ?_, own2.nil _ _, ?_⟩
    · simp [results, Try.results20, go_sem, r0, r1, r2, r3, r4]
    · exact oH.consP _ (oH.consP _ (oH.consP _ (oH.consS (S1 := []) ⟨by decide, 9, [], [], World.ownsRow_nil _ _ _ _, ⟨rfl, rfl⟩, rfl⟩ (oH.consS (S1 := []) ⟨by decide, 9, [], [], World.ownsRow_nil _ _ _ _, ⟨rfl, rfl⟩, rfl⟩ (oH.nil _)))))
    · repeat (first | with_reducible exact HB.out | with_reducible refine Below.setCell ?_ (by simp <;> omega) _)
  have hR2 : (dR, bR) = (match reachU (strL cs1) d with | some e => (e, true) | none => (zU, false)) := HR.out
  have HR2 := uhide hR2
  have HW := uhide (Hb.out rfl)
  clear HR hR2 Hb
  go_enter Try.func20, Try.ntmps20
  go_wp2_with fail
  refine (HVy.out _ (HA.out _ _)).mono ?_
  rintro e w1 ⟨rfl, hb1⟩
  have OR := uhide (objU.below (objU.new2 (w := w.alloc (.cells #[.int .i64 z0, .string z1, .int .i64 z2, .slice a3 n3 p3, .slice a4 n4 p4] 36)) 36 [.int .i64 0, .string ⟨#[]⟩, .int .i64 0, .slice none 0 0, .slice none 0 0] (b := w.heap.size + 1) (by simp)) hb1.out)
  have OA := uhide (objU.below (objU.old (objU.new w 36 [.int .i64 z0, .string z1, .int .i64 z2, .slice a3 n3 p3, .slice a4 n4 p4]) _) hb1.out)
  have HB : Hid (Below w.heap.size w w1) := (HA.out _ _).trans (hb1.out.mono (by simp; omega))
  have HX : Hid (uH w1 lo w.heap.size d [.int .i64 z0, .string z1, .int .i64 z2, .slice a3 n3 p3, .slice a4 n4 p4]) := Hx.out.below HB.out
  clear hb1 HA HVy Hx
  go_wp2
  go_loopw [16] (fun i wr => ∃ (q : Nat) (e : UD) (ys : List Value), q ≤ n1 ∧ i = .int .i64 q ∧ Hid (reachU ((strL cs1).drop q) e = reachU (strL cs1) d) ∧ Hid (onWay e) ∧ Hid (objU wr w.heap.size 36 ys) ∧ Hid (uH wr lo w.heap.size e ys) ∧
      Hid (objU wr (w.heap.size + 1) 36 [.int .i64 0, .string ⟨#[]⟩, .int .i64 0, .slice none 0 0, .slice none 0 0]) ∧ Hid (Below w.heap.size w wr)) (fun i _ => n1 - (intOf i).toNat)
  case atStart => exact ⟨0, d, _, Nat.zero_le _, rfl, rfl, HW, OA, HX, OR, HB⟩
  case round =>
    clear OA HX OR HB HW
    obtain ⟨q, e, ys, hq, rfl, Hrc, HW, OA, HX, OR, HB⟩ := hrel
    obtain ⟨y0, y1, y2, m3, e3, m4, e4, rfl, g3, g4, hb5, hm3, hm4, hrow⟩ := HW.out.parts
    have hxx := HX.out
    obtain ⟨_, rfl, ⟨_, rfl, ⟨_, rfl, ⟨v3, _, rfl, s3, ⟨v4, _, rfl, s4, rfl⟩⟩⟩⟩⟩ := hxx
    obtain ⟨b3, o3, rfl, u3⟩ := s3
    obtain ⟨b4, o4, rfl, u4⟩ := s4
    have H3 : uS wr lo w.heap.size 1 m3 e3 (.slice b3 m3 o3) := ⟨_, _, rfl, u3⟩
    have H4 : Hid (uS wr lo w.heap.size 5 m4 e4 (.slice b4 m4 o4)) := ⟨_, _, rfl, u4⟩
    obtain ⟨f1, f2, f3⟩ := strB_of g3 H3
    by_cases hlt : q < n1
    · have hqs : q < (strL cs1).length := by omega
      obtain ⟨pb, poff, hpa, hat⟩ := Hpath.out (by omega)
      have hcc := hat q hqs
      have hpl : pb < w.heap.size := World.block_lt_of_cell? _ _ hcc
      have c0 := (HB.out.cell (p := ⟨pb, poff + q, none⟩) hpl).trans hcc
      have hrd := reach_drop hqs (.p (.int .i64 y0) (.p (.string y1) (.p (.int .i64 y2) (.l 1 m3 e3 (.l 5 m4 e4 .nil)))))
      generalize (strL cs1)[q]'hqs = TX at *
      have hstep : stepU (.p (.int .i64 y0) (.p (.string y1) (.p (.int .i64 y2) (.l 1 m3 e3 (.l 5 m4 e4 .nil))))) TX = (kidI y0 (strL e3) m4 TX).map fun i => rowU e4 5 i := rfl
      have HK : Hid (∀ wx, Below wr.heap.size wr wx → Calls Try.prog 64 #[.agg #[.int .i64 y0, .string y1, .int .i64 y2, .slice b3 m3 o3, .slice b4 m4 o4], .string TX] wx fun e w' => ∃ i : Nat, i ≤ 1000000000 ∧ e = .returned (.tuple #[.int .i64 i, .bool (kidI y0 (strL e3) m4 TX).isSome]) ∧ Hid (∀ j, kidI y0 (strL e3) m4 TX = some j → j = i) ∧ Hid (Below wx.heap.size wx w')) := fun wx hbx => by
        have := kidPlace_any y0 y1 y2 (strL e3) b3 b4 o3 o4 m4 TX wx hb5 (by omega) hm4 (f1.of.below hbx)
        rw [f3] at this
        exact this
      have HLT : Hid (∀ j, kidI y0 (strL e3) m4 TX = some j → j < m4) := fun j hj => kidI_lt hb5 hj
      subst hpa
      have Hrd := uhide (hrd.trans (by rw [hstep]))
      have Hrow := uhide hrow
      have G4 := uhide g4
      have oa0 := OA.out.cell 0 _ rfl
      have oa1 := OA.out.cell 1 _ rfl
      have oa2 := OA.out.cell 2 _ rfl
      have oa3 := OA.out.cell 3 _ rfl
      have oa4 := OA.out.cell 4 _ rfl
      clear hat hcc hrd hstep hb5 f1 f2 f3 H3 u3 u4 hrow g3 g4
      go_wp2_with fail
      refine (HK.out _ (by repeat (first | with_reducible exact Below.refl _ _))).mono ?_
      rintro e w2 ⟨i, hi, rfl, Hi, hb2⟩
      simp only
      have OA2 := uhide (OA.out.below hb2.out)
      have OR2 := uhide (OR.out.below hb2.out)
      have HX2 := uhide (HX.out.below hb2.out)
      have H42 := uhide (H4.out.below hb2.out)
      have HB2 : Hid (Below w.heap.size w w2) := HB.out.trans (hb2.out.mono HB.out.size)
      clear OA OR HX H4 HB hb2 oa0 oa1 oa2 oa3 oa4 c0
      cases hk : kidI y0 (strL e3) m4 TX with
      | none =>
        rw [hk] at Hrd
        have hfin : reachU (strL cs1) d = none := by rw [← Hrc.out]; exact Hrd.out
        have hR3 := HR2.out
        rw [hfin] at hR3
        obtain ⟨rfl, rfl⟩ := Prod.mk.inj (show (dR, bR) = (zU, false) from hR3)
        have r0 := OR2.out.cell 0 _ rfl
        have r1 := OR2.out.cell 1 _ rfl
        have r2 := OR2.out.cell 2 _ rfl
        have r3 := OR2.out.cell 3 _ rfl
        have r4 := OR2.out.cell 4 _ rfl
        have k0 := OR2.out.fz 0
        have k1 := OR2.out.fz 1
        have k2 := OR2.out.fz 2
        have k3 := OR2.out.fz 3
        have k4 := OR2.out.fz 4
        clear hR3 hfin HR2 Hrd Hrc hk
        go_wp2
        refine bodyPost_ret (v := .tuple #[.agg #[.int .i64 0, .string ⟨#[]⟩, .int .i64 0, .slice none 0 0, .slice none 0 0], .bool false]) ?_ rfl ⟨[.int .i64 0, .string ⟨#[]⟩, .int .i64 0, .slice none 0 0, .slice none 0 0], [], rfl, ?_, own2.nil _ _, ?_⟩
        · simp [results, Try.results20, go_sem, r0, r1, r2, r3, r4]
        · exact oH.consP _ (oH.consP _ (oH.consP _ (oH.consS (S1 := []) ⟨by decide, 9, [], [], World.ownsRow_nil _ _ _ _, ⟨rfl, rfl⟩, rfl⟩ (oH.consS (S1 := []) ⟨by decide, 9, [], [], World.ownsRow_nil _ _ _ _, ⟨rfl, rfl⟩, rfl⟩ (oH.nil _)))))
        · repeat (first | with_reducible exact HB2.out | with_reducible refine Below.setCell ?_ (by simp <;> omega) _)
      | some j =>
        have hji := Hi.out j hk
        subst hji
        have hjm := HLT.out j hk
        rw [hk] at Hrd
        have Hrc2 : Hid (reachU ((strL cs1).drop (q + 1)) (rowU e4 5 j) = reachU (strL cs1) d) := by show _ = _; rw [← Hrc.out]; exact Hrd.out.symm
        obtain ⟨kb, koff, rfl, hkl, hm⟩ := H42.out.cells (by omega)
        obtain ⟨xs, hh, hcl⟩ := (hm.row 5 j).hand
        have HH := uhide hh
        obtain ⟨x0, x1, x2, l3, f3, l4, f4, hR5, -, -, -, -, -⟩ := partsValue (G4.out.row hjm)
        rw [hR5] at hh
        obtain ⟨_, rfl, ⟨_, rfl, ⟨_, rfl, ⟨v3, _, rfl, s3, ⟨v4, _, rfl, s4, rfl⟩⟩⟩⟩⟩ := hh
        obtain ⟨a3k, p3k, rfl, -⟩ := s3
        obtain ⟨a4k, p4k, rfl, -⟩ := s4
        have c0 : w2.cell? ⟨kb, koff + j * 5, none⟩ = some (.int .i64 x0) := hcl 0 _ rfl
        have c1 : w2.cell? ⟨kb, koff + j * 5 + 1, none⟩ = some (.string x1) := hcl 1 _ rfl
        have c2 : w2.cell? ⟨kb, koff + j * 5 + 2, none⟩ = some (.int .i64 x2) := hcl 2 _ rfl
        have c3 : w2.cell? ⟨kb, koff + j * 5 + 3, none⟩ = some (.slice a3k l3 p3k) := hcl 3 _ rfl
        have c4 : w2.cell? ⟨kb, koff + j * 5 + 4, none⟩ = some (.slice a4k l4 p4k) := hcl 4 _ rfl
        have oa0 := OA2.out.cell 0 _ rfl
        have oa1 := OA2.out.cell 1 _ rfl
        have oa2 := OA2.out.cell 2 _ rfl
        have oa3 := OA2.out.cell 3 _ rfl
        have oa4 := OA2.out.cell 4 _ rfl
        have k0 := OA2.out.fz 0
        have k1 := OA2.out.fz 1
        have k2 := OA2.out.fz 2
        have k3 := OA2.out.fz 3
        have k4 := OA2.out.fz 4
        have hw1 : w.heap.size + 1 < w2.heap.size := OR2.out.lt
        have HOA : Hid (objU (((((w2.setCell ⟨w.heap.size, 0, none⟩ (.int .i64 x0)).setCell ⟨w.heap.size, 1, none⟩ (.string x1)).setCell ⟨w.heap.size, 2, none⟩ (.int .i64 x2)).setCell ⟨w.heap.size, 3, none⟩ (.slice a3k l3 p3k)).setCell ⟨w.heap.size, 4, none⟩ (.slice a4k l4 p4k)) w.heap.size 36 [.int .i64 x0, .string x1, .int .i64 x2, .slice a3k l3 p3k, .slice a4k l4 p4k]) :=
          ((((OA2.out.set 0 _).set 1 _).set 2 _).set 3 _).set 4 _
        have HOR : Hid (objU (((((w2.setCell ⟨w.heap.size, 0, none⟩ (.int .i64 x0)).setCell ⟨w.heap.size, 1, none⟩ (.string x1)).setCell ⟨w.heap.size, 2, none⟩ (.int .i64 x2)).setCell ⟨w.heap.size, 3, none⟩ (.slice a3k l3 p3k)).setCell ⟨w.heap.size, 4, none⟩ (.slice a4k l4 p4k)) (w.heap.size + 1) 36 [.int .i64 0, .string ⟨#[]⟩, .int .i64 0, .slice none 0 0, .slice none 0 0]) :=
          ((((OR2.out.other _ (by simp) _).other _ (by simp) _).other _ (by simp) _).other _ (by simp) _).other _ (by simp) _
        have HO : OutR w.heap.size (w.heap.size + 1) w2 (((((w2.setCell ⟨w.heap.size, 0, none⟩ (.int .i64 x0)).setCell ⟨w.heap.size, 1, none⟩ (.string x1)).setCell ⟨w.heap.size, 2, none⟩ (.int .i64 x2)).setCell ⟨w.heap.size, 3, none⟩ (.slice a3k l3 p3k)).setCell ⟨w.heap.size, 4, none⟩ (.slice a4k l4 p4k)) :=
          (((((((OutS.refl [w.heap.size] w2).setCell (p := ⟨w.heap.size, 0, none⟩) (by simp) _).setCell (p := ⟨w.heap.size, 1, none⟩) (by simp) _).setCell (p := ⟨w.heap.size, 2, none⟩) (by simp) _).setCell (p := ⟨w.heap.size, 3, none⟩) (by simp) _).setCell (p := ⟨w.heap.size, 4, none⟩) (by simp) _)).out (fun t ht => by simp at ht; omega)
        have HXX := uhide (HH.out.out HO (Or.inl (Nat.le_refl _)))
        have HBB := uhide (HB2.out.trans (HO.below (Nat.le_refl _) (by omega)))
        have HWW := uhide (Hrow.out j hjm)
        clear hR5 hcl hm HH Hrd HO HB2 OA2 OR2 HX2 H42 hw1 hk Hi HLT
        go_wp2
        go_roundw
        case rel => exact ⟨q + 1, _, _, by omega, by go_num, Hrc2, HWW, HOA, HXX, HOR, HBB⟩
        case measure => simp [intOf]; omega
    · have eq : q = n1 := by omega
      subst eq
      have hfin : reachU (strL cs1) d = some (.p (.int .i64 y0) (.p (.string y1) (.p (.int .i64 y2) (.l 1 m3 e3 (.l 5 m4 e4 .nil))))) := by rw [← Hrc.out, ← q3, List.drop_length]; rfl
      have hR3 := HR2.out
      rw [hfin] at hR3
      obtain ⟨rfl, rfl⟩ := Prod.mk.inj (show (dR, bR) = (_, true) from hR3)
      have HC : Hid (∀ wx, Below wr.heap.size wr wx → Calls Try.prog 65 #[.agg #[.int .i64 y0, .string y1, .int .i64 y2, .slice b3 m3 o3, .slice b4 m4 o4]] wx fun e w' => ∃ a3n p3n a4n p4n S, e = .returned (.agg #[.int .i64 y0, .string y1, .int .i64 y2, .slice a3n m3 p3n, .slice a4n m4 p4n]) ∧ Hid (oH w' (.p (.int .i64 y0) (.p (.string y1) (.p (.int .i64 y2) (.l 1 m3 e3 (.l 5 m4 e4 .nil))))) [.int .i64 y0, .string y1, .int .i64 y2, .slice a3n m3 p3n, .slice a4n m4 p4n] S) ∧ Hid (own2 S wx.heap.size w'.heap.size) ∧ Hid (Below wx.heap.size wx w')) := fun wx hbx =>
        (copyOfRight_N _ _ _ lo w.heap.size wx (Nat.lt_succ_self _) HW.out.1 HW.out.2.1 (HX.out.below hbx)).mono fun e w' ⟨ys, S, h1, h2, h3, h4⟩ => by
          have h2' := h2
          obtain ⟨_, rfl, ⟨_, rfl, ⟨_, rfl, ⟨v3, _, _, _, rfl, _, _, ⟨_, _, o3, _⟩, ⟨v4, _, _, _, rfl, _, _, ⟨_, _, o4, _⟩, ⟨rfl, _⟩⟩⟩⟩⟩⟩ := h2'
          obtain ⟨a3, p3, rfl⟩ := uowns_slice o3
          obtain ⟨a4, p4, rfl⟩ := uowns_slice o4
          exact ⟨_, _, _, _, S, h1, h2, h3, h4⟩
      have oa0 := OA.out.cell 0 _ rfl
      have oa1 := OA.out.cell 1 _ rfl
      have oa2 := OA.out.cell 2 _ rfl
      have oa3 := OA.out.cell 3 _ rfl
      have oa4 := OA.out.cell 4 _ rfl
      clear hR3 hfin HR2 Hrc HW HX H3 H4 f1 f2 f3 u3 u4 g3 g4 hb5 hrow Hpath Hpz
      go_wp2_with fail
      refine (HC.out _ (by repeat (first | with_reducible exact Below.refl _ _))).mono ?_
      rintro e w2 ⟨a3n, p3n, a4n, p4n, S, rfl, HO, HS, hb2⟩
      have OR2 := uhide (OR.out.below hb2.out)
      have HB2 : Hid (Below w.heap.size w w2) := HB.out.trans (hb2.out.mono HB.out.size)
      have HZ : Hid (w.heap.size + 1 < wr.heap.size ∧ wr.heap.size ≤ w2.heap.size) := ⟨OR.out.lt, hb2.out.size⟩
      have r0 := OR2.out.cell 0 _ rfl
      have r1 := OR2.out.cell 1 _ rfl
      have r2 := OR2.out.cell 2 _ rfl
      have r3 := OR2.out.cell 3 _ rfl
      have r4 := OR2.out.cell 4 _ rfl
      have k0 := OR2.out.fz 0
      have k1 := OR2.out.fz 1
      have k2 := OR2.out.fz 2
      have k3 := OR2.out.fz 3
      have k4 := OR2.out.fz 4
      clear OA OR HB hb2 HC oa0 oa1 oa2 oa3 oa4
      go_wp2
      refine bodyPost_ret (v := .tuple #[.agg #[.int .i64 y0, .string y1, .int .i64 y2, .slice a3n m3 p3n, .slice a4n m4 p4n], .bool true]) ?_ rfl ⟨[.int .i64 y0, .string y1, .int .i64 y2, .slice a3n m3 p3n, .slice a4n m4 p4n], S, rfl, ?_, ?_, ?_⟩
      · simp [results, Try.results20, go_sem, r0, r1, r2, r3, r4]
      · exact HO.out.outs (T := [w.heap.size + 1]) (by repeat (first | with_reducible exact OutS.refl _ _ | with_reducible refine OutS.setCell ?_ (show _ ∈ [w.heap.size + 1] by simp) _)) HS.out (fun x hx => by have := HZ.out; simp at hx; omega)
      · exact HS.out.mono (by have := HZ.out; omega) (by simp)
      · repeat (first | with_reducible exact HB2.out | with_reducible refine Below.setCell ?_ (by simp <;> omega) _)
end Go.Proofs.Ytbadjopaocindaa
