/- Queues: the program's done. -/
import Derived.Test.YtpmhmcekkppbhaaQfZ
import Derived.Test.YtpmhmcekkppbhaaQfY
namespace Go.Proofs.Ytpmhmcekkppbhaa
open Go.RowKit Go.BigFrame
set_option linter.unusedVariables false

/-- the queue without the k-th of Doing, and s not among Again -/
def outD (Q : Qu) (k : Nat) (s : ByteArray) : Qu := { Q with D := dropAt Q.D k, A := Q.A.filter (fun t => decide (t ≠ s)) }
theorem doneC_at {Q : Qu} {s : ByteArray} (well : Bool) (h : fndI Q.D s < Q.D.length) {F : Nat} (hF : min ((Q.D[fndI Q.D s]'h).2.2 + 1) 1000 = (F : Int)) : doneC Q s well = (if well = true then (if inA Q.A s = true then addQ (outD Q (fndI Q.D s) s) (s, Q.now, 0) else outD Q (fndI Q.D s) s) else addQ (outD Q (fndI Q.D s) s) (s, Q.now + (dlyN F : Nat), (F : Int)), true) := by
  unfold doneC
  rw [dif_pos h]
  simp only [hF, Int.toNat_natCast]
  rfl
theorem doneC_no {Q : Qu} {s : ByteArray} (well : Bool) (h : ¬ fndI Q.D s < Q.D.length) : doneC Q s well = (Q, false) := dif_neg h
def FD8 (w0 : World) (b base : Nat) (R : Qu) (s : ByteArray) (now : Int) (F d : Nat) (vD vA : Value) : Nat → (Nat → Nat) → Value → World → Prop
  | 0, γ, v, w => v = .pointer (some ⟨b, 0, none⟩)
  | 1, γ, v, w => v = .string s
  | 2, γ, v, w => v = .pointer (some ⟨b, 0, none⟩)
  | 3, γ, v, w => v = .pointer (some ⟨b, 0, none⟩)
  | 4, γ, v, w => v = .pointer (some ⟨b, 3, none⟩)
  | 5, γ, v, w => v = .int .i64 now
  | 6, γ, v, w => v = .int .i64 F
  | 7, γ, v, w => v = .int .i64 d
  | 8, γ, v, w => v = .int .i64 (now + d)
  | 9, γ, v, w => v = .int .i64 F
  | 10, γ, v, w => v = .agg #[.string s, .int .i64 (now + d), .int .i64 F]
  | 11, γ, v, w => ∃ vI, QB w b base (addQ R (s, now + d, (F : Int))) vI vD vA ∧ Below base w0 w
  | _, _, _, _ => False
set_option maxRecDepth 20000 in
set_option maxHeartbeats 1600000 in
theorem done_any (Q : Qu) (s : ByteArray) (well : Bool) (b base : Nat) (vI vD vA : Value) (w : World) (hq : okQ Q) (hp : qOkP Q) (h : QB w b base Q vI vD vA) (hbase : base ≤ b) :
    Calls Try.prog 98 #[.pointer (some ⟨b, 0, none⟩), .string s, .bool well] w fun e w' => ∃ vI' vD' vA', e = .returned (.bool (doneC Q s well).2) ∧ QB w' b base (doneC Q s well).1 vI' vD' vA' ∧ Below base w w' := by
  obtain ⟨aI, pI, aD, pD, aA, pA, rfl, rfl, rfl⟩ := h.xs
  obtain ⟨p1, p2, p3, p4, p5, p6, p7, p8⟩ := hp
  have l1 := hq.1.1
  have l2 := hq.2.1.1
  have l3 := hq.2.2.1.1
  have HOI := hide hq.1
  have H := hide h
  have hbl := h.lt
  have HIX := hide (itemPlace_any Q.D s (.slice aD Q.D.length pD) w (by omega) (h.q.d.rd (by decide)))
  have x1 := h.o.cell 1 _ rfl
  have HND := hide p7
  clear h hq p6 p7 p8
  go_enter Try.func98, Try.ntmps98
  by_cases hR : fndI Q.D s < Q.D.length
  · have hpl : plcI Q.D s = (fndI Q.D s : Int) := if_pos hR
    rw [hpl] at HIX
    have hfl := (p4 _ (List.mem_append_right _ (List.getElem_mem hR))).2.2
    obtain ⟨F, hF⟩ : ∃ F : Nat, min ((Q.D[fndI Q.D s]'hR).2.2 + 1) 1000 = (F : Int) := ⟨(min ((Q.D[fndI Q.D s]'hR).2.2 + 1) 1000).toNat, by omega⟩
    have hF1 : 1 ≤ F := by omega
    have hF2 : F ≤ 1000 := by omega
    have HDC := hide (doneC_at well hR hF)
    clear hpl p4 p5
    generalize fndI Q.D s = k at *
    have hk0 : (0 : Int) ≤ (k : Int) := Int.natCast_nonneg _
    have hki : (k : Int) < (Q.D.length : Int) := by omega
    have hr : Hid ((Q.D.map encI)[k]? = some (encI Q.D[k])) := by show _ = _; rw [List.getElem?_map, List.getElem?_eq_getElem hR]; rfl
    go_wp2_with fail
    refine HIX.out.mono ?_
    rintro e w1 ⟨rfl, hb1⟩
    have H1 := hide (H.out.below hb1)
    have B1 : Hid (Below base w w1) := hb1.mono (by omega)
    have x1' := H1.out.o.cell 1 _ rfl
    have f1' := H1.out.o.fz 1
    obtain ⟨g, pD', eD, hbg, hgl, hcp, -, hcell, hfz⟩ := H1.out.q.d.opened (by rw [List.length_map]; omega)
    rw [List.length_map] at eD hcp
    cases eD
    have k2 : w1.cell? ⟨g, k * 3 + 2, none⟩ = some (.int .i64 (Q.D[k]).2.2) := hcell k _ 2 _ hr.out rfl
    have HDL := hide (delI_any (Q.D.map encI) k (k + 1) base (.slice (some ⟨g, 0, none⟩) Q.D.length pD) w1 H1.out.q.d (oneI _) (by omega) (by rw [List.length_map]; omega) (by rw [List.length_map]; omega))
    have hw1 : IntKind.i64.wrap ((k : Int) + 1) = (k : Int) + 1 := uwrap64 _ (by omega) (by omega)
    have hw2 : IntKind.i64.wrap ((Q.D[k]).2.2 + 1) = (Q.D[k]).2.2 + 1 := uwrap64 _ (by omega) (by omega)
    clear hb1 x1 hcell hfz hr HIX
    generalize (Q.D[k]).2.2 = fl at *
    go_wp2_with fail
    refine HDL.out.mono ?_
    rintro e w2 ⟨v', rfl, hv, hvb, hO⟩
    have hv2 : ownR w2 base 75 3 v' ((dropAt Q.D k).map encI) := by unfold dropAt; rw [List.map_append, List.map_take, List.map_drop]; exact hv
    have HQ2 := hide (H1.out.repD hv2 hO hvb)
    have HB2 : Hid (Below base w (w2.setCell ⟨b, 1, none⟩ v')) := B1.out.trans ((hO.below (fun t ht => (H1.out.q.d.lt t ht).1) (by have := B1.out.size; omega)).setCell (p := ⟨b, 1, none⟩) hbase _)
    have hob := H1.out.o.outS hO H1.out.nd
    have y1 := hob.cell 1 _ rfl
    have f1 := hob.fz 1
    obtain ⟨a3, p3', e3⟩ := hv2.itS
    obtain ⟨n3, rfl⟩ : ∃ n, v' = .slice a3 n p3' := ⟨_, e3⟩
    have HFG := hide (forget_any { Q with D := dropAt Q.D k } s b base _ _ _ _ (by show Q.A.length ≤ _; omega) HND.out HQ2.out hbase)
    clear hv hvb hO hv2 HDL e3 hob x1' f1' k2 H1 B1 H
    go_wp2_with fail
    refine HFG.out.mono ?_
    rintro e w3 ⟨vA3, rfl, hq3, hb3⟩
    have HQ3 : Hid (QB w3 b base (outD Q k s) (.slice aI Q.I.length pI) (.slice a3 n3 p3') vA3) := hq3
    have B3 : Hid (Below base w w3) := HB2.out.trans hb3
    clear hq3 hb3 HFG HQ2 HB2 y1 f1
    have hIR : (outD Q k s).I = Q.I := rfl
    have hNR : (outD Q k s).now = Q.now := rfl
    have HOR : Hid (okIs (outD Q k s).I) := HOI.out
    have HNR := hide hNR
    clear hIR hNR
    generalize outD Q k s = R at *
    generalize inA Q.A s = ia at *
    cases well with
    | true =>
      cases ia with
      | true =>
        have HR : Hid (doneC Q s true = (addQ R (s, Q.now, 0), true)) := HDC.out
        have y3 := HQ3.out.o.cell 3 _ rfl
        rw [HNR.out] at y3
        have HAD := hide (add_any R (s, Q.now, 0) b base _ _ _ w3 HOR.out HQ3.out hbase)
        clear HDC
        go_wp2_with fail
        refine HAD.out.mono ?_
        rintro e w4 ⟨vI4, rfl, hq4, hb4⟩
        have HQ4 := hide hq4
        have B4 : Hid (Below base w w4) := B3.out.trans hb4
        clear hq4 hb4 HAD y3
        go_wp2
        go_ret
        exact ⟨_, _, _, ret_bool (congrArg Prod.snd HR.out).symm, by rw [HR.out]; exact HQ4.out, B4.out⟩
      | false =>
        have HR : Hid (doneC Q s true = (R, true)) := HDC.out
        clear HDC
        go_wp2
        go_ret
        exact ⟨_, _, _, ret_bool (congrArg Prod.snd HR.out).symm, by rw [HR.out]; exact HQ3.out, B3.out⟩
    | false =>
      have HR : Hid (doneC Q s false = (addQ R (s, Q.now + (dlyN F : Nat), (F : Int)), true)) := HDC.out
      clear HDC
      have hdl : dlyN F ≤ 64 := Nat.min_le_right _ _
      have HDY := hide (fun wx => idelay_any F wx hF1 hF2)
      have HAD := hide (fun wx (hx : QB wx b base R _ _ _) => add_any R (s, Q.now + (dlyN F : Nat), (F : Int)) b base (.slice aI Q.I.length pI) (.slice a3 n3 p3') vA3 wx HOR.out hx hbase)
      go_wp2
      have HG0 : Hid (QB w3.drew b base R (.slice aI Q.I.length pI) (.slice a3 n3 p3') vA3) := HQ3.out.below (Below.drew (Below.refl _ _))
      have hnow : (0 : Int) ≤ Q.now ∧ Q.now ≤ 1000000 := p3
      have hwd : IntKind.i64.wrap (Q.now + (dlyN F : Nat)) = Q.now + (dlyN F : Nat) := uwrap64 _ (by omega) (by omega)
      generalize dlyN F = d at *
      refine wp_region_inv2 (fun i => if i = 11 then (fun _ _ => True) else Eq) (fun _ => none) 11 (by decide)
        (fun c wn => c = false → QB wn b base R (.slice aI Q.I.length pI) (.slice a3 n3 p3') vA3 ∧ Below base w3 wn) (FD8 w3 b base R s Q.now F d (.slice a3 n3 p3') vA3) (by kernel_rfl) (by kernel_rfl) (by kernel_rfl) ?hF ?hU ?hG ?hstep ?hend
      case hF =>
        intro i j γ γ' v wa wb hij hsp hnd hsd h hfr
        have ho := hfr.out
        match j, h with
        | 0, h => exact h
        | 1, h => exact h
        | 2, h => exact h
        | 3, h => exact h
        | 4, h => exact h
        | 5, h => exact h
        | 6, h => exact h
        | 7, h => exact h
        | 8, h => exact h
        | 9, h => exact h
        | 10, h => exact h
        | 11, h =>
          rw [if_neg hij] at ho
          exact ho ▸ h
        | j + 12, h => exact h.elim
      case hU =>
        intro i o hi hd γ v wa h
        match i, hi with
        | 0, hi => (injection hi with hi; subst hi; cases hd)
        | 1, hi => (injection hi with hi; subst hi; cases hd)
        | 2, hi => (injection hi with hi; subst hi; cases hd)
        | 3, hi => (injection hi with hi; subst hi; cases hd)
        | 4, hi => (injection hi with hi; subst hi; cases hd)
        | 5, hi => (injection hi with hi; subst hi; cases hd)
        | 6, hi => (injection hi with hi; subst hi; cases hd)
        | 7, hi => (injection hi with hi; subst hi; cases hd)
        | 8, hi => (injection hi with hi; subst hi; cases hd)
        | 9, hi => (injection hi with hi; subst hi; cases hd)
        | 10, hi => (injection hi with hi; subst hi; cases hd)
        | 11, hi => (cases hi; cases hd)
        | i + 12, hi => cases hi
      case hG => exact fun _ => ⟨HG0.out, Below.drew (Below.refl _ _)⟩
      case hstep =>
        intro i o hi
        match i, hi with
        | 0, hi =>
          injection hi with hi; subst hi
          intro c a wn γ hc0 hc1 hG hK hD K hk
          have e1 := hK.at 0 (by kernel_rfl)
          refine wp_pure (.pointer (some ⟨b, 0, none⟩)) ?_ (hk _ _ γ (by rw [if_neg (by decide)]; exact hG) (Fr.same (by exact (Eq.refl wn))) rfl)
          simp [execOp, Act.eval, e1, go_sem]
        | 1, hi =>
          injection hi with hi; subst hi
          intro c a wn γ hc0 hc1 hG hK hD K hk
          have e1 := hK.at 1 (by kernel_rfl)
          refine wp_pure (.string s) ?_ (hk _ _ γ (by rw [if_neg (by decide)]; exact hG) (Fr.same (by exact (Eq.refl wn))) rfl)
          simp [execOp, Act.eval, e1, go_sem]
        | 2, hi =>
          injection hi with hi; subst hi
          intro c a wn γ hc0 hc1 hG hK hD K hk
          have e1 := hK.at 0 (by kernel_rfl)
          refine wp_pure (.pointer (some ⟨b, 0, none⟩)) ?_ (hk _ _ γ (by rw [if_neg (by decide)]; exact hG) (Fr.same (by exact (Eq.refl wn))) rfl)
          simp [execOp, Act.eval, e1, go_sem]
        | 3, hi =>
          injection hi with hi; subst hi
          intro c a wn γ hc0 hc1 hG hK hD K hk
          have d0 := hD 0 (by decide) (by kernel_rfl) (.inl rfl)
          change a.tmps.getD 46 undef = .pointer (some ⟨b, 0, none⟩) at d0
          refine wp_pure (.pointer (some ⟨b, 0, none⟩)) ?_ (hk _ _ γ (by rw [if_neg (by decide)]; exact hG) (Fr.same (by exact (Eq.refl wn))) rfl)
          simp [execOp, Act.eval, d0, go_sem]
        | 4, hi =>
          injection hi with hi; subst hi
          intro c a wn γ hc0 hc1 hG hK hD K hk
          have d0 := hD 0 (by decide) (by kernel_rfl) (.inl rfl)
          change a.tmps.getD 47 undef = .pointer (some ⟨b, 0, none⟩) at d0
          refine wp_pure (.pointer (some ⟨b, 3, none⟩)) ?_ (hk _ _ γ (by rw [if_neg (by decide)]; exact hG) (Fr.same (by exact (Eq.refl wn))) rfl)
          simp [execOp, Act.eval, d0, go_sem]
        | 5, hi =>
          injection hi with hi; subst hi
          intro c a wn γ hc0 hc1 hG hK hD K hk
          have d0 := hD 0 (by decide) (by kernel_rfl) (.inl rfl)
          change a.tmps.getD 48 undef = .pointer (some ⟨b, 3, none⟩) at d0
          have x3 := (hG (hc0 (.inl (by kernel_rfl)))).1.o.cell 3 _ rfl
          rw [HNR.out] at x3
          refine wp_pure (.int .i64 Q.now) ?_ (hk _ _ γ (by rw [if_neg (by decide)]; exact hG) (Fr.same (by exact (Eq.refl wn))) rfl)
          simp [execOp, Act.eval, d0, x3, go_sem]
        | 6, hi =>
          injection hi with hi; subst hi
          intro c a wn γ hc0 hc1 hG hK hD K hk
          have e1 := hK.at 8 (by kernel_rfl)
          refine wp_pure (.int .i64 F) ?_ (hk _ _ γ (by rw [if_neg (by decide)]; exact hG) (Fr.same (by exact (Eq.refl wn))) rfl)
          simp [execOp, Act.eval, e1, go_sem]
        | 7, hi =>
          injection hi with hi; subst hi
          intro c a wn γ hc0 hc1 hG hK hD K hk
          have d0 := hD 0 (by decide) (by kernel_rfl) (.inl rfl)
          change a.tmps.getD 50 undef = .int .i64 F at d0
          refine wp_call 140 #[.tmp 50] _ rfl (callFunc_enter Try.func140 (by kernel_rfl) (by kernel_rfl)) #[.int .i64 F] (by simp only [List.map_toArray, List.map_cons, List.map_nil]; show #[a.tmps.getD 50 undef] = _; rw [d0]) (HDY.out wn) ?_
          rintro e w' ⟨rfl, hw⟩
          obtain rfl : wn = w' := hw.symm
          exact ⟨_, rfl, hk _ _ γ (by rw [if_neg (by decide)]; exact hG) (Fr.same (by exact (Eq.refl wn))) rfl⟩
        | 8, hi =>
          injection hi with hi; subst hi
          intro c a wn γ hc0 hc1 hG hK hD K hk
          have d0 := hD 0 (by decide) (by kernel_rfl) (.inl rfl)
          change a.tmps.getD 49 undef = .int .i64 Q.now at d0
          have d1 := hD 1 (by decide) (by kernel_rfl) (.inl rfl)
          change a.tmps.getD 51 undef = .int .i64 d at d1
          refine wp_pure (.int .i64 (Q.now + (d : Nat))) ?_ (hk _ _ γ (by rw [if_neg (by decide)]; exact hG) (Fr.same (by exact (Eq.refl wn))) rfl)
          simp [execOp, Act.eval, d0, d1, hwd, go_sem]
        | 9, hi =>
          injection hi with hi; subst hi
          intro c a wn γ hc0 hc1 hG hK hD K hk
          have e1 := hK.at 8 (by kernel_rfl)
          refine wp_pure (.int .i64 F) ?_ (hk _ _ γ (by rw [if_neg (by decide)]; exact hG) (Fr.same (by exact (Eq.refl wn))) rfl)
          simp [execOp, Act.eval, e1, go_sem]
        | 10, hi =>
          injection hi with hi; subst hi
          intro c a wn γ hc0 hc1 hG hK hD K hk
          have d0 := hD 0 (by decide) (by kernel_rfl) (.inl rfl)
          change a.tmps.getD 45 undef = .string s at d0
          have d1 := hD 1 (by decide) (by kernel_rfl) (.inl rfl)
          change a.tmps.getD 52 undef = .int .i64 (Q.now + (d : Nat)) at d1
          have d2 := hD 2 (by decide) (by kernel_rfl) (.inl rfl)
          change a.tmps.getD 53 undef = .int .i64 F at d2
          rw [Array.getD_eq_getD_getElem?] at d0 d1 d2
          refine wp_pure (.agg #[.string s, .int .i64 (Q.now + (d : Nat)), .int .i64 F]) ?_ (hk _ _ γ (by rw [if_neg (by decide)]; exact hG) (Fr.same (by exact (Eq.refl wn))) rfl)
          simp [execOp, Act.eval, d0, d1, d2, go_sem]
        | 11, hi =>
          injection hi with hi; subst hi
          intro c a wn γ hc0 hc1 hG hK hD K hk
          have d0 := hD 0 (by decide) (by kernel_rfl) (.inl rfl)
          change a.tmps.getD 44 undef = .pointer (some ⟨b, 0, none⟩) at d0
          have d1 := hD 1 (by decide) (by kernel_rfl) (.inl rfl)
          change a.tmps.getD 54 undef = .agg #[.string s, .int .i64 (Q.now + (d : Nat)), .int .i64 F] at d1
          have hc := hc0 (.inr rfl)
          obtain ⟨hq1, hb1⟩ := hG hc
          refine wp_call 135 #[.tmp 44, .tmp 54] _ rfl (callFunc_enter Try.func135 (by kernel_rfl) (by kernel_rfl)) #[.pointer (some ⟨b, 0, none⟩), .agg #[.string s, .int .i64 (Q.now + (d : Nat)), .int .i64 F]] (by simp only [List.map_toArray, List.map_cons, List.map_nil]; show #[a.tmps.getD 44 undef, a.tmps.getD 54 undef] = _; rw [d0, d1]) (HAD.out wn hq1) ?_
          rintro e w' ⟨vI', rfl, hq', hb'⟩
          exact ⟨_, rfl, hk _ _ γ (by rw [if_pos rfl]; intro hh; cases hh) ⟨trivial, fun _ _ => rfl⟩ ⟨_, hq', hb1.trans hb'⟩⟩
        | i + 12, hi => cases hi
      case hend =>
        intro x w5 γ hG hx
        obtain ⟨vI5, hQ5, hB5⟩ := hx 11 (by decide) rfl
        have HQ5 := hide hQ5
        have B5 : Hid (Below base w w5) := B3.out.trans hB5
        simp only [putAll, Act.put, List.setIfInBounds_toArray, List.set_cons_zero, List.set_cons_succ, Nat.zero_add, Nat.reduceAdd]
        clear hG hx hQ5 hB5 HAD HDY HG0
        go_wp2
        go_ret
        exact ⟨_, _, _, ret_bool (congrArg Prod.snd HR.out).symm, by rw [HR.out]; exact HQ5.out, B5.out⟩
  · have hpl : plcI Q.D s = -1 := if_neg hR
    rw [hpl] at HIX
    have HR := hide (doneC_no well hR)
    clear hpl p4 p5
    go_wp2_with fail
    refine HIX.out.mono ?_
    rintro e w1 ⟨rfl, hb1⟩
    have H1 := hide (H.out.below hb1)
    have B1 : Hid (Below base w w1) := hb1.mono (by omega)
    clear hb1 x1
    go_wp2
    go_ret
    exact ⟨_, _, _, ret_bool (congrArg Prod.snd HR.out).symm, by rw [HR.out]; exact H1.out, B1.out⟩
end Go.Proofs.Ytpmhmcekkppbhaa
