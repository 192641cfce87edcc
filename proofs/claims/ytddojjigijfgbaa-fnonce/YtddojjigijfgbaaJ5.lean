/- Texts of one claim, joined: each in its own section, in build order. -/
import Derived.Test.YtddojjigijfgbaaJ4
import Derived.Test.YtddojjigijfgbaaJ3
/- Queues: the program's done. -/
namespace Go.Proofs.Ytddojjigijfgbaa
open Go.RowKit Go.BigFrame
set_option linter.unusedVariables false

/-- the queue without the k-th of Doing, and s not among Again -/
def outD (Q : Qu) (k : Nat) (s : ByteArray) : Qu := { Q with D := dropAt Q.D k, A := Q.A.filter (fun t => decide (t ≠ s)) }
theorem doneC_at {Q : Qu} {s : ByteArray} (well : Bool) (h : fndI Q.D s < Q.D.length) {F : Nat} (hF : min ((Q.D[fndI Q.D s]'h).2.2 + 1) 1000 = (F : Int)) : doneC Q s well = (if well = true then (if inA Q.A s = true then addQ (outD Q (fndI Q.D s) s) (s, Q.now, 0) else outD Q (fndI Q.D s) s) else addQ (outD Q (fndI Q.D s) s) (s, Q.now + (dlyN F : Nat), (F : Int)), true) := by
  unfold doneC
  rw [dif_pos h]
  simp only [hF, Int.toNat_natCast]
  rfl
theorem doneC_no {Q : Qu} {s : ByteArray} (well : Bool) (h : ¬ fndI Q.D s < Q.D.length) : doneC Q s well = (Q, false) := dif_neg h
def FD8 (w0 : World) (b base : Nat) (R : Qu) (s : ByteArray) (now : Int) (F d : Nat) (vD vA : Value) : Nat → (Nat → Nat) → Value → World → Prop
  | 0, γ, v, w => v = .pointer (some ⟨b, 0, none⟩)
  | 1, γ, v, w => v = .string s
  | 2, γ, v, w => v = .pointer (some ⟨b, 0, none⟩)
  | 3, γ, v, w => v = .pointer (some ⟨b, 0, none⟩)
  | 4, γ, v, w => v = .pointer (some ⟨b, 3, none⟩)
  | 5, γ, v, w => v = .int .i64 now
  | 6, γ, v, w => v = .int .i64 F
  | 7, γ, v, w => v = .int .i64 d
  | 8, γ, v, w => v = .int .i64 (now + d)
  | 9, γ, v, w => v = .int .i64 F
  | 10, γ, v, w => v = .agg #[.string s, .int .i64 (now + d), .int .i64 F]
  | 11, γ, v, w => ∃ vI, QB w b base (addQ R (s, now + d, (F : Int))) vI vD vA ∧ Below base w0 w
  | _, _, _, _ => False
set_option maxRecDepth 20000 in
set_option maxHeartbeats 1600000 in
theorem done_any (Q : Qu) (s : ByteArray) (well : Bool) (b base : Nat) (vI vD vA : Value) (w : World) (hq : okQ Q) (hp : qOkP Q) (h : QB w b base Q vI vD vA) (hbase : base ≤ b) :
    Calls Try.prog 29 #[.pointer (some ⟨b, 0, none⟩), .string s, .bool well] w fun e w' => ∃ vI' vD' vA', e = .returned (.bool (doneC Q s well).2) ∧ QB w' b base (doneC Q s well).1 vI' vD' vA' ∧ Below base w w' := by
  obtain ⟨aI, pI, aD, pD, aA, pA, rfl, rfl, rfl⟩ := h.xs
  obtain ⟨p1, p2, p3, p4, p5, p6, p7, p8⟩ := hp
  have l1 := hq.1.1
  have l2 := hq.2.1.1
  have l3 := hq.2.2.1.1
  have HOI := hide hq.1
  have H := hide h
  have hbl := h.lt
  have HIX := hide (itemPlace_any Q.D s (.slice aD Q.D.length pD) w (by omega) (h.q.d.rd (by decide)))
  have x1 := h.o.cell 1 _ rfl
  have HND := hide p7
  clear h hq p6 p7 p8
  go_enter Try.func29, Try.ntmps29
  by_cases hR : fndI Q.D s < Q.D.length
  · have hpl : plcI Q.D s = (fndI Q.D s : Int) := if_pos hR
    rw [hpl] at HIX
    have hfl := (p4 _ (List.mem_append_right _ (List.getElem_mem hR))).2.2
    obtain ⟨F, hF⟩ : ∃ F : Nat, min ((Q.D[fndI Q.D s]'hR).2.2 + 1) 1000 = (F : Int) := ⟨(min ((Q.D[fndI Q.D s]'hR).2.2 + 1) 1000).toNat, by omega⟩
    have hF1 : 1 ≤ F := by omega
    have hF2 : F ≤ 1000 := by omega
    have HDC := hide (doneC_at well hR hF)
    clear hpl p4 p5
    generalize fndI Q.D s = k at *
    have hk0 : (0 : Int) ≤ (k : Int) := Int.natCast_nonneg _
    have hki : (k : Int) < (Q.D.length : Int) := by omega
    have hr : Hid ((Q.D.map encI)[k]? = some (encI Q.D[k])) := by show _ = _; rw [List.getElem?_map, List.getElem?_eq_getElem hR]; rfl
    go_wp2_with fail
    refine HIX.out.mono ?_
    rintro e w1 ⟨rfl, hb1⟩
    have H1 := hide (H.out.below hb1)
    have B1 : Hid (Below base w w1) := hb1.mono (by omega)
    have x1' := H1.out.o.cell 1 _ rfl
    have f1' := H1.out.o.fz 1
    obtain ⟨g, pD', eD, hbg, hgl, hcp, -, hcell, hfz⟩ := H1.out.q.d.opened (by rw [List.length_map]; omega)
    rw [List.length_map] at eD hcp
    cases eD
    have k2 : w1.cell? ⟨g, k * 3 + 2, none⟩ = some (.int .i64 (Q.D[k]).2.2) := hcell k _ 2 _ hr.out rfl
    have HDL := hide (delI_any (Q.D.map encI) k (k + 1) base (.slice (some ⟨g, 0, none⟩) Q.D.length pD) w1 H1.out.q.d (oneI _) (by omega) (by rw [List.length_map]; omega) (by rw [List.length_map]; omega))
    have hw1 : IntKind.i64.wrap ((k : Int) + 1) = (k : Int) + 1 := uwrap64 _ (by omega) (by omega)
    have hw2 : IntKind.i64.wrap ((Q.D[k]).2.2 + 1) = (Q.D[k]).2.2 + 1 := uwrap64 _ (by omega) (by omega)
    clear hb1 x1 hcell hfz hr HIX
    generalize (Q.D[k]).2.2 = fl at *
    go_wp2_with fail
    refine HDL.out.mono ?_
    rintro e w2 ⟨v', rfl, hv, hvb, hO⟩
    have hv2 : ownR w2 base 36 3 v' ((dropAt Q.D k).map encI) := by unfold dropAt; rw [List.map_append, List.map_take, List.map_drop]; exact hv
    have HQ2 := hide (H1.out.repD hv2 hO hvb)
    have HB2 : Hid (Below base w (w2.setCell ⟨b, 1, none⟩ v')) := B1.out.trans ((hO.below (fun t ht => (H1.out.q.d.lt t ht).1) (by have := B1.out.size; omega)).setCell (p := ⟨b, 1, none⟩) hbase _)
    have hob := H1.out.o.outS hO H1.out.nd
    have y1 := hob.cell 1 _ rfl
    have f1 := hob.fz 1
    obtain ⟨a3, p3', e3⟩ := hv2.itS
    obtain ⟨n3, rfl⟩ : ∃ n, v' = .slice a3 n p3' := ⟨_, e3⟩
    have HFG := hide (forget_any { Q with D := dropAt Q.D k } s b base _ _ _ _ (by show Q.A.length ≤ _; omega) HND.out HQ2.out hbase)
    clear hv hvb hO hv2 HDL e3 hob x1' f1' k2 H1 B1 H
    go_wp2_with fail
    refine HFG.out.mono ?_
    rintro e w3 ⟨vA3, rfl, hq3, hb3⟩
    have HQ3 : Hid (QB w3 b base (outD Q k s) (.slice aI Q.I.length pI) (.slice a3 n3 p3') vA3) := hq3
    have B3 : Hid (Below base w w3) := HB2.out.trans hb3
    clear hq3 hb3 HFG HQ2 HB2 y1 f1
    have hIR : (outD Q k s).I = Q.I := rfl
    have hNR : (outD Q k s).now = Q.now := rfl
    have HOR : Hid (okIs (outD Q k s).I) := HOI.out
    have HNR := hide hNR
    clear hIR hNR
    generalize outD Q k s = R at *
    generalize inA Q.A s = ia at *
    cases well with
    | true =>
      cases ia with
      | true =>
        have HR : Hid (doneC Q s true = (addQ R (s, Q.now, 0), true)) := HDC.out
        have y3 := HQ3.out.o.cell 3 _ rfl
        rw [HNR.out] at y3
        have HAD := hide (add_any R (s, Q.now, 0) b base _ _ _ w3 HOR.out HQ3.out hbase)
        clear HDC
        go_wp2_with fail
        refine HAD.out.mono ?_
        rintro e w4 ⟨vI4, rfl, hq4, hb4⟩
        have HQ4 := hide hq4
        have B4 : Hid (Below base w w4) := B3.out.trans hb4
        clear hq4 hb4 HAD y3
        go_wp2
        go_ret
        exact ⟨_, _, _, ret_bool (congrArg Prod.snd HR.out).symm, by rw [HR.out]; exact HQ4.out, B4.out⟩
      | false =>
        have HR : Hid (doneC Q s true = (R, true)) := HDC.out
        clear HDC
        go_wp2
        go_ret
        exact ⟨_, _, _, ret_bool (congrArg Prod.snd HR.out).symm, by rw [HR.out]; exact HQ3.out, B3.out⟩
    | false =>
      have HR : Hid (doneC Q s false = (addQ R (s, Q.now + (dlyN F : Nat), (F : Int)), true)) := HDC.out
      clear HDC
      have hdl : dlyN F ≤ 64 := Nat.min_le_right _ _
      have HDY := hide (fun wx => idelay_any F wx hF1 hF2)
      have HAD := hide (fun wx (hx : QB wx b base R _ _ _) => add_any R (s, Q.now + (dlyN F : Nat), (F : Int)) b base (.slice aI Q.I.length pI) (.slice a3 n3 p3') vA3 wx HOR.out hx hbase)
      go_wp2
      have HG0 : Hid (QB w3.drew b base R (.slice aI Q.I.length pI) (.slice a3 n3 p3') vA3) := HQ3.out.below (Below.drew (Below.refl _ _))
      have hnow : (0 : Int) ≤ Q.now ∧ Q.now ≤ 1000000 := p3
      have hwd : IntKind.i64.wrap (Q.now + (dlyN F : Nat)) = Q.now + (dlyN F : Nat) := uwrap64 _ (by omega) (by omega)
      generalize dlyN F = d at *
      refine wp_region_inv2 (fun i => if i = 11 then (fun _ _ => True) else Eq) (fun _ => none) 11 (by decide)
        (fun c wn => c = false → QB wn b base R (.slice aI Q.I.length pI) (.slice a3 n3 p3') vA3 ∧ Below base w3 wn) (FD8 w3 b base R s Q.now F d (.slice a3 n3 p3') vA3) (by kernel_rfl) (by kernel_rfl) (by kernel_rfl) ?hF ?hU ?hG ?hstep ?hend
      case hF =>
        intro i j γ γ' v wa wb hij hsp hnd hsd h hfr
        have ho := hfr.out
        match j, h with
        | 0, h => exact h
        | 1, h => exact h
        | 2, h => exact h
        | 3, h => exact h
        | 4, h => exact h
        | 5, h => exact h
        | 6, h => exact h
        | 7, h => exact h
        | 8, h => exact h
        | 9, h => exact h
        | 10, h => exact h
        | 11, h =>
          rw [if_neg hij] at ho
          exact ho ▸ h
        | j + 12, h => exact h.elim
      case hU =>
        intro i o hi hd γ v wa h
        match i, hi with
        | 0, hi => (injection hi with hi; subst hi; cases hd)
        | 1, hi => (injection hi with hi; subst hi; cases hd)
        | 2, hi => (injection hi with hi; subst hi; cases hd)
        | 3, hi => (injection hi with hi; subst hi; cases hd)
        | 4, hi => (injection hi with hi; subst hi; cases hd)
        | 5, hi => (injection hi with hi; subst hi; cases hd)
        | 6, hi => (injection hi with hi; subst hi; cases hd)
        | 7, hi => (injection hi with hi; subst hi; cases hd)
        | 8, hi => (injection hi with hi; subst hi; cases hd)
        | 9, hi => (injection hi with hi; subst hi; cases hd)
        | 10, hi => (injection hi with hi; subst hi; cases hd)
        | 11, hi => (cases hi; cases hd)
        | i + 12, hi => cases hi
      case hG => exact fun _ => ⟨HG0.out, Below.drew (Below.refl _ _)⟩
      case hstep =>
        intro i o hi
        match i, hi with
        | 0, hi =>
          injection hi with hi; subst hi
          intro c a wn γ hc0 hc1 hG hK hD K hk
          have e1 := hK.at 0 (by kernel_rfl)
          refine wp_pure (.pointer (some ⟨b, 0, none⟩)) ?_ (hk _ _ γ (by rw [if_neg (by decide)]; exact hG) (Fr.same (by exact (Eq.refl wn))) rfl)
          simp [execOp, Act.eval, e1, go_sem]
        | 1, hi =>
          injection hi with hi; subst hi
          intro c a wn γ hc0 hc1 hG hK hD K hk
          have e1 := hK.at 1 (by kernel_rfl)
          refine wp_pure (.string s) ?_ (hk _ _ γ (by rw [if_neg (by decide)]; exact hG) (Fr.same (by exact (Eq.refl wn))) rfl)
          simp [execOp, Act.eval, e1, go_sem]
        | 2, hi =>
          injection hi with hi; subst hi
          intro c a wn γ hc0 hc1 hG hK hD K hk
          have e1 := hK.at 0 (by kernel_rfl)
          refine wp_pure (.pointer (some ⟨b, 0, none⟩)) ?_ (hk _ _ γ (by rw [if_neg (by decide)]; exact hG) (Fr.same (by exact (Eq.refl wn))) rfl)
          simp [execOp, Act.eval, e1, go_sem]
        | 3, hi =>
          injection hi with hi; subst hi
          intro c a wn γ hc0 hc1 hG hK hD K hk
          have d0 := hD 0 (by decide) (by kernel_rfl) (.inl rfl)
          change a.tmps.getD 46 undef = .pointer (some ⟨b, 0, none⟩) at d0
          refine wp_pure (.pointer (some ⟨b, 0, none⟩)) ?_ (hk _ _ γ (by rw [if_neg (by decide)]; exact hG) (Fr.same (by exact (Eq.refl wn))) rfl)
          simp [execOp, Act.eval, d0, go_sem]
        | 4, hi =>
          injection hi with hi; subst hi
          intro c a wn γ hc0 hc1 hG hK hD K hk
          have d0 := hD 0 (by decide) (by kernel_rfl) (.inl rfl)
          change a.tmps.getD 47 undef = .pointer (some ⟨b, 0, none⟩) at d0
          refine wp_pure (.pointer (some ⟨b, 3, none⟩)) ?_ (hk _ _ γ (by rw [if_neg (by decide)]; exact hG) (Fr.same (by exact (Eq.refl wn))) rfl)
          simp [execOp, Act.eval, d0, go_sem]
        | 5, hi =>
          injection hi with hi; subst hi
          intro c a wn γ hc0 hc1 hG hK hD K hk
          have d0 := hD 0 (by decide) (by kernel_rfl) (.inl rfl)
          change a.tmps.getD 48 undef = .pointer (some ⟨b, 3, none⟩) at d0
          have x3 := (hG (hc0 (.inl (by kernel_rfl)))).1.o.cell 3 _ rfl
          rw [HNR.out] at x3
          refine wp_pure (.int .i64 Q.now) ?_ (hk _ _ γ (by rw [if_neg (by decide)]; exact hG) (Fr.same (by exact (Eq.refl wn))) rfl)
          simp [execOp, Act.eval, d0, x3, go_sem]
        | 6, hi =>
          injection hi with hi; subst hi
          intro c a wn γ hc0 hc1 hG hK hD K hk
          have e1 := hK.at 8 (by kernel_rfl)
          refine wp_pure (.int .i64 F) ?_ (hk _ _ γ (by rw [if_neg (by decide)]; exact hG) (Fr.same (by exact (Eq.refl wn))) rfl)
          simp [execOp, Act.eval, e1, go_sem]
        | 7, hi =>
          injection hi with hi; subst hi
          intro c a wn γ hc0 hc1 hG hK hD K hk
          have d0 := hD 0 (by decide) (by kernel_rfl) (.inl rfl)
          change a.tmps.getD 50 undef = .int .i64 F at d0
          refine wp_call 42 #[.tmp 50] _ rfl (callFunc_enter Try.func42 (by kernel_rfl) (by kernel_rfl)) #[.int .i64 F] (by simp only [List.map_toArray, List.map_cons, List.map_nil]; show #[a.tmps.getD 50 undef] = _; rw [d0]) (HDY.out wn) ?_
          rintro e w' ⟨rfl, hw⟩
          obtain rfl : wn = w' := hw.symm
          exact ⟨_, rfl, hk _ _ γ (by rw [if_neg (by decide)]; exact hG) (Fr.same (by exact (Eq.refl wn))) rfl⟩
        | 8, hi =>
          injection hi with hi; subst hi
          intro c a wn γ hc0 hc1 hG hK hD K hk
          have d0 := hD 0 (by decide) (by kernel_rfl) (.inl rfl)
          change a.tmps.getD 49 undef = .int .i64 Q.now at d0
          have d1 := hD 1 (by decide) (by kernel_rfl) (.inl rfl)
          change a.tmps.getD 51 undef = .int .i64 d at d1
          refine wp_pure (.int .i64 (Q.now + (d : Nat))) ?_ (hk _ _ γ (by rw [if_neg (by decide)]; exact hG) (Fr.same (by exact (Eq.refl wn))) rfl)
          simp [execOp, Act.eval, d0, d1, hwd, go_sem]
        | 9, hi =>
          injection hi with hi; subst hi
          intro c a wn γ hc0 hc1 hG hK hD K hk
          have e1 := hK.at 8 (by kernel_rfl)
          refine wp_pure (.int .i64 F) ?_ (hk _ _ γ (by rw [if_neg (by decide)]; exact hG) (Fr.same (by exact (Eq.refl wn))) rfl)
          simp [execOp, Act.eval, e1, go_sem]
        | 10, hi =>
          injection hi with hi; subst hi
          intro c a wn γ hc0 hc1 hG hK hD K hk
          have d0 := hD 0 (by decide) (by kernel_rfl) (.inl rfl)
          change a.tmps.getD 45 undef = .string s at d0
          have d1 := hD 1 (by decide) (by kernel_rfl) (.inl rfl)
          change a.tmps.getD 52 undef = .int .i64 (Q.now + (d : Nat)) at d1
          have d2 := hD 2 (by decide) (by kernel_rfl) (.inl rfl)
          change a.tmps.getD 53 undef = .int .i64 F at d2
          rw [Array.getD_eq_getD_getElem?] at d0 d1 d2
          refine wp_pure (.agg #[.string s, .int .i64 (Q.now + (d : Nat)), .int .i64 F]) ?_ (hk _ _ γ (by rw [if_neg (by decide)]; exact hG) (Fr.same (by exact (Eq.refl wn))) rfl)
          simp [execOp, Act.eval, d0, d1, d2, go_sem]
        | 11, hi =>
          injection hi with hi; subst hi
          intro c a wn γ hc0 hc1 hG hK hD K hk
          have d0 := hD 0 (by decide) (by kernel_rfl) (.inl rfl)
          change a.tmps.getD 44 undef = .pointer (some ⟨b, 0, none⟩) at d0
          have d1 := hD 1 (by decide) (by kernel_rfl) (.inl rfl)
          change a.tmps.getD 54 undef = .agg #[.string s, .int .i64 (Q.now + (d : Nat)), .int .i64 F] at d1
          have hc := hc0 (.inr rfl)
          obtain ⟨hq1, hb1⟩ := hG hc
          refine wp_call 37 #[.tmp 44, .tmp 54] _ rfl (callFunc_enter Try.func37 (by kernel_rfl) (by kernel_rfl)) #[.pointer (some ⟨b, 0, none⟩), .agg #[.string s, .int .i64 (Q.now + (d : Nat)), .int .i64 F]] (by simp only [List.map_toArray, List.map_cons, List.map_nil]; show #[a.tmps.getD 44 undef, a.tmps.getD 54 undef] = _; rw [d0, d1]) (HAD.out wn hq1) ?_
          rintro e w' ⟨vI', rfl, hq', hb'⟩
          exact ⟨_, rfl, hk _ _ γ (by rw [if_pos rfl]; intro hh; cases hh) ⟨trivial, fun _ _ => rfl⟩ ⟨_, hq', hb1.trans hb'⟩⟩
        | i + 12, hi => cases hi
      case hend =>
        intro x w5 γ hG hx
        obtain ⟨vI5, hQ5, hB5⟩ := hx 11 (by decide) rfl
        have HQ5 := hide hQ5
        have B5 : Hid (Below base w w5) := B3.out.trans hB5
        simp only [putAll, Act.put, List.setIfInBounds_toArray, List.set_cons_zero, List.set_cons_succ, Nat.zero_add, Nat.reduceAdd]
        clear hG hx hQ5 hB5 HAD HDY HG0
        go_wp2
        go_ret
        exact ⟨_, _, _, ret_bool (congrArg Prod.snd HR.out).symm, by rw [HR.out]; exact HQ5.out, B5.out⟩
  · have hpl : plcI Q.D s = -1 := if_neg hR
    rw [hpl] at HIX
    have HR := hide (doneC_no well hR)
    clear hpl p4 p5
    go_wp2_with fail
    refine HIX.out.mono ?_
    rintro e w1 ⟨rfl, hb1⟩
    have H1 := hide (H.out.below hb1)
    have B1 : Hid (Below base w w1) := hb1.mono (by omega)
    clear hb1 x1
    go_wp2
    go_ret
    exact ⟨_, _, _, ret_bool (congrArg Prod.snd HR.out).symm, by rw [HR.out]; exact H1.out, B1.out⟩
end Go.Proofs.Ytddojjigijfgbaa
/- Queues: what is right stays right. -/
namespace Go.Proofs.Ytddojjigijfgbaa
open Go.RowKit
set_option linter.unusedVariables false

theorem perm_dropAt {α : Type} (L : List α) (k : Nat) (h : k < L.length) : L.Perm (L[k] :: dropAt L k) := by
  have e : L = L.take k ++ L[k] :: L.drop (k + 1) := by rw [← List.drop_eq_getElem_cons h, List.take_append_drop]
  exact (List.Perm.of_eq e).trans List.perm_middle
theorem mem_dropAt {α : Type} {L : List α} {k : Nat} {x : α} (h : x ∈ dropAt L k) : x ∈ L := by
  rcases List.mem_append.1 h with h | h
  · exact List.mem_of_mem_take h
  · exact List.mem_of_mem_drop h
theorem len_dropAt {α : Type} (L : List α) (k : Nat) (h : k < L.length) : (dropAt L k).length + 1 = L.length := by
  have := (perm_dropAt L k h).length_eq
  rw [List.length_cons] at this
  omega
def nm (L : List It) : List ByteArray := L.map (fun x => x.1)
theorem qOkP_add {R : Qu} {x : It} (h : qOkP R) (hx : itOk x) (hn : x.1 ∉ (R.I ++ R.D).map (fun x => x.1)) : qOkP (addQ R x) := by
  unfold addQ
  split
  · exact h
  · obtain ⟨p1, p2, p3, p4, p5, p6, p7, p8⟩ := h
    refine ⟨?_, p2, p3, fun y hy => ?_, p5, ?_, p7, p8⟩
    · show (R.I ++ [x]).length ≤ 60
      rw [List.length_append, List.length_singleton]
      omega
    · have hy' : y ∈ (R.I ++ [x]) ++ R.D := hy
      rw [List.mem_append, List.mem_append, List.mem_singleton] at hy'
      rcases hy' with (hy | rfl) | hy
      · exact p4 y (List.mem_append_left _ hy)
      · exact hx
      · exact p4 y (List.mem_append_right _ hy)
    · show (((R.I ++ [x]) ++ R.D).map (fun x => x.1)).Nodup
      have hp : ((R.I ++ [x]) ++ R.D).Perm (x :: (R.I ++ R.D)) := by
        rw [List.append_assoc]
        exact List.perm_middle
      rw [(hp.map (fun x => x.1)).nodup_iff, List.map_cons, List.nodup_cons]
      exact ⟨hn, p6⟩
theorem qOkP_out {Q : Qu} {s : ByteArray} (h : qOkP Q) (hD : fndI Q.D s < Q.D.length) : qOkP (outD Q (fndI Q.D s) s) ∧ s ∉ ((outD Q (fndI Q.D s) s).I ++ (outD Q (fndI Q.D s) s).D).map (fun x => x.1) := by
  obtain ⟨p1, p2, p3, p4, p5, p6, p7, p8⟩ := h
  have hs := fndI_lt hD
  generalize fndI Q.D s = k at *
  have hp : (Q.I ++ Q.D).Perm (Q.D[k] :: (Q.I ++ dropAt Q.D k)) := ((perm_dropAt Q.D k hD).append_left Q.I).trans List.perm_middle
  have h6 := p6
  rw [(hp.map (fun x => x.1)).nodup_iff, List.map_cons, List.nodup_cons, hs] at h6
  refine ⟨⟨p1, ?_, p3, fun y hy => ?_, fun y hy => p5 y (mem_dropAt hy), h6.2, p7.filter _, fun t ht => ?_⟩, h6.1⟩
  · show (dropAt Q.D k).length ≤ 60
    have := len_dropAt Q.D k hD
    omega
  · rcases List.mem_append.1 hy with hy | hy
    · exact p4 y (List.mem_append_left _ hy)
    · exact p4 y (List.mem_append_right _ (mem_dropAt hy))
  · have ht' : t ∈ Q.A.filter (fun t => decide (t ≠ s)) := ht
    rw [List.mem_filter] at ht'
    obtain ⟨h1, h2⟩ := ht'
    have h3 := p8 t h1
    rw [((perm_dropAt Q.D k hD).map (fun x => x.1)).mem_iff, List.map_cons, List.mem_cons, hs] at h3
    rcases h3 with h3 | h3
    · simp at h2; exact (h2 h3).elim
    · exact h3
theorem qOkP_done {Q : Qu} {s : ByteArray} {well : Bool} (h : qOkP Q) : qOkP (doneC Q s well).1 := by
  by_cases hD : fndI Q.D s < Q.D.length
  · obtain ⟨p1, p2, p3, p4, p5, p6, p7, p8⟩ := h
    have h : qOkP Q := ⟨p1, p2, p3, p4, p5, p6, p7, p8⟩
    have hk := p4 _ (List.mem_append_right _ (List.getElem_mem hD))
    obtain ⟨F, hF⟩ : ∃ F : Nat, min ((Q.D[fndI Q.D s]'hD).2.2 + 1) 1000 = (F : Int) := ⟨(min ((Q.D[fndI Q.D s]'hD).2.2 + 1) 1000).toNat, by have := hk.2.2; omega⟩
    have hdl : dlyN F ≤ 64 := Nat.min_le_right _ _
    have hn : nameB s = true := by have := hk.1; rwa [fndI_lt hD] at this
    obtain ⟨h1, h2⟩ := qOkP_out h hD
    rw [doneC_at well hD hF]
    have h0 := hk.2.2
    cases well with
    | true =>
      cases inA Q.A s with
      | true => exact qOkP_add h1 ⟨hn, ⟨p3.1, by show Q.now ≤ _; omega⟩, ⟨Int.le_refl 0, by show (0 : Int) ≤ 1000; omega⟩⟩ h2
      | false => exact h1
    | false => exact qOkP_add h1 ⟨hn, ⟨by show 0 ≤ Q.now + (dlyN F : Nat); omega, by show Q.now + (dlyN F : Nat) ≤ 1000064; omega⟩, ⟨by show 0 ≤ (F : Int); omega, by show (F : Int) ≤ 1000; omega⟩⟩ h2
  · rw [doneC_no well hD]
    exact h
theorem qOkP_take {Q : Qu} (h : qOkP Q) : qOkP (takeC Q).1 := by
  unfold takeC
  split
  · rename_i hk
    split
    · exact h
    · rename_i h60
      obtain ⟨p1, p2, p3, p4, p5, p6, p7, p8⟩ := h
      generalize rdyN Q.I Q.now = k at *
      have hx := p4 _ (List.mem_append_left _ (List.getElem_mem hk))
      refine ⟨?_, ?_, p3, fun y hy => ?_, fun y hy => ?_, ?_, p7, fun t ht => ?_⟩
      · show (dropAt Q.I k).length ≤ 60
        have := len_dropAt Q.I k hk
        omega
      · show (Q.D ++ [_]).length ≤ 60
        rw [List.length_append, List.length_singleton]
        omega
      · have hy' : y ∈ dropAt Q.I k ++ (Q.D ++ [((Q.I[k]).1, (0 : Int), (Q.I[k]).2.2)]) := hy
        rw [List.mem_append, List.mem_append, List.mem_singleton] at hy'
        rcases hy' with hy | hy | rfl
        · exact p4 y (List.mem_append_left _ (mem_dropAt hy))
        · exact p4 y (List.mem_append_right _ hy)
        · exact ⟨hx.1, ⟨Int.le_refl 0, by show (0 : Int) ≤ 1000064; omega⟩, hx.2.2⟩
      · have hy' : y ∈ Q.D ++ [((Q.I[k]).1, (0 : Int), (Q.I[k]).2.2)] := hy
        rw [List.mem_append, List.mem_singleton] at hy'
        rcases hy' with hy | rfl
        · exact p5 y hy
        · rfl
      · show ((dropAt Q.I k ++ (Q.D ++ [((Q.I[k]).1, (0 : Int), (Q.I[k]).2.2)])).map (fun x => x.1)).Nodup
        have h1 : (dropAt Q.I k ++ (Q.D ++ [((Q.I[k]).1, (0 : Int), (Q.I[k]).2.2)])).Perm (((Q.I[k]).1, (0 : Int), (Q.I[k]).2.2) :: (dropAt Q.I k ++ Q.D)) := by
          rw [← List.append_assoc]
          exact List.perm_append_singleton _ _
        have h2 : (Q.I ++ Q.D).Perm (Q.I[k] :: (dropAt Q.I k ++ Q.D)) := (perm_dropAt Q.I k hk).append_right Q.D
        rw [(h1.map (fun x => x.1)).nodup_iff]
        rw [(h2.map (fun x => x.1)).nodup_iff] at p6
        exact p6
      · have := p8 t ht
        show t ∈ List.map (fun x : It => x.1) (Q.D ++ [_])
        rw [List.map_append]
        exact List.mem_append_left _ this
  · exact h
theorem qOkP_put {Q : Qu} {s : ByteArray} (h : qOkP Q) (hs : nameB s = true) : qOkP (putC Q s).1 := by
  obtain ⟨p1, p2, p3, p4, p5, p6, p7, p8⟩ := h
  have h : qOkP Q := ⟨p1, p2, p3, p4, p5, p6, p7, p8⟩
  unfold putC
  split
  · rename_i hD
    cases hA : inA Q.A s with
    | true => exact h
    | false =>
      refine ⟨p1, p2, p3, p4, p5, p6, ?_, fun t ht => ?_⟩
      · show (Q.A ++ [s]).Nodup
        rw [(List.perm_append_singleton s Q.A).nodup_iff, List.nodup_cons]
        exact ⟨(fun hm => by rw [inA_iff.2 hm] at hA; cases hA), p7⟩
      · have ht' : t ∈ Q.A ++ [s] := ht
        rw [List.mem_append, List.mem_singleton] at ht'
        rcases ht' with ht | rfl
        · exact p8 t ht
        · exact fndI_mem.1 hD
  · rename_i hD
    split
    · rename_i hI
      generalize fndI Q.I s = k at *
      have hx := p4 _ (List.mem_append_left _ (List.getElem_mem hI))
      have hmap : (Q.I.set k ((Q.I[k]).1, min (Q.I[k]).2.1 Q.now, (Q.I[k]).2.2)).map (fun x => x.1) = Q.I.map (fun x => x.1) := by
        rw [List.map_set]
        have : (Q.I[k]).1 = (Q.I.map (fun x => x.1))[k]'(by rw [List.length_map]; exact hI) := by rw [List.getElem_map]
        show (Q.I.map (fun x => x.1)).set k (Q.I[k]).1 = _
        rw [this, List.set_getElem_self]
      refine ⟨by show (Q.I.set _ _).length ≤ 60; rw [List.length_set]; exact p1, p2, p3, fun y hy => ?_, p5, ?_, p7, p8⟩
      · have hy' : y ∈ Q.I.set k ((Q.I[k]).1, min (Q.I[k]).2.1 Q.now, (Q.I[k]).2.2) ++ Q.D := hy
        rw [List.mem_append] at hy'
        rcases hy' with hy | hy
        · rcases List.mem_or_eq_of_mem_set hy with hy | rfl
          · exact p4 y (List.mem_append_left _ hy)
          · exact ⟨hx.1, ⟨by show 0 ≤ min _ _; have := hx.2.1; omega, by show min _ _ ≤ (1000064 : Int); have := hx.2.1; omega⟩, hx.2.2⟩
        · exact p4 y (List.mem_append_right _ hy)
      · show ((Q.I.set _ _ ++ Q.D).map (fun x => x.1)).Nodup
        rw [List.map_append, hmap, ← List.map_append]
        exact p6
    · rename_i hI
      have hn : s ∉ (Q.I ++ Q.D).map (fun x => x.1) := fun hm => by
        rw [List.map_append, List.mem_append] at hm
        rcases hm with hm | hm
        · exact hI (fndI_mem.2 hm)
        · exact hD (fndI_mem.2 hm)
      have ha := qOkP_add (x := (s, Q.now, 0)) h ⟨hs, ⟨p3.1, by show Q.now ≤ 1000064; omega⟩, ⟨Int.le_refl 0, by show (0 : Int) ≤ 1000; omega⟩⟩ hn
      unfold addQ at ha
      split
      · exact h
      · rename_i h60
        rw [if_neg h60] at ha
        exact ha
theorem qOkP_pass {Q : Qu} {z : Int} (h : qOkP Q) : qOkP (passQ Q z) := by
  unfold passQ
  split
  · rename_i hc
    obtain ⟨p1, p2, p3, p4, p5, p6, p7, p8⟩ := h
    exact ⟨p1, p2, ⟨by show 0 ≤ z; omega, by show z ≤ 1000000; omega⟩, p4, p5, p6, p7, p8⟩
  · exact h
/-- how many names there are -/
def cntQ (Q : Qu) : Nat := Q.I.length + Q.D.length
theorem cntQ_put (Q : Qu) (s : ByteArray) : cntQ (putC Q s).1 ≤ cntQ Q + 1 := by
  unfold putC cntQ
  split
  · split <;> simp <;> omega
  · split
    · simp
    · split
      · simp
      · simp; omega
theorem cntQ_take (Q : Qu) : cntQ (takeC Q).1 = cntQ Q := by
  unfold takeC cntQ
  split
  · rename_i hk
    split
    · rfl
    · have := len_dropAt Q.I _ hk
      show (dropAt Q.I _).length + (Q.D ++ [_]).length = _
      rw [List.length_append, List.length_singleton]
      omega
  · rfl
theorem cntQ_pass (Q : Qu) (z : Int) : cntQ (passQ Q z) = cntQ Q := by
  unfold passQ cntQ
  split <;> rfl
theorem cntQ_add (R : Qu) (x : It) : cntQ (addQ R x) ≤ cntQ R + 1 := by
  unfold addQ cntQ
  split
  · omega
  · show (R.I ++ [x]).length + R.D.length ≤ _
    rw [List.length_append, List.length_singleton]
    omega
theorem cntQ_done {Q : Qu} {s : ByteArray} {well : Bool} (h : qOkP Q) : cntQ (doneC Q s well).1 ≤ cntQ Q := by
  by_cases hD : fndI Q.D s < Q.D.length
  · obtain ⟨p1, p2, p3, p4, -⟩ := h
    have hk := (p4 _ (List.mem_append_right _ (List.getElem_mem hD))).2.2
    obtain ⟨F, hF⟩ : ∃ F : Nat, min ((Q.D[fndI Q.D s]'hD).2.2 + 1) 1000 = (F : Int) := ⟨(min ((Q.D[fndI Q.D s]'hD).2.2 + 1) 1000).toNat, by omega⟩
    rw [doneC_at well hD hF]
    have hl := len_dropAt Q.D _ hD
    have ho : cntQ (outD Q (fndI Q.D s) s) + 1 = cntQ Q := by
      show Q.I.length + (dropAt Q.D _).length + 1 = Q.I.length + Q.D.length
      omega
    cases well with
    | true =>
      cases inA Q.A s with
      | true => have := cntQ_add (outD Q (fndI Q.D s) s) (s, Q.now, 0); show cntQ (addQ _ _) ≤ _; omega
      | false => show cntQ (outD _ _ _) ≤ _; omega
    | false => have := cntQ_add (outD Q (fndI Q.D s) s) (s, Q.now + (dlyN F : Nat), (F : Int)); show cntQ (addQ _ _) ≤ _; omega
  · rw [doneC_no well hD]
    exact Nat.le_refl _
end Go.Proofs.Ytddojjigijfgbaa
/- What FnOnce asks, of the plain queues. -/
namespace Go.Proofs.Ytddojjigijfgbaa
open Go.RowKit
set_option linter.unusedVariables false

def nmI (L : List It) : List ByteArray := L.map (fun x => x.1)
def hasQ (Q : Qu) (s : ByteArray) : Prop := s ∈ nmI Q.I ∨ s ∈ nmI Q.D
/-- the queue while it is taken from -/
def onT (T : Qu) (s : ByteArray) : Prop := okQ T ∧ qOkP T ∧ T.I.length ≤ 59 ∧ hasQ T s
theorem nmI_set {L : List It} {k : Nat} {y : It} (hk : k < L.length) (h : y.1 = (L[k]'hk).1) : nmI (L.set k y) = nmI L := by
  unfold nmI
  rw [List.map_set, h]
  apply List.ext_getElem
  · simp
  · intro i h1 h2
    simp only [List.getElem_set, List.getElem_map]
    split
    · rename_i e; subst e; rfl
    · rfl
theorem again_len {T : Qu} {s : ByteArray} (h : hasQ T s) (ha : s ∈ nmI T.D → s ∈ T.A) : (putC T s).1.I.length = T.I.length ∧ (putC T s).1.A.length = T.A.length := by
  unfold putC
  by_cases hD : fndI T.D s < T.D.length
  · rw [if_pos hD, if_pos (inA_iff.2 (ha (fndI_mem.1 hD)))]
    exact ⟨rfl, rfl⟩
  · rw [if_neg hD]
    have hI : fndI T.I s < T.I.length := by
      rcases h with h | h
      · exact fndI_mem.2 h
      · exact (hD (fndI_mem.2 h)).elim
    rw [dif_pos hI]
    exact ⟨by simp, rfl⟩
theorem put_has {T : Qu} {s : ByteArray} (h : hasQ T s) : (putC T s).2 = true ∧ nmI (putC T s).1.I = nmI T.I ∧ (putC T s).1.D = T.D ∧ (putC T s).1.I.length = T.I.length ∧ (s ∈ nmI T.D → s ∈ (putC T s).1.A) := by
  unfold putC
  by_cases hD : fndI T.D s < T.D.length
  · rw [if_pos hD]
    refine ⟨rfl, ?_⟩
    cases hA : inA T.A s with
    | true => exact ⟨rfl, rfl, rfl, fun _ => inA_iff.1 hA⟩
    | false => exact ⟨rfl, rfl, rfl, fun _ => by show s ∈ T.A ++ [s]; simp⟩
  · rw [if_neg hD]
    have hI : fndI T.I s < T.I.length := by
      rcases h with h | h
      · exact fndI_mem.2 h
      · exact (hD (fndI_mem.2 h)).elim
    rw [dif_pos hI]
    exact ⟨rfl, nmI_set hI rfl, rfl, by simp, fun g => (hD (fndI_mem.2 g)).elim⟩
/-- put: the name is there then -/
theorem on_put {Q : Qu} {s : ByteArray} (hq : okQ Q) (hp : qOkP Q) (hs : nameB s = true) (hz : s.size ≤ maxLen) (hw : Q.I.length ≤ 58 ∨ (Q.I.length = 60 ∧ Q.D = [] ∧ ∀ x ∈ Q.I, x.1 ≠ s)) (hok : (putC Q s).2 = true) :
    onT (putC Q s).1 s ∧ (s ∈ nmI (putC Q s).1.D → s ∈ (putC Q s).1.A) := by
  have ho := okQ_put hq hz
  have e : putQ Q s = putC Q s := if_pos ⟨qOk_true hp, hs⟩
  rw [e] at ho
  have hp' := qOkP_put hp hs
  by_cases hD : fndI Q.D s < Q.D.length
  · have hl : Q.I.length ≤ 58 := by
      rcases hw with h | ⟨-, h, -⟩
      · exact h
      · rw [h] at hD; exact absurd hD (by simp)
    have hd := fndI_mem.1 hD
    obtain ⟨-, h2, h3, h4, h5⟩ := put_has (T := Q) (s := s) (.inr hd)
    exact ⟨⟨ho, hp', by rw [h4]; omega, .inr (by rw [h3]; exact hd)⟩, fun _ => h5 hd⟩
  · by_cases hI : fndI Q.I s < Q.I.length
    · have hi := fndI_mem.1 hI
      have hl : Q.I.length ≤ 58 := by
        rcases hw with h | ⟨-, -, h⟩
        · exact h
        · obtain ⟨x, hx, rfl⟩ := List.mem_map.1 hi
          exact (h x hx rfl).elim
      obtain ⟨-, h2, h3, h4, h5⟩ := put_has (T := Q) (s := s) (.inl hi)
      exact ⟨⟨ho, hp', by rw [h4]; omega, .inl (by rw [h2]; exact hi)⟩, fun g => by rw [h3] at g; exact h5 g⟩
    · have e2 : putC Q s = if Q.I.length = 60 then (Q, false) else ({ Q with I := Q.I ++ [(s, Q.now, 0)] }, true) := by
        unfold putC
        rw [if_neg hD, dif_neg hI]
      by_cases h60 : Q.I.length = 60
      · rw [e2, if_pos h60] at hok; cases hok
      · have hl : Q.I.length ≤ 58 := by
          rcases hw with h | ⟨h, -⟩
          · exact h
          · exact (h60 h).elim
        rw [e2, if_neg h60] at ho hp' ⊢
        refine ⟨⟨ho, hp', by simp; omega, .inl (by unfold nmI; simp)⟩, fun g => ?_⟩
        exact (hD (fndI_mem.2 g)).elim
/-- taking: what is got was not being done; the name stays there -/
theorem on_take {T : Qu} {s : ByteArray} (h : onT T s) (ht : (takeC T).2.2 = true) : onT (takeC T).1 s ∧ (takeC T).2.1 ∉ nmI T.D ∧ (takeC T).1.I.length < T.I.length := by
  obtain ⟨hq, hp, hl, hh⟩ := h
  have ho := (okQ_take hq).1
  have e : takeQ T = takeC T := if_pos (qOk_true hp)
  rw [e] at ho
  have hp' := qOkP_take hp
  by_cases hr : rdyN T.I T.now < T.I.length
  · by_cases h60 : T.D.length = 60
    · unfold takeC at ht
      rw [dif_pos hr, if_pos h60] at ht; cases ht
    · have e2 : takeC T = ({ T with I := dropAt T.I (rdyN T.I T.now), D := T.D ++ [((T.I[rdyN T.I T.now]'hr).1, 0, (T.I[rdyN T.I T.now]'hr).2.2)] }, (T.I[rdyN T.I T.now]'hr).1, true) := by
        unfold takeC
        rw [dif_pos hr, if_neg h60]
      rw [e2] at ho hp' ⊢
      have hlen := len_dropAt T.I _ hr
      have hnd := hp.2.2.2.2.2.1
      refine ⟨⟨ho, hp', ?_, ?_⟩, ?_, ?_⟩
      · show (dropAt T.I _).length ≤ 59; omega
      · rcases hh with hh | hh
        · obtain ⟨x, hx, hxs⟩ := List.mem_map.1 hh
          have hm := (perm_dropAt T.I _ hr).mem_iff.1 hx
          rcases List.mem_cons.1 hm with rfl | hm
          · right
            show s ∈ nmI (T.D ++ [_])
            unfold nmI
            rw [List.map_append, List.mem_append]
            exact .inr (by simpa using hxs.symm)
          · exact .inl (List.mem_map.2 ⟨x, hm, hxs⟩)
        · right
          show s ∈ nmI (T.D ++ [_])
          unfold nmI
          rw [List.map_append, List.mem_append]
          exact .inl hh
      · intro hg
        rw [List.map_append, List.nodup_append] at hnd
        exact hnd.2.2 _ (List.mem_map.2 ⟨_, List.getElem_mem hr, rfl⟩) _ hg rfl
      · show (dropAt T.I _).length < T.I.length; omega
  · unfold takeC at ht
    rw [dif_neg hr] at ht; cases ht
def lastP (I : List It) (s : ByteArray) : Prop := 0 < I.length ∧ ∀ (h : I.length - 1 < I.length), (I[I.length - 1]'h).1 = s
def heldB (T : Qu) (s : ByteArray) : Bool := (nmI T.D).any fun t => decide (t = s)
theorem heldB_iff {T : Qu} {s : ByteArray} : heldB T s = true ↔ s ∈ nmI T.D := by
  unfold heldB
  rw [List.any_eq_true]
  exact ⟨fun ⟨t, h1, h2⟩ => by simp at h2; exact h2 ▸ h1, fun h => ⟨s, h, by simp⟩⟩
/-- the end: put once more, then done -/
theorem on_end {T : Qu} {s : ByteArray} (h : onT T s) (hs : nameB s = true) : (putC T s).2 = true ∧ qOkP (putC T s).1 ∧ qOkP (doneC (putC T s).1 s true).1 ∧ (doneC (putC T s).1 s true).2 = heldB T s ∧
    (heldB T s = true → lastP (doneC (putC T s).1 s true).1.I s) := by
  obtain ⟨hq, hp, hl, hh⟩ := h
  obtain ⟨h1, h2, h3, h4, h5⟩ := put_has hh
  have hp' := qOkP_put (s := s) hp hs
  have hd' := qOkP_done (s := s) (well := true) hp'
  refine ⟨h1, hp', hd', ?_⟩
  generalize (putC T s).1 = P at *
  by_cases hD : fndI P.D s < P.D.length
  · have hm : s ∈ nmI T.D := by rw [← h3]; exact fndI_mem.1 hD
    have hA : inA P.A s = true := inA_iff.2 (h5 hm)
    have hb : heldB T s = true := heldB_iff.2 hm
    have e : doneC P s true = (addQ { P with D := dropAt P.D (fndI P.D s), A := P.A.filter (fun t => decide (t ≠ s)) } (s, P.now, 0), true) := by
      unfold doneC
      rw [dif_pos hD]
      simp only [if_true, hA]
    have ea : addQ { P with D := dropAt P.D (fndI P.D s), A := P.A.filter (fun t => decide (t ≠ s)) } (s, P.now, 0) = { P with D := dropAt P.D (fndI P.D s), A := P.A.filter (fun t => decide (t ≠ s)), I := P.I ++ [(s, P.now, 0)] } := by
      unfold addQ
      exact if_neg (show ¬ P.I.length = 60 by omega)
    rw [e, ea]
    refine ⟨hb.symm, fun _ => ⟨by simp, fun h => ?_⟩⟩
    simp
  · have hm : s ∉ nmI T.D := fun g => hD (fndI_mem.2 (by rw [h3]; exact g))
    have hb : heldB T s = false := by rw [Bool.eq_false_iff]; exact fun g => hm (heldB_iff.1 g)
    have e : doneC P s true = (P, false) := by
      unfold doneC
      rw [dif_neg hD]
    rw [e, hb]
    exact ⟨rfl, fun g => by cases g⟩
end Go.Proofs.Ytddojjigijfgbaa
/- Queues: NextAt on both sides, at what is right. -/
namespace Go.Proofs.Ytddojjigijfgbaa
open Go.RowKit Go.BigFrame
set_option linter.unusedVariables false

/-- the least Ready of the first q -/
def leastP (L : List It) (q : Nat) (m : Int) : Prop := (∃ (j : Nat) (h : j < L.length), j < q ∧ (L[j]'h).2.1 = m) ∧ ∀ (j : Nat) (h : j < L.length), j < q → m ≤ (L[j]'h).2.1
theorem leastP.uniq {L : List It} {q : Nat} {m m' : Int} (h : leastP L q m) (h' : leastP L q m') : m = m' := by
  obtain ⟨⟨j, a1, a2, a3⟩, b⟩ := h
  obtain ⟨⟨j', c1, c2, c3⟩, d⟩ := h'
  have := b j' c1 c2
  have := d j a1 a2
  omega
theorem leastP.one {L : List It} (h : 0 < L.length) : leastP L 1 (L[0]'h).2.1 := ⟨⟨0, h, by omega, rfl⟩, fun j hj hlt => by
  have : j = 0 := by omega
  subst this
  exact Int.le_refl _⟩
theorem leastP.succ {L : List It} {q : Nat} {m : Int} (h : leastP L q m) (hq : q < L.length) : leastP L (q + 1) (min m (L[q]'hq).2.1) := by
  obtain ⟨⟨j, a1, a2, a3⟩, b⟩ := h
  refine ⟨?_, fun i hi hlt => ?_⟩
  · by_cases hm : m ≤ (L[q]'hq).2.1
    · exact ⟨j, a1, by omega, by omega⟩
    · exact ⟨q, hq, by omega, by omega⟩
  · by_cases e : i = q
    · subst e; omega
    · have := b i hi (by omega); omega
theorem leastP.again {L : List It} {q : Nat} {m : Int} (h : leastP L 1 m) (hq : 0 < L.length) : leastP L 1 (min m (L[0]'hq).2.1) := by
  have := h.uniq (leastP.one hq)
  rw [← this, Int.min_self]
  exact h
def nxtP (Q : Qu) (r : Int) : Prop := (Q.I.length = 0 ∧ r = -1) ∨ ∃ m, leastP Q.I Q.I.length m ∧ r = max m Q.now
theorem nxtP.uniq {Q : Qu} {r r' : Int} (h : nxtP Q r) (h' : nxtP Q r') : r = r' := by
  rcases h with ⟨a, b⟩ | ⟨m, a, b⟩ <;> rcases h' with ⟨c, d⟩ | ⟨m', c, d⟩
  · rw [b, d]
  · obtain ⟨⟨j, c1, -, -⟩, -⟩ := c; omega
  · obtain ⟨⟨j, c1, -, -⟩, -⟩ := a; omega
  · rw [b, d, a.uniq c]
end Go.Proofs.Ytddojjigijfgbaa
/- Queues: the program's Done. -/
namespace Go.Proofs.Ytddojjigijfgbaa
open Go.RowKit Go.BigFrame
set_option linter.unusedVariables false

theorem okQ_add {R : Qu} {x : It} (h : okQ R) (hl : R.I.length ≤ 60) (hx : x.1.size ≤ maxLen ∧ inK .i64 x.2.1 ∧ inK .i64 x.2.2) : okQ (addQ R x) := by
  unfold addQ
  split
  · exact h
  · refine ⟨⟨?_, fun y hy => ?_⟩, h.2.1, h.2.2.1, h.2.2.2⟩
    · show (R.I ++ [x]).length ≤ _
      rw [List.length_append, List.length_singleton]
      omega
    · rcases List.mem_append.1 hy with hy | hy
      · exact h.1.2 y hy
      · simp at hy
        rw [hy]
        exact hx
theorem okQ_out {Q : Qu} (h : okQ Q) (k : Nat) (s : ByteArray) : okQ (outD Q k s) :=
  ⟨h.1, okIs_drop h.2.1 k, ⟨Nat.le_trans (List.length_filter_le _ _) h.2.2.1.1, fun t ht => h.2.2.1.2 t ((List.mem_filter.1 ht).1)⟩, h.2.2.2⟩
theorem okQ_done {Q : Qu} (hq : okQ Q) {s : ByteArray} (hs : s.size ≤ maxLen) (well : Bool) : okQ (doneQ Q s well).1 := by
  unfold doneQ
  split
  · rename_i h
    obtain ⟨p1, p2, p3, p4, p5, p6, p7, p8⟩ := qOk_iff.1 h
    by_cases hD : fndI Q.D s < Q.D.length
    · have hfl := (p4 _ (List.mem_append_right _ (List.getElem_mem hD))).2.2
      obtain ⟨F, hF⟩ : ∃ F : Nat, min ((Q.D[fndI Q.D s]'hD).2.2 + 1) 1000 = (F : Int) := ⟨(min ((Q.D[fndI Q.D s]'hD).2.2 + 1) 1000).toNat, by omega⟩
      have hdl : dlyN F ≤ 64 := Nat.min_le_right _ _
      rw [doneC_at well hD hF]
      have ho := okQ_out hq (fndI Q.D s) s
      have hl : (outD Q (fndI Q.D s) s).I.length ≤ 60 := p1
      cases well with
      | true =>
        cases inA Q.A s with
        | true => exact okQ_add ho hl ⟨hs, hq.2.2.2, by show inK .i64 0; unfold inK; omega⟩
        | false => exact ho
      | false => exact okQ_add ho hl ⟨hs, by show inK .i64 (Q.now + (dlyN F : Nat)); unfold inK; omega, by show inK .i64 (F : Int); unfold inK; omega⟩
    · rw [doneC_no well hD]
      exact hq
  · exact hq
set_option maxRecDepth 20000 in
set_option maxHeartbeats 1600000 in
theorem iDone_any (Q : Qu) (s : ByteArray) (well : Bool) (xs : List Value) (w : World) (hq : okQ Q) (hs : s.size ≤ maxLen) (hx : rdQ w Q xs) :
    Calls Try.prog 11 #[.agg xs.toArray, .string s, .bool well] w fun e w' => ∃ vI vD vA, e = .returned (.tuple #[.agg #[vI, vD, vA, .int .i64 (doneQ Q s well).1.now], .bool (doneQ Q s well).2]) ∧ ownQ w' w.heap.size (doneQ Q s well).1 vI vD vA ∧ Below w.heap.size w w' := by
  have hxx := hx
  obtain ⟨cI, cD, cA, rfl, hI, hD, hA⟩ := hx
  have l1 := hq.1.1
  have l2 := hq.2.1.1
  have l3 := hq.2.2.1.1
  obtain ⟨aI, pI, rfl, -, -⟩ := hI.itS
  obtain ⟨aD, pD, rfl, -, -⟩ := hD.itS
  obtain ⟨aA, pA, rfl, -, -⟩ := hA.stS
  have HX := hide hxx
  have HK := hide hq
  have HI := hide hI
  have HD := hide hD
  have HA := hide hA
  clear hI hD hA hxx hq
  have HCP : Hid (∀ wx, Below w.heap.size w wx → Calls Try.prog 16 #[.agg #[.slice aI Q.I.length pI, .slice aD Q.D.length pD, .slice aA Q.A.length pA, .int .i64 Q.now]] wx fun e w' => ∃ vI vD vA, e = .returned (.agg #[vI, vD, vA, .int .i64 Q.now]) ∧ ownQ w' wx.heap.size Q vI vD vA ∧ Below wx.heap.size wx w') := fun wx hb => copyQ_N Q _ wx HK.out (HX.out.below hb)
  have HOK : Hid (∀ wx, Below w.heap.size w wx → Calls Try.prog 9 #[.agg #[.slice aI Q.I.length pI, .slice aD Q.D.length pD, .slice aA Q.A.length pA, .int .i64 Q.now]] wx fun e w' => e = .returned (.bool (qOk Q)) ∧ Below wx.heap.size wx w') := fun wx hb => iQueueOk_any Q _ wx HK.out (HX.out.below hb)
  obtain ⟨w0, ew0⟩ : ∃ w0, w0 = ((w.alloc (.cells #[.slice aI Q.I.length pI, .slice aD Q.D.length pD, .slice aA Q.A.length pA, .int .i64 Q.now] 27)).alloc (.cells #[.slice none 0 0, .slice none 0 0, .slice none 0 0, .int .i64 0] 27)) := ⟨_, rfl⟩
  have BX : Hid (Below w.heap.size w w0) := by show Below _ _ _; rw [ew0]; exact ((Below.refl _ _).alloc (Nat.le_refl _) _).alloc (by simp) _
  have OX : Hid (objU w0 w.heap.size 27 [.slice aI Q.I.length pI, .slice aD Q.D.length pD, .slice aA Q.A.length pA, .int .i64 Q.now]) := by show objU _ _ _ _; rw [ew0]; exact (objU.new _ _ _).old _
  have OZ : Hid (objU w0 (w.heap.size + 1) 27 [.slice none 0 0, .slice none 0 0, .slice none 0 0, .int .i64 0]) := by show objU _ _ _ _; rw [ew0]; exact objU.new2 _ _ (by simp)
  have SZ : Hid (w0.heap.size = w.heap.size + 2) := by show _ = _; rw [ew0]; simp
  have EW := hide ew0
  clear ew0
  go_enter Try.func11, Try.ntmps11
  go_wp2_with fail
  refine (HCP.out _ (EW.out ▸ BX.out)).mono ?_
  rintro e w1 ⟨vI, vD, vA, rfl, ho, hb⟩
  replace ho : ownQ w1 (w.heap.size + 2) Q vI vD vA := by have h := ho; rw [← SZ.out, EW.out]; exact h
  replace hb : Below w0.heap.size w0 w1 := by have h := hb; rw [EW.out]; exact h
  have HO := hide ho
  have OX1 := hide (OX.out.below hb)
  have OZ1 := hide (OZ.out.below hb)
  have B1 : Hid (Below w.heap.size w w1) := BX.out.trans (hb.mono BX.out.size)
  have S1 : Hid (w.heap.size + 2 ≤ w1.heap.size) := by show _ ≤ _; rw [← SZ.out]; exact hb.size
  obtain ⟨b1, c1, rfl⟩ := ho.i.itS
  obtain ⟨b2, c2, rfl⟩ := ho.d.itS
  obtain ⟨b3, c3, rfl⟩ := ho.a.stS
  have x0 := OX1.out.cell 0 _ rfl
  have x1 := OX1.out.cell 1 _ rfl
  have x2 := OX1.out.cell 2 _ rfl
  have x3 := OX1.out.cell 3 _ rfl
  have hBl := OX1.out.lt
  clear ho hb OX OZ BX SZ EW HCP
  have HX1 : Hid (Below w.heap.size w (w1.alloc (.cells #[.slice b1 Q.I.length c1, .slice b2 Q.D.length c2, .slice b3 Q.A.length c3, .int .i64 Q.now] 27))) := B1.out.alloc B1.out.size _
  have HRn : Hid (qOk Q = false → doneQ Q s well = (Q, false)) := fun h => if_neg (fun g => by rw [h] at g; cases g)
  have HRy : Hid (qOk Q = true → doneQ Q s well = doneC Q s well) := fun a => if_pos a
  have HPT : Hid (qOk Q = true → ∀ (b : Nat) (wx : World) (vI vD vA : Value), QB wx b (w.heap.size + 2) Q vI vD vA → w.heap.size + 2 ≤ b → Calls Try.prog 29 #[.pointer (some ⟨b, 0, none⟩), .string s, .bool well] wx fun e w' => ∃ vI' vD' vA', e = .returned (.bool (doneC Q s well).2) ∧ QB w' b (w.heap.size + 2) (doneC Q s well).1 vI' vD' vA' ∧ Below (w.heap.size + 2) wx w') := fun ho b wx vI vD vA h hb => done_any Q s well b _ vI vD vA wx HK.out (qOk_iff.1 ho) h hb
  generalize qOk Q = ok at *
  go_wp2_with fail
  refine (HOK.out _ HX1.out).mono ?_
  rintro e w2 ⟨rfl, hb2⟩
  have OX2 := hide ((OX1.out.old _).below hb2)
  have OZ2 := hide ((OZ1.out.old _).below hb2)
  have OB2 : Hid (objU w2 w1.heap.size 27 [.slice b1 Q.I.length c1, .slice b2 Q.D.length c2, .slice b3 Q.A.length c3, .int .i64 Q.now]) := (objU.new _ _ _).below hb2
  have B2 : Hid (Below w.heap.size w w2) := HX1.out.trans (hb2.mono HX1.out.size)
  have OU2 : Hid (OutS [w.heap.size, w.heap.size + 1] w1 w2) := (OutS.of_below (below_alloc _ _)).trans (OutS.of_below hb2)
  have hn1 : ¬ (w1.heap.size = w.heap.size + 1) := by have := S1.out; omega
  have hn2 : ¬ (w1.heap.size = w.heap.size) := by have := S1.out; omega
  have hn3 : ¬ (w.heap.size + 1 = w1.heap.size) := by have := S1.out; omega
  have hn4 : ¬ (w.heap.size = w1.heap.size) := by have := S1.out; omega
  clear hb2 x0 x1 x2 x3 hBl HX1
  have HQB : Hid (QB w2 w1.heap.size (w.heap.size + 2) Q (.slice b1 Q.I.length c1) (.slice b2 Q.D.length c2) (.slice b3 Q.A.length c3)) := ⟨OB2.out, (HO.out.outS OU2.out (fun t ht => by simp at ht; omega)), (fun h => by have := (HO.out.i.lt _ h).2; omega), (fun h => by have := (HO.out.d.lt _ h).2; omega), (fun h => by have := (HO.out.a.lt _ h).2; omega)⟩
  have hS1 := S1.out
  cases ok with
  | false =>
    have HR := hide (HRn.out (by first | rfl | trivial))
    clear HRn HRy HPT HOK
    have u0 := HQB.out.o.cell 0 _ rfl
    have u1 := HQB.out.o.cell 1 _ rfl
    have u2 := HQB.out.o.cell 2 _ rfl
    have u3 := HQB.out.o.cell 3 _ rfl
    have z0 := OZ2.out.cell 0 _ rfl
    have z1 := OZ2.out.cell 1 _ rfl
    have z2 := OZ2.out.cell 2 _ rfl
    have z3 := OZ2.out.cell 3 _ rfl
    have g0 := OZ2.out.fz 0
    have g1 := OZ2.out.fz 1
    have g2 := OZ2.out.fz 2
    have g3 := OZ2.out.fz 3
    have HOU : Hid (OutS [w.heap.size + 1] w2 ((((w2.setCell ⟨w.heap.size + 1, 0, none⟩ (.slice b1 Q.I.length c1)).setCell ⟨w.heap.size + 1, 1, none⟩ (.slice b2 Q.D.length c2)).setCell ⟨w.heap.size + 1, 2, none⟩ (.slice b3 Q.A.length c3)).setCell ⟨w.heap.size + 1, 3, none⟩ (.int .i64 Q.now))) := by
      show OutS _ _ _
      repeat (first | with_reducible exact OutS.refl _ _ | with_reducible refine OutS.setCell ?_ (show _ ∈ [w.heap.size + 1] by simp) _)
    go_wp2
    refine bodyPost_ret (v := .tuple #[.agg #[.slice b1 Q.I.length c1, .slice b2 Q.D.length c2, .slice b3 Q.A.length c3, .int .i64 Q.now], .bool false]) ?_ rfl ⟨_, _, _, by rw [HR.out], by rw [HR.out]; exact QO.mono (HQB.out.q.outS HOU.out (fun t ht => by simp at ht; omega)) (by omega), B2.out.trans (HOU.out.below (fun t ht => by simp at ht; omega) B2.out.size)⟩
    simp [results, Try.results11, go_sem, z0, z1, z2, z3]
  | true =>
    have HR := hide (HRy.out (by first | rfl | trivial))
    have HPD := hide (HPT.out (by first | rfl | trivial))
    clear HRn HRy HOK HPT
    go_wp2_with fail
    refine (HPD.out _ _ _ _ _ HQB.out hS1).mono ?_
    rintro e w4 ⟨vI', vD', vA', rfl, hq4, hb4⟩
    have HQB4 := hide hq4
    have OZ4 : Hid (objU w4 (w.heap.size + 1) 27 [.slice none 0 0, .slice none 0 0, .slice none 0 0, .int .i64 0]) := (hb4.block _ (Nat.lt_succ_self _)).trans OZ2.out
    have B4 : Hid (Below w.heap.size w w4) := B2.out.trans (hb4.mono (by omega))
    clear hq4 hb4 HPD HQB OZ2 B2 OX2 OB2 OU2
    generalize doneC Q s well = R at *
    obtain ⟨R1, R2⟩ := R
    dsimp only at HQB4
    obtain ⟨e1, f1, e2, f2, e3, f3, rfl, rfl, rfl⟩ := HQB4.out.xs
    have u0 := HQB4.out.o.cell 0 _ rfl
    have u1 := HQB4.out.o.cell 1 _ rfl
    have u2 := HQB4.out.o.cell 2 _ rfl
    have u3 := HQB4.out.o.cell 3 _ rfl
    have z0 := OZ4.out.cell 0 _ rfl
    have z1 := OZ4.out.cell 1 _ rfl
    have z2 := OZ4.out.cell 2 _ rfl
    have z3 := OZ4.out.cell 3 _ rfl
    have g0 := OZ4.out.fz 0
    have g1 := OZ4.out.fz 1
    have g2 := OZ4.out.fz 2
    have g3 := OZ4.out.fz 3
    have HOU : Hid (OutS [w.heap.size + 1] w4 ((((w4.setCell ⟨w.heap.size + 1, 0, none⟩ (.slice e1 R1.I.length f1)).setCell ⟨w.heap.size + 1, 1, none⟩ (.slice e2 R1.D.length f2)).setCell ⟨w.heap.size + 1, 2, none⟩ (.slice e3 R1.A.length f3)).setCell ⟨w.heap.size + 1, 3, none⟩ (.int .i64 R1.now))) := by
      show OutS _ _ _
      repeat (first | with_reducible exact OutS.refl _ _ | with_reducible refine OutS.setCell ?_ (show _ ∈ [w.heap.size + 1] by simp) _)
    go_wp2
    refine bodyPost_ret (v := .tuple #[.agg #[.slice e1 R1.I.length f1, .slice e2 R1.D.length f2, .slice e3 R1.A.length f3, .int .i64 R1.now], .bool R2]) ?_ rfl ⟨_, _, _, by rw [HR.out], by rw [HR.out]; exact QO.mono (HQB4.out.q.outS HOU.out (fun t ht => by simp at ht; omega)) (by omega), B4.out.trans (HOU.out.below (fun t ht => by simp at ht; omega) B4.out.size)⟩
    simp [results, Try.results11, go_sem, z0, z1, z2, z3]
end Go.Proofs.Ytddojjigijfgbaa
