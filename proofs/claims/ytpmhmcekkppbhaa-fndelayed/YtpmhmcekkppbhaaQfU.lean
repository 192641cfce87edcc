/- Queues: the specification's Put. -/
import Derived.Test.YtpmhmcekkppbhaaQfT
namespace Go.Proofs.Ytpmhmcekkppbhaa
open Go.RowKit Go.BigFrame
set_option linter.unusedVariables false

theorem setI_same {L : List It} {k : Nat} (h : k < L.length) : L.set k ((L[k]).1, (L[k]).2.1, (L[k]).2.2) = L := by
  have : ((L[k]).1, (L[k]).2.1, (L[k]).2.2) = L[k] := rfl
  rw [this, List.set_getElem_self]
theorem QB.drewN {w : World} {b base : Nat} {Q : Qu} {vI vD vA : Value} (h : QB w b base Q vI vD vA) (n : Nat) : QB (w.drewN n) b base Q vI vD vA := h.below (below_drewN (Below.refl _ _) n)
set_option maxRecDepth 20000 in
set_option maxHeartbeats 3200000 in
theorem sPut_any (Q : Qu) (s : ByteArray) (xs : List Value) (w : World) (hq : okQ Q) (hs : s.size ≤ maxLen) (hx : rdQ w Q xs) :
    Calls Try.prog 34 #[.agg xs.toArray, .string s] w fun e w' => ∃ vI vD vA, e = .returned (.tuple #[.agg #[vI, vD, vA, .int .i64 (putQ Q s).1.now], .bool (putQ Q s).2]) ∧ ownQ w' w.heap.size (putQ Q s).1 vI vD vA ∧ Below w.heap.size w w' := by
  have hxx := hx
  obtain ⟨cI, cD, cA, rfl, hI, hD, hA⟩ := hx
  have l1 := hq.1.1
  have l2 := hq.2.1.1
  have l3 := hq.2.2.1.1
  obtain ⟨aI, pI, rfl, -, -⟩ := hI.itS
  obtain ⟨aD, pD, rfl, -, -⟩ := hD.itS
  obtain ⟨aA, pA, rfl, -, -⟩ := hA.stS
  have HX := hide hxx
  have HK := hide hq
  have HI := hide hI
  have HD := hide hD
  have HA := hide hA
  clear hI hD hA hxx hq
  have HCP : Hid (∀ wx, Below w.heap.size w wx → Calls Try.prog 92 #[.agg #[.slice aI Q.I.length pI, .slice aD Q.D.length pD, .slice aA Q.A.length pA, .int .i64 Q.now]] wx fun e w' => ∃ vI vD vA, e = .returned (.agg #[vI, vD, vA, .int .i64 Q.now]) ∧ ownQ w' wx.heap.size Q vI vD vA ∧ Below wx.heap.size wx w') := fun wx hb => l9Copy_N Q _ wx HK.out (HX.out.below hb)
  have HOK : Hid (∀ wx, Below w.heap.size w wx → Calls Try.prog 35 #[.agg #[.slice aI Q.I.length pI, .slice aD Q.D.length pD, .slice aA Q.A.length pA, .int .i64 Q.now]] wx fun e w' => e = .returned (.bool (qOk Q)) ∧ Below wx.heap.size wx w') := fun wx hb => sQueueOk_any Q _ wx HK.out (HX.out.below hb)
  obtain ⟨w0, ew0⟩ : ∃ w0, w0 = ((w.alloc (.cells #[.slice aI Q.I.length pI, .slice aD Q.D.length pD, .slice aA Q.A.length pA, .int .i64 Q.now] 66)).alloc (.cells #[.slice none 0 0, .slice none 0 0, .slice none 0 0, .int .i64 0] 66)) := ⟨_, rfl⟩
  have BX : Hid (Below w.heap.size w w0) := by show Below _ _ _; rw [ew0]; exact ((Below.refl _ _).alloc (Nat.le_refl _) _).alloc (by simp) _
  have OX : Hid (objU w0 w.heap.size 66 [.slice aI Q.I.length pI, .slice aD Q.D.length pD, .slice aA Q.A.length pA, .int .i64 Q.now]) := by show objU _ _ _ _; rw [ew0]; exact (objU.new _ _ _).old _
  have OZ : Hid (objU w0 (w.heap.size + 1) 66 [.slice none 0 0, .slice none 0 0, .slice none 0 0, .int .i64 0]) := by show objU _ _ _ _; rw [ew0]; exact objU.new2 _ _ (by simp)
  have SZ : Hid (w0.heap.size = w.heap.size + 2) := by show _ = _; rw [ew0]; simp
  have EW := hide ew0
  clear ew0
  go_enter Try.func34, Try.ntmps34
  go_wp2_with fail
  refine (HCP.out _ (EW.out ▸ BX.out)).mono ?_
  rintro e w1 ⟨vI, vD, vA, rfl, ho, hb⟩
  replace ho : ownQ w1 (w.heap.size + 2) Q vI vD vA := by have h := ho; rw [← SZ.out, EW.out]; exact h
  replace hb : Below w0.heap.size w0 w1 := by have h := hb; rw [EW.out]; exact h
  have HO := hide ho
  have OX1 := hide (OX.out.below hb)
  have OZ1 := hide (OZ.out.below hb)
  have B1 : Hid (Below w.heap.size w w1) := BX.out.trans (hb.mono BX.out.size)
  have S1 : Hid (w.heap.size + 2 ≤ w1.heap.size) := by show _ ≤ _; rw [← SZ.out]; exact hb.size
  obtain ⟨b1, c1, rfl⟩ := ho.i.itS
  obtain ⟨b2, c2, rfl⟩ := ho.d.itS
  obtain ⟨b3, c3, rfl⟩ := ho.a.stS
  have x0 := OX1.out.cell 0 _ rfl
  have x1 := OX1.out.cell 1 _ rfl
  have x2 := OX1.out.cell 2 _ rfl
  have x3 := OX1.out.cell 3 _ rfl
  have hBl := OX1.out.lt
  clear ho hb OX OZ BX SZ EW HCP
  have HX1 : Hid (Below w.heap.size w (w1.alloc (.cells #[.slice b1 Q.I.length c1, .slice b2 Q.D.length c2, .slice b3 Q.A.length c3, .int .i64 Q.now] 66))) := B1.out.alloc B1.out.size _
  have HRn : Hid (qOk Q = false → putQ Q s = (Q, false)) := fun h => if_neg (fun g => by rw [h] at g; cases g.1)
  have HRm : Hid (nameB s = false → putQ Q s = (Q, false)) := fun h => if_neg (fun g => by rw [h] at g; cases g.2)
  have HRy : Hid (qOk Q = true → nameB s = true → putQ Q s = putC Q s) := fun a b => if_pos ⟨a, b⟩
  have HNM := hide (fun wx => sname_any s wx hs)
  generalize qOk Q = ok at *
  generalize nameB s = nb at *
  go_wp2_with fail
  refine (HOK.out _ HX1.out).mono ?_
  rintro e w2 ⟨rfl, hb2⟩
  have OX2 := hide ((OX1.out.old _).below hb2)
  have OZ2 := hide ((OZ1.out.old _).below hb2)
  have OB2 : Hid (objU w2 w1.heap.size 66 [.slice b1 Q.I.length c1, .slice b2 Q.D.length c2, .slice b3 Q.A.length c3, .int .i64 Q.now]) := (objU.new _ _ _).below hb2
  have B2 : Hid (Below w.heap.size w w2) := HX1.out.trans (hb2.mono HX1.out.size)
  have OU2 : Hid (OutS [w.heap.size, w.heap.size + 1] w1 w2) := (OutS.of_below (below_alloc _ _)).trans (OutS.of_below hb2)
  have hn1 : ¬ (w1.heap.size = w.heap.size + 1) := by have := S1.out; omega
  have hn2 : ¬ (w1.heap.size = w.heap.size) := by have := S1.out; omega
  have hn3 : ¬ (w.heap.size + 1 = w1.heap.size) := by have := S1.out; omega
  have hn4 : ¬ (w.heap.size = w1.heap.size) := by have := S1.out; omega
  clear hb2 x0 x1 x2 x3 hBl HX1
  have HQB : Hid (QB w2 w1.heap.size (w.heap.size + 2) Q (.slice b1 Q.I.length c1) (.slice b2 Q.D.length c2) (.slice b3 Q.A.length c3)) := ⟨OB2.out, (HO.out.outS OU2.out (fun t ht => by simp at ht; omega)), (fun h => by have := (HO.out.i.lt _ h).2; omega), (fun h => by have := (HO.out.d.lt _ h).2; omega), (fun h => by have := (HO.out.a.lt _ h).2; omega)⟩
  have hS1 := S1.out
  have x0 := OX2.out.cell 0 _ rfl
  have x1 := OX2.out.cell 1 _ rfl
  have x2 := OX2.out.cell 2 _ rfl
  have x3 := OX2.out.cell 3 _ rfl
  have HFD := hide (l9Find_any Q.D s (.slice aD Q.D.length pD) w2 (HD.out.below B2.out) (by omega))
  have HFI := hide (l9Find_any Q.I s (.slice aI Q.I.length pI) w2 (HI.out.below B2.out) (by omega))
  have HAM := hide (l2AmongQ_any Q.A s (.slice aA Q.A.length pA) w2 (HA.out.below B2.out) (by omega))
  have HEI := hide elI
  have HES := hide elS
  cases ok with
  | false =>
    have HR := hide (HRn.out (by first | rfl | trivial))
    clear HRn HRm HRy HNM HOK
    have u0 := HQB.out.o.cell 0 _ rfl
    have u1 := HQB.out.o.cell 1 _ rfl
    have u2 := HQB.out.o.cell 2 _ rfl
    have u3 := HQB.out.o.cell 3 _ rfl
    have z0 := OZ2.out.cell 0 _ rfl
    have z1 := OZ2.out.cell 1 _ rfl
    have z2 := OZ2.out.cell 2 _ rfl
    have z3 := OZ2.out.cell 3 _ rfl
    have g0 := OZ2.out.fz 0
    have g1 := OZ2.out.fz 1
    have g2 := OZ2.out.fz 2
    have g3 := OZ2.out.fz 3
    have HOU : Hid (OutS [w.heap.size + 1] w2 ((((w2.setCell ⟨w.heap.size + 1, 0, none⟩ (.slice b1 Q.I.length c1)).setCell ⟨w.heap.size + 1, 1, none⟩ (.slice b2 Q.D.length c2)).setCell ⟨w.heap.size + 1, 2, none⟩ (.slice b3 Q.A.length c3)).setCell ⟨w.heap.size + 1, 3, none⟩ (.int .i64 Q.now))) := by
      show OutS _ _ _
      repeat (first | with_reducible exact OutS.refl _ _ | with_reducible refine OutS.setCell ?_ (show _ ∈ [w.heap.size + 1] by simp) _)
    go_wp2
    refine bodyPost_ret (v := .tuple #[.agg #[.slice b1 Q.I.length c1, .slice b2 Q.D.length c2, .slice b3 Q.A.length c3, .int .i64 Q.now], .bool false]) ?_ rfl ⟨_, _, _, by rw [HR.out], by rw [HR.out]; exact QO.mono (HQB.out.q.outS HOU.out (fun t ht => by simp at ht; omega)) (by omega), B2.out.trans (HOU.out.below (fun t ht => by simp at ht; omega) B2.out.size)⟩
    simp [results, Try.results34, go_sem, z0, z1, z2, z3]
  | true =>
    cases nb with
    | false =>
      have HR := hide (HRm.out (by first | rfl | trivial))
      clear HRn HRm HRy HOK
      go_wp2_with (go_at_call 65; refine (HNM.out _).mono ?_; clear HNM; rintro e w' ⟨rfl, hw⟩; obtain rfl : w2 = w' := hw.symm; have u0 := OB2.out.cell 0 _ rfl; have u1 := OB2.out.cell 1 _ rfl; have u2 := OB2.out.cell 2 _ rfl; have u3 := OB2.out.cell 3 _ rfl; have z0 := OZ2.out.cell 0 _ rfl; have z1 := OZ2.out.cell 1 _ rfl; have z2 := OZ2.out.cell 2 _ rfl; have z3 := OZ2.out.cell 3 _ rfl; have g0 := OZ2.out.fz 0; have g1 := OZ2.out.fz 1; have g2 := OZ2.out.fz 2; have g3 := OZ2.out.fz 3)
      have HOU : Hid (OutS [w.heap.size + 1] w2 ((((w2.setCell ⟨w.heap.size + 1, 0, none⟩ (.slice b1 Q.I.length c1)).setCell ⟨w.heap.size + 1, 1, none⟩ (.slice b2 Q.D.length c2)).setCell ⟨w.heap.size + 1, 2, none⟩ (.slice b3 Q.A.length c3)).setCell ⟨w.heap.size + 1, 3, none⟩ (.int .i64 Q.now))) := by
        show OutS _ _ _
        repeat (first | with_reducible exact OutS.refl _ _ | with_reducible refine OutS.setCell ?_ (show _ ∈ [w.heap.size + 1] by simp) _)
      refine bodyPost_ret (v := .tuple #[.agg #[.slice b1 Q.I.length c1, .slice b2 Q.D.length c2, .slice b3 Q.A.length c3, .int .i64 Q.now], .bool false]) ?_ rfl ⟨_, _, _, by rw [HR.out], by rw [HR.out]; exact QO.mono (HQB.out.q.outS HOU.out (fun t ht => by simp at ht; omega)) (by omega), B2.out.trans (HOU.out.below (fun t ht => by simp at ht; omega) B2.out.size)⟩
      simp [results, Try.results34, go_sem, z0, z1, z2, z3]
    | true =>
      have HP := hide (HRy.out (by first | rfl | trivial) (by first | rfl | trivial))
      clear HRn HRm HRy HOK
      by_cases hD : fndI Q.D s < Q.D.length
      · have hp : plcI Q.D s = (fndI Q.D s : Int) := if_pos hD
        rw [hp] at HFD
        have Hput : Hid (putC Q s = (if inA Q.A s = true then Q else { Q with A := Q.A ++ [s] }, true)) := if_pos hD
        generalize fndI Q.D s = kd at *
        have hk0 : (0 : Int) ≤ (kd : Int) := Int.natCast_nonneg _
        clear hp HFI
        cases hA : inA Q.A s with
        | true =>
          rw [hA] at HAM
          have HR : Hid (putQ Q s = (Q, true)) := by show _ = _; rw [HP.out, Hput.out, hA]; rfl
          clear Hput hA HP
          have z0 := OZ2.out.cell 0 _ rfl
          have z1 := OZ2.out.cell 1 _ rfl
          have z2 := OZ2.out.cell 2 _ rfl
          have z3 := OZ2.out.cell 3 _ rfl
          have g0 := OZ2.out.fz 0
          have g1 := OZ2.out.fz 1
          have g2 := OZ2.out.fz 2
          have g3 := OZ2.out.fz 3
          have u0 := OB2.out.cell 0 _ rfl
          have u1 := OB2.out.cell 1 _ rfl
          have u2 := OB2.out.cell 2 _ rfl
          have u3 := OB2.out.cell 3 _ rfl
          go_wp2_with (first | (go_at_call 65; refine (HNM.out _).mono ?_; clear HNM; rintro e w' ⟨rfl, hw⟩; obtain rfl : w2 = w' := hw.symm) | (go_at_call 93; refine HFD.out.mono ?_; clear HFD; rintro e w' ⟨rfl, hw⟩; obtain rfl : w2 = w' := hw.symm) | (go_at_call 60; refine HAM.out.mono ?_; clear HAM; rintro e w' ⟨rfl, hw⟩; obtain rfl : w2 = w' := hw.symm))
          have HOU : Hid (OutS [w.heap.size + 1] w2 ((((w2.setCell ⟨w.heap.size + 1, 0, none⟩ (.slice b1 Q.I.length c1)).setCell ⟨w.heap.size + 1, 1, none⟩ (.slice b2 Q.D.length c2)).setCell ⟨w.heap.size + 1, 2, none⟩ (.slice b3 Q.A.length c3)).setCell ⟨w.heap.size + 1, 3, none⟩ (.int .i64 Q.now))) := by
            show OutS _ _ _
            repeat (first | with_reducible exact OutS.refl _ _ | with_reducible refine OutS.setCell ?_ (show _ ∈ [w.heap.size + 1] by simp) _)
          refine bodyPost_ret (v := .tuple #[.agg #[.slice b1 Q.I.length c1, .slice b2 Q.D.length c2, .slice b3 Q.A.length c3, .int .i64 Q.now], .bool true]) ?_ rfl ⟨_, _, _, by rw [HR.out], by rw [HR.out]; exact QO.mono (HQB.out.q.outS HOU.out (fun t ht => by simp at ht; omega)) (by omega), B2.out.trans (HOU.out.below (fun t ht => by simp at ht; omega) B2.out.size)⟩
          simp [results, Try.results34, go_sem, z0, z1, z2, z3]
        | false =>
          rw [hA] at HAM
          have HR : Hid (putQ Q s = ({ Q with A := Q.A ++ [s] }, true)) := by show _ = _; rw [HP.out, Hput.out, hA]; rfl
          clear Hput hA HP
          have H2 : Hid (QB (w2.alloc (.cells #[.string s] 9)) w1.heap.size (w.heap.size + 2) Q (.slice b1 Q.I.length c1) (.slice b2 Q.D.length c2) (.slice b3 Q.A.length c3)) := HQB.out.below (below_alloc _ _)
          have O2 : Hid (objU (w2.alloc (.cells #[.string s] 9)) w2.heap.size 9 (encS s)) := objU.new _ _ _
          have OZ2' : Hid (objU (w2.alloc (.cells #[.string s] 9)) (w.heap.size + 1) 66 [.slice none 0 0, .slice none 0 0, .slice none 0 0, .int .i64 0]) := OZ2.out.old _
          have y2 := OB2.out.cell 2 _ rfl
          go_wp2_with (first | (go_at_call 65; refine (HNM.out _).mono ?_; clear HNM; rintro e w' ⟨rfl, hw⟩; obtain rfl : w2 = w' := hw.symm) | (go_at_call 93; refine HFD.out.mono ?_; clear HFD; rintro e w' ⟨rfl, hw⟩; obtain rfl : w2 = w' := hw.symm) | (go_at_call 60; refine HAM.out.mono ?_; clear HAM; rintro e w' ⟨rfl, hw⟩; obtain rfl : w2 = w' := hw.symm) | (at_builtin; refine wpList_append_rd rfl _ _ 32 rfl 9 1 HES.out (by decide) (w.heap.size + 2) _ _ rfl H2.out.q.a _ _ rfl (rdR.one O2.out) (rowsS [s]) (oneS [s]) (by simp; omega) (by have := H2.out.lt; omega) ?_))
          intro v3 w3 ho3 hg3 ha3
          rw [show (Q.A.map encS) ++ [encS s] = (Q.A ++ [s]).map encS by simp] at ho3
          have HQ3 : Hid (QB (w3.setCell ⟨w1.heap.size, 2, none⟩ v3) w1.heap.size (w.heap.size + 2) { Q with A := Q.A ++ [s] } (.slice b1 Q.I.length c1) (.slice b2 Q.D.length c2) v3) := H2.out.appA ho3 hg3 (by simpa using ha3)
          have HB3 : Hid (Below w.heap.size w (w3.setCell ⟨w1.heap.size, 2, none⟩ v3)) := B2.out.trans (((below_alloc _ _).mono B2.out.size).trans ((H2.out.grown H2.out.q.a hg3 (by omega) 2).mono (by omega)))
          have OB3 := hide (H2.out.o.outS (grown_outS hg3) H2.out.na)
          have OZ3 : Hid (objU w3 (w.heap.size + 1) 66 [.slice none 0 0, .slice none 0 0, .slice none 0 0, .int .i64 0]) := OZ2'.out.outS (grown_outS hg3) (fun hh => by have := H2.out.q.a.lt _ hh; omega)
          obtain ⟨a3, n3, p3, rfl⟩ : ∃ a n p, v3 = .slice a n p := by obtain ⟨a, p, e⟩ := ho3.stS; exact ⟨_, _, _, e⟩
          clear ho3 hg3 ha3 y2 H2 O2 OZ2'
          have z0 := OZ3.out.cell 0 _ rfl
          have z1 := OZ3.out.cell 1 _ rfl
          have z2 := OZ3.out.cell 2 _ rfl
          have z3 := OZ3.out.cell 3 _ rfl
          have g0 := OZ3.out.fz 0
          have g1 := OZ3.out.fz 1
          have g2 := OZ3.out.fz 2
          have g3 := OZ3.out.fz 3
          have u0 := OB3.out.cell 0 _ rfl
          have u1 := OB3.out.cell 1 _ rfl
          have u2 := OB3.out.cell 2 _ rfl
          have u3 := OB3.out.cell 3 _ rfl
          have fu2 := OB3.out.fz 2
          have HOU : Hid (OutS [w.heap.size + 1] (w3.setCell ⟨w1.heap.size, 2, none⟩ (.slice a3 n3 p3)) (((((w3.setCell ⟨w1.heap.size, 2, none⟩ (.slice a3 n3 p3)).setCell ⟨w.heap.size + 1, 0, none⟩ (.slice b1 Q.I.length c1)).setCell ⟨w.heap.size + 1, 1, none⟩ (.slice b2 Q.D.length c2)).setCell ⟨w.heap.size + 1, 2, none⟩ (.slice a3 n3 p3)).setCell ⟨w.heap.size + 1, 3, none⟩ (.int .i64 Q.now))) := by
            show OutS _ _ _
            repeat (first | with_reducible exact OutS.refl _ _ | with_reducible refine OutS.setCell ?_ (show _ ∈ [w.heap.size + 1] by simp) _)
          go_wp2
          refine bodyPost_ret (v := .tuple #[.agg #[.slice b1 Q.I.length c1, .slice b2 Q.D.length c2, .slice a3 n3 p3, .int .i64 Q.now], .bool true]) ?_ rfl ⟨_, _, _, by rw [HR.out], by rw [HR.out]; exact QO.mono (HQ3.out.q.outS HOU.out (fun t ht => by simp at ht; omega)) (by omega), HB3.out.trans (HOU.out.below (fun t ht => by simp at ht; omega) HB3.out.size)⟩
          simp [results, Try.results34, go_sem, z0, z1, z2, z3]
      · have hp : plcI Q.D s = -1 := if_neg hD
        rw [hp] at HFD
        clear hp HAM
        by_cases hI : fndI Q.I s < Q.I.length
        · have hp : plcI Q.I s = (fndI Q.I s : Int) := if_pos hI
          rw [hp] at HFI
          have Hput : Hid (putC Q s = ({ Q with I := Q.I.set (fndI Q.I s) ((Q.I[fndI Q.I s]).1, min (Q.I[fndI Q.I s]).2.1 Q.now, (Q.I[fndI Q.I s]).2.2) }, true)) := by show _ = _; unfold putC; rw [if_neg hD, dif_pos hI]
          generalize fndI Q.I s = k at *
          have hk0 : (0 : Int) ≤ (k : Int) := Int.natCast_nonneg _
          have hki : (k : Int) < (Q.I.length : Int) := by omega
          have hr : Hid ((Q.I.map encI)[k]? = some (encI Q.I[k])) := by show _ = _; rw [List.getElem?_map, List.getElem?_eq_getElem hI]; rfl
          obtain ⟨g, pI', eI, hbg, hgl, hcp, -, hcell, hfz⟩ := HQB.out.q.i.opened (by rw [List.length_map]; omega)
          rw [List.length_map] at eI hcp
          cases eI
          have hgb : g ∈ blkOf (.slice (some ⟨g, 0, none⟩) Q.I.length c1) := by simp [blkOf, Value.ownBlock]
          have hng : ¬ g = w1.heap.size := fun e => HQB.out.ni (e ▸ hgb)
          have hng1 : ¬ g = w.heap.size + 1 := by omega
          have hng2 : ¬ g = w.heap.size := by omega
          have hng3 : ¬ w1.heap.size = g := fun e => hng e.symm
          have hng4 : ¬ w.heap.size + 1 = g := by omega
          have k1 : w2.cell? ⟨g, k * 3 + 1, none⟩ = some (.int .i64 (Q.I[k]).2.1) := hcell k _ 1 _ hr.out rfl
          have kf := hfz (k * 3 + 1)
          have y0 := OB2.out.cell 0 _ rfl
          clear hcell hfz hp hgb
          obtain ⟨rd, hrd⟩ : ∃ rd, (Q.I[k]).2.1 = rd := ⟨_, rfl⟩
          rw [hrd] at k1
          have HRD := hide hrd
          clear hrd
          by_cases hgt : rd > Q.now
          · have HR : Hid (putQ Q s = ({ Q with I := Q.I.set k ((Q.I[k]).1, Q.now, (Q.I[k]).2.2) }, true)) := by
              show _ = _
              rw [HP.out, Hput.out, HRD.out, Int.min_eq_right (by omega)]
            clear Hput HP
            go_wp2_with (first | (go_at_call 65; refine (HNM.out _).mono ?_; clear HNM; rintro e w' ⟨rfl, hw⟩; obtain rfl : w2 = w' := hw.symm) | (go_at_call 93; refine HFD.out.mono ?_; clear HFD; rintro e w' ⟨rfl, hw⟩; obtain rfl : w2 = w' := hw.symm) | (go_at_call 93; refine HFI.out.mono ?_; clear HFI; rintro e w' ⟨rfl, hw⟩; obtain rfl : w2 = w' := hw.symm))
            go_quiet (fail)
            have HQ3 : Hid (QB ((w2.drewN nq).setCell ⟨g, k * 3 + 1, none⟩ (.int .i64 Q.now)) w1.heap.size (w.heap.size + 2) { Q with I := Q.I.set k ((Q.I[k]).1, Q.now, (Q.I[k]).2.2) } (.slice (some ⟨g, 0, none⟩) Q.I.length c1) (.slice b2 Q.D.length c2) (.slice b3 Q.A.length c3)) := (HQB.out.drewN nq).setI hI Q.now
            have HB3 : Hid (Below w.heap.size w ((w2.drewN nq).setCell ⟨g, k * 3 + 1, none⟩ (.int .i64 Q.now))) := (below_drewN B2.out nq).setCell (p := ⟨g, k * 3 + 1, none⟩) (by show _ ≤ g; omega) _
            have z0 := OZ2.out.cell 0 _ rfl
            have z1 := OZ2.out.cell 1 _ rfl
            have z2 := OZ2.out.cell 2 _ rfl
            have z3 := OZ2.out.cell 3 _ rfl
            have g0 := OZ2.out.fz 0
            have g1 := OZ2.out.fz 1
            have g2 := OZ2.out.fz 2
            have g3 := OZ2.out.fz 3
            have u0 := OB2.out.cell 0 _ rfl
            have u1 := OB2.out.cell 1 _ rfl
            have u2 := OB2.out.cell 2 _ rfl
            have u3 := OB2.out.cell 3 _ rfl
            have HOU : Hid (OutS [w.heap.size + 1] ((w2.drewN nq).setCell ⟨g, k * 3 + 1, none⟩ (.int .i64 Q.now)) ((((((w2.drewN nq).setCell ⟨g, k * 3 + 1, none⟩ (.int .i64 Q.now)).setCell ⟨w.heap.size + 1, 0, none⟩ (.slice (some ⟨g, 0, none⟩) Q.I.length c1)).setCell ⟨w.heap.size + 1, 1, none⟩ (.slice b2 Q.D.length c2)).setCell ⟨w.heap.size + 1, 2, none⟩ (.slice b3 Q.A.length c3)).setCell ⟨w.heap.size + 1, 3, none⟩ (.int .i64 Q.now))) := by
              show OutS _ _ _
              repeat (first | with_reducible exact OutS.refl _ _ | with_reducible refine OutS.setCell ?_ (show _ ∈ [w.heap.size + 1] by simp) _)
            go_wp2
            refine bodyPost_ret (v := .tuple #[.agg #[.slice (some ⟨g, 0, none⟩) Q.I.length c1, .slice b2 Q.D.length c2, .slice b3 Q.A.length c3, .int .i64 Q.now], .bool true]) ?_ rfl ⟨_, _, _, by rw [HR.out], by rw [HR.out]; exact QO.mono (HQ3.out.q.outS HOU.out (fun t ht => by simp at ht; omega)) (by omega), HB3.out.trans (HOU.out.below (fun t ht => by simp at ht; omega) HB3.out.size)⟩
            simp [results, Try.results34, go_sem, z0, z1, z2, z3]
          · have HR : Hid (putQ Q s = (Q, true)) := by
              show _ = _
              rw [HP.out, Hput.out, HRD.out, Int.min_eq_left (by omega), ← HRD.out, setI_same hI]
            clear Hput HP
            go_wp2_with (first | (go_at_call 65; refine (HNM.out _).mono ?_; clear HNM; rintro e w' ⟨rfl, hw⟩; obtain rfl : w2 = w' := hw.symm) | (go_at_call 93; refine HFD.out.mono ?_; clear HFD; rintro e w' ⟨rfl, hw⟩; obtain rfl : w2 = w' := hw.symm) | (go_at_call 93; refine HFI.out.mono ?_; clear HFI; rintro e w' ⟨rfl, hw⟩; obtain rfl : w2 = w' := hw.symm))
            go_quiet (fail)
            have HQ3 := hide (HQB.out.drewN nq)
            have HB3 := hide (below_drewN B2.out nq)
            have z0 := OZ2.out.cell 0 _ rfl
            have z1 := OZ2.out.cell 1 _ rfl
            have z2 := OZ2.out.cell 2 _ rfl
            have z3 := OZ2.out.cell 3 _ rfl
            have g0 := OZ2.out.fz 0
            have g1 := OZ2.out.fz 1
            have g2 := OZ2.out.fz 2
            have g3 := OZ2.out.fz 3
            have u0 := OB2.out.cell 0 _ rfl
            have u1 := OB2.out.cell 1 _ rfl
            have u2 := OB2.out.cell 2 _ rfl
            have u3 := OB2.out.cell 3 _ rfl
            have HOU : Hid (OutS [w.heap.size + 1] (w2.drewN nq) (((((w2.drewN nq).setCell ⟨w.heap.size + 1, 0, none⟩ (.slice (some ⟨g, 0, none⟩) Q.I.length c1)).setCell ⟨w.heap.size + 1, 1, none⟩ (.slice b2 Q.D.length c2)).setCell ⟨w.heap.size + 1, 2, none⟩ (.slice b3 Q.A.length c3)).setCell ⟨w.heap.size + 1, 3, none⟩ (.int .i64 Q.now))) := by
              show OutS _ _ _
              repeat (first | with_reducible exact OutS.refl _ _ | with_reducible refine OutS.setCell ?_ (show _ ∈ [w.heap.size + 1] by simp) _)
            go_wp2
            refine bodyPost_ret (v := .tuple #[.agg #[.slice (some ⟨g, 0, none⟩) Q.I.length c1, .slice b2 Q.D.length c2, .slice b3 Q.A.length c3, .int .i64 Q.now], .bool true]) ?_ rfl ⟨_, _, _, by rw [HR.out], by rw [HR.out]; exact QO.mono (HQ3.out.q.outS HOU.out (fun t ht => by simp at ht; omega)) (by omega), HB3.out.trans (HOU.out.below (fun t ht => by simp at ht; omega) HB3.out.size)⟩
            simp [results, Try.results34, go_sem, z0, z1, z2, z3]
        · have hp : plcI Q.I s = -1 := if_neg hI
          rw [hp] at HFI
          clear hp
          by_cases h60 : Q.I.length = 60
          · have HR : Hid (putQ Q s = (Q, false)) := by show _ = _; rw [HP.out]; unfold putC; rw [if_neg hD, dif_neg hI, if_pos h60]
            have hi60 : ((Q.I.length : Int) == 60) = true := by rw [beq_iff_eq]; omega
            clear HP h60
            have z0 := OZ2.out.cell 0 _ rfl
            have z1 := OZ2.out.cell 1 _ rfl
            have z2 := OZ2.out.cell 2 _ rfl
            have z3 := OZ2.out.cell 3 _ rfl
            have g0 := OZ2.out.fz 0
            have g1 := OZ2.out.fz 1
            have g2 := OZ2.out.fz 2
            have g3 := OZ2.out.fz 3
            have u0 := OB2.out.cell 0 _ rfl
            have u1 := OB2.out.cell 1 _ rfl
            have u2 := OB2.out.cell 2 _ rfl
            have u3 := OB2.out.cell 3 _ rfl
            go_wp2_with (first | (go_at_call 65; refine (HNM.out _).mono ?_; clear HNM; rintro e w' ⟨rfl, hw⟩; obtain rfl : w2 = w' := hw.symm) | (go_at_call 93; refine HFD.out.mono ?_; clear HFD; rintro e w' ⟨rfl, hw⟩; obtain rfl : w2 = w' := hw.symm) | (go_at_call 93; refine HFI.out.mono ?_; clear HFI; rintro e w' ⟨rfl, hw⟩; obtain rfl : w2 = w' := hw.symm))
            have HOU : Hid (OutS [w.heap.size + 1] w2 ((((w2.setCell ⟨w.heap.size + 1, 0, none⟩ (.slice b1 Q.I.length c1)).setCell ⟨w.heap.size + 1, 1, none⟩ (.slice b2 Q.D.length c2)).setCell ⟨w.heap.size + 1, 2, none⟩ (.slice b3 Q.A.length c3)).setCell ⟨w.heap.size + 1, 3, none⟩ (.int .i64 Q.now))) := by
              show OutS _ _ _
              repeat (first | with_reducible exact OutS.refl _ _ | with_reducible refine OutS.setCell ?_ (show _ ∈ [w.heap.size + 1] by simp) _)
            refine bodyPost_ret (v := .tuple #[.agg #[.slice b1 Q.I.length c1, .slice b2 Q.D.length c2, .slice b3 Q.A.length c3, .int .i64 Q.now], .bool false]) ?_ rfl ⟨_, _, _, by rw [HR.out], by rw [HR.out]; exact QO.mono (HQB.out.q.outS HOU.out (fun t ht => by simp at ht; omega)) (by omega), B2.out.trans (HOU.out.below (fun t ht => by simp at ht; omega) B2.out.size)⟩
            simp [results, Try.results34, go_sem, z0, z1, z2, z3]
          · have HR : Hid (putQ Q s = ({ Q with I := Q.I ++ [(s, Q.now, 0)] }, true)) := by show _ = _; rw [HP.out]; unfold putC; rw [if_neg hD, dif_neg hI, if_neg h60]
            have hi60 : ((Q.I.length : Int) == 60) = false := by rw [beq_eq_false_iff_ne]; omega
            clear HP
            have H2 : Hid (QB (w2.alloc (.cells #[.string s, .int .i64 Q.now, .int .i64 0] 75)) w1.heap.size (w.heap.size + 2) Q (.slice b1 Q.I.length c1) (.slice b2 Q.D.length c2) (.slice b3 Q.A.length c3)) := HQB.out.below (below_alloc _ _)
            have O2 : Hid (objU (w2.alloc (.cells #[.string s, .int .i64 Q.now, .int .i64 0] 75)) w2.heap.size 75 (encI (s, Q.now, 0))) := objU.new _ _ _
            have OZ2' : Hid (objU (w2.alloc (.cells #[.string s, .int .i64 Q.now, .int .i64 0] 75)) (w.heap.size + 1) 66 [.slice none 0 0, .slice none 0 0, .slice none 0 0, .int .i64 0]) := OZ2.out.old _
            have y0 := OB2.out.cell 0 _ rfl
            go_wp2_with (first | (go_at_call 65; refine (HNM.out _).mono ?_; clear HNM; rintro e w' ⟨rfl, hw⟩; obtain rfl : w2 = w' := hw.symm) | (go_at_call 93; refine HFD.out.mono ?_; clear HFD; rintro e w' ⟨rfl, hw⟩; obtain rfl : w2 = w' := hw.symm) | (go_at_call 93; refine HFI.out.mono ?_; clear HFI; rintro e w' ⟨rfl, hw⟩; obtain rfl : w2 = w' := hw.symm) | (at_builtin; refine wpList_append_rd rfl _ _ 64 rfl 75 3 HEI.out (by decide) (w.heap.size + 2) _ _ rfl H2.out.q.i _ _ rfl (rdR.one O2.out) (rowsI [(s, Q.now, 0)]) (oneI [(s, Q.now, 0)]) (by simp; omega) (by have := H2.out.lt; omega) ?_))
            intro v3 w3 ho3 hg3 ha3
            rw [show (Q.I.map encI) ++ [encI (s, Q.now, 0)] = (Q.I ++ [(s, Q.now, 0)]).map encI by simp] at ho3
            have HQ3 : Hid (QB (w3.setCell ⟨w1.heap.size, 0, none⟩ v3) w1.heap.size (w.heap.size + 2) { Q with I := Q.I ++ [(s, Q.now, 0)] } v3 (.slice b2 Q.D.length c2) (.slice b3 Q.A.length c3)) := H2.out.appI ho3 hg3 (by simpa using ha3)
            have HB3 : Hid (Below w.heap.size w (w3.setCell ⟨w1.heap.size, 0, none⟩ v3)) := B2.out.trans (((below_alloc _ _).mono B2.out.size).trans ((H2.out.grown H2.out.q.i hg3 (by omega) 0).mono (by omega)))
            have OB3 := hide (H2.out.o.outS (grown_outS hg3) H2.out.ni)
            have OZ3 : Hid (objU w3 (w.heap.size + 1) 66 [.slice none 0 0, .slice none 0 0, .slice none 0 0, .int .i64 0]) := OZ2'.out.outS (grown_outS hg3) (fun hh => by have := H2.out.q.i.lt _ hh; omega)
            obtain ⟨a3, n3, p3, rfl⟩ : ∃ a n p, v3 = .slice a n p := by obtain ⟨a, p, e⟩ := ho3.itS; exact ⟨_, _, _, e⟩
            clear ho3 hg3 ha3 y0 H2 O2 OZ2'
            have z0 := OZ3.out.cell 0 _ rfl
            have z1 := OZ3.out.cell 1 _ rfl
            have z2 := OZ3.out.cell 2 _ rfl
            have z3 := OZ3.out.cell 3 _ rfl
            have g0 := OZ3.out.fz 0
            have g1 := OZ3.out.fz 1
            have g2 := OZ3.out.fz 2
            have g3 := OZ3.out.fz 3
            have u0 := OB3.out.cell 0 _ rfl
            have u1 := OB3.out.cell 1 _ rfl
            have u2 := OB3.out.cell 2 _ rfl
            have u3 := OB3.out.cell 3 _ rfl
            have fu0 := OB3.out.fz 0
            have HOU : Hid (OutS [w.heap.size + 1] (w3.setCell ⟨w1.heap.size, 0, none⟩ (.slice a3 n3 p3)) (((((w3.setCell ⟨w1.heap.size, 0, none⟩ (.slice a3 n3 p3)).setCell ⟨w.heap.size + 1, 0, none⟩ (.slice a3 n3 p3)).setCell ⟨w.heap.size + 1, 1, none⟩ (.slice b2 Q.D.length c2)).setCell ⟨w.heap.size + 1, 2, none⟩ (.slice b3 Q.A.length c3)).setCell ⟨w.heap.size + 1, 3, none⟩ (.int .i64 Q.now))) := by
              show OutS _ _ _
              repeat (first | with_reducible exact OutS.refl _ _ | with_reducible refine OutS.setCell ?_ (show _ ∈ [w.heap.size + 1] by simp) _)
            go_wp2
            refine bodyPost_ret (v := .tuple #[.agg #[.slice a3 n3 p3, .slice b2 Q.D.length c2, .slice b3 Q.A.length c3, .int .i64 Q.now], .bool true]) ?_ rfl ⟨_, _, _, by rw [HR.out], by rw [HR.out]; exact QO.mono (HQ3.out.q.outS HOU.out (fun t ht => by simp at ht; omega)) (by omega), HB3.out.trans (HOU.out.below (fun t ht => by simp at ht; omega) HB3.out.size)⟩
            simp [results, Try.results34, go_sem, z0, z1, z2, z3]
end Go.Proofs.Ytpmhmcekkppbhaa
