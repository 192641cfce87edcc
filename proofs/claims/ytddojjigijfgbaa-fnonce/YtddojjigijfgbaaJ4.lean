/- Texts of one claim, joined: each in its own section, in build order. -/
import Derived.Test.YtddojjigijfgbaaJ3
import Derived.Test.YtddojjigijfgbaaJ2
import Derived.Deep.RegionLaw
import Derived.Deep.LoopGhost
import Derived.Shelf.RegionOpenPlain
import Derived.Deep.QuietTactic
/- Queues: the specification's Put. -/
namespace Go.Proofs.Ytddojjigijfgbaa
open Go.RowKit Go.BigFrame
set_option linter.unusedVariables false

theorem setI_same {L : List It} {k : Nat} (h : k < L.length) : L.set k ((L[k]).1, (L[k]).2.1, (L[k]).2.2) = L := by
  have : ((L[k]).1, (L[k]).2.1, (L[k]).2.2) = L[k] := rfl
  rw [this, List.set_getElem_self]
theorem QB.drewN {w : World} {b base : Nat} {Q : Qu} {vI vD vA : Value} (h : QB w b base Q vI vD vA) (n : Nat) : QB (w.drewN n) b base Q vI vD vA := h.below (below_drewN (Below.refl _ _) n)
set_option maxRecDepth 20000 in
set_option maxHeartbeats 3200000 in
theorem sPut_any (Q : Qu) (s : ByteArray) (xs : List Value) (w : World) (hq : okQ Q) (hs : s.size ≤ maxLen) (hx : rdQ w Q xs) :
    Calls Try.prog 7 #[.agg xs.toArray, .string s] w fun e w' => ∃ vI vD vA, e = .returned (.tuple #[.agg #[vI, vD, vA, .int .i64 (putQ Q s).1.now], .bool (putQ Q s).2]) ∧ ownQ w' w.heap.size (putQ Q s).1 vI vD vA ∧ Below w.heap.size w w' := by
  have hxx := hx
  obtain ⟨cI, cD, cA, rfl, hI, hD, hA⟩ := hx
  have l1 := hq.1.1
  have l2 := hq.2.1.1
  have l3 := hq.2.2.1.1
  obtain ⟨aI, pI, rfl, -, -⟩ := hI.itS
  obtain ⟨aD, pD, rfl, -, -⟩ := hD.itS
  obtain ⟨aA, pA, rfl, -, -⟩ := hA.stS
  have HX := hide hxx
  have HK := hide hq
  have HI := hide hI
  have HD := hide hD
  have HA := hide hA
  clear hI hD hA hxx hq
  have HCP : Hid (∀ wx, Below w.heap.size w wx → Calls Try.prog 19 #[.agg #[.slice aI Q.I.length pI, .slice aD Q.D.length pD, .slice aA Q.A.length pA, .int .i64 Q.now]] wx fun e w' => ∃ vI vD vA, e = .returned (.agg #[vI, vD, vA, .int .i64 Q.now]) ∧ ownQ w' wx.heap.size Q vI vD vA ∧ Below wx.heap.size wx w') := fun wx hb => l9Copy_N Q _ wx HK.out (HX.out.below hb)
  have HOK : Hid (∀ wx, Below w.heap.size w wx → Calls Try.prog 8 #[.agg #[.slice aI Q.I.length pI, .slice aD Q.D.length pD, .slice aA Q.A.length pA, .int .i64 Q.now]] wx fun e w' => e = .returned (.bool (qOk Q)) ∧ Below wx.heap.size wx w') := fun wx hb => sQueueOk_any Q _ wx HK.out (HX.out.below hb)
  obtain ⟨w0, ew0⟩ : ∃ w0, w0 = ((w.alloc (.cells #[.slice aI Q.I.length pI, .slice aD Q.D.length pD, .slice aA Q.A.length pA, .int .i64 Q.now] 27)).alloc (.cells #[.slice none 0 0, .slice none 0 0, .slice none 0 0, .int .i64 0] 27)) := ⟨_, rfl⟩
  have BX : Hid (Below w.heap.size w w0) := by show Below _ _ _; rw [ew0]; exact ((Below.refl _ _).alloc (Nat.le_refl _) _).alloc (by simp) _
  have OX : Hid (objU w0 w.heap.size 27 [.slice aI Q.I.length pI, .slice aD Q.D.length pD, .slice aA Q.A.length pA, .int .i64 Q.now]) := by show objU _ _ _ _; rw [ew0]; exact (objU.new _ _ _).old _
  have OZ : Hid (objU w0 (w.heap.size + 1) 27 [.slice none 0 0, .slice none 0 0, .slice none 0 0, .int .i64 0]) := by show objU _ _ _ _; rw [ew0]; exact objU.new2 _ _ (by simp)
  have SZ : Hid (w0.heap.size = w.heap.size + 2) := by show _ = _; rw [ew0]; simp
  have EW := hide ew0
  clear ew0
  go_enter Try.func7, Try.ntmps7
  go_wp2_with fail
  refine (HCP.out _ (EW.out ▸ BX.out)).mono ?_
  rintro e w1 ⟨vI, vD, vA, rfl, ho, hb⟩
  replace ho : ownQ w1 (w.heap.size + 2) Q vI vD vA := by have h := ho; rw [← SZ.out, EW.out]; exact h
  replace hb : Below w0.heap.size w0 w1 := by have h := hb; rw [EW.out]; exact h
  have HO := hide ho
  have OX1 := hide (OX.out.below hb)
  have OZ1 := hide (OZ.out.below hb)
  have B1 : Hid (Below w.heap.size w w1) := BX.out.trans (hb.mono BX.out.size)
  have S1 : Hid (w.heap.size + 2 ≤ w1.heap.size) := by show _ ≤ _; rw [← SZ.out]; exact hb.size
  obtain ⟨b1, c1, rfl⟩ := ho.i.itS
  obtain ⟨b2, c2, rfl⟩ := ho.d.itS
  obtain ⟨b3, c3, rfl⟩ := ho.a.stS
  have x0 := OX1.out.cell 0 _ rfl
  have x1 := OX1.out.cell 1 _ rfl
  have x2 := OX1.out.cell 2 _ rfl
  have x3 := OX1.out.cell 3 _ rfl
  have hBl := OX1.out.lt
  clear ho hb OX OZ BX SZ EW HCP
  have HX1 : Hid (Below w.heap.size w (w1.alloc (.cells #[.slice b1 Q.I.length c1, .slice b2 Q.D.length c2, .slice b3 Q.A.length c3, .int .i64 Q.now] 27))) := B1.out.alloc B1.out.size _
  have HRn : Hid (qOk Q = false → putQ Q s = (Q, false)) := fun h => if_neg (fun g => by rw [h] at g; cases g.1)
  have HRm : Hid (nameB s = false → putQ Q s = (Q, false)) := fun h => if_neg (fun g => by rw [h] at g; cases g.2)
  have HRy : Hid (qOk Q = true → nameB s = true → putQ Q s = putC Q s) := fun a b => if_pos ⟨a, b⟩
  have HNM := hide (fun wx => sname_any s wx hs)
  generalize qOk Q = ok at *
  generalize nameB s = nb at *
  go_wp2_with fail
  refine (HOK.out _ HX1.out).mono ?_
  rintro e w2 ⟨rfl, hb2⟩
  have OX2 := hide ((OX1.out.old _).below hb2)
  have OZ2 := hide ((OZ1.out.old _).below hb2)
  have OB2 : Hid (objU w2 w1.heap.size 27 [.slice b1 Q.I.length c1, .slice b2 Q.D.length c2, .slice b3 Q.A.length c3, .int .i64 Q.now]) := (objU.new _ _ _).below hb2
  have B2 : Hid (Below w.heap.size w w2) := HX1.out.trans (hb2.mono HX1.out.size)
  have OU2 : Hid (OutS [w.heap.size, w.heap.size + 1] w1 w2) := (OutS.of_below (below_alloc _ _)).trans (OutS.of_below hb2)
  have hn1 : ¬ (w1.heap.size = w.heap.size + 1) := by have := S1.out; omega
  have hn2 : ¬ (w1.heap.size = w.heap.size) := by have := S1.out; omega
  have hn3 : ¬ (w.heap.size + 1 = w1.heap.size) := by have := S1.out; omega
  have hn4 : ¬ (w.heap.size = w1.heap.size) := by have := S1.out; omega
  clear hb2 x0 x1 x2 x3 hBl HX1
  have HQB : Hid (QB w2 w1.heap.size (w.heap.size + 2) Q (.slice b1 Q.I.length c1) (.slice b2 Q.D.length c2) (.slice b3 Q.A.length c3)) := ⟨OB2.out, (HO.out.outS OU2.out (fun t ht => by simp at ht; omega)), (fun h => by have := (HO.out.i.lt _ h).2; omega), (fun h => by have := (HO.out.d.lt _ h).2; omega), (fun h => by have := (HO.out.a.lt _ h).2; omega)⟩
  have hS1 := S1.out
  have x0 := OX2.out.cell 0 _ rfl
  have x1 := OX2.out.cell 1 _ rfl
  have x2 := OX2.out.cell 2 _ rfl
  have x3 := OX2.out.cell 3 _ rfl
  have HFD := hide (l9Find_any Q.D s (.slice aD Q.D.length pD) w2 (HD.out.below B2.out) (by omega))
  have HFI := hide (l9Find_any Q.I s (.slice aI Q.I.length pI) w2 (HI.out.below B2.out) (by omega))
  have HAM := hide (l2AmongQ_any Q.A s (.slice aA Q.A.length pA) w2 (HA.out.below B2.out) (by omega))
  have HEI := hide elI
  have HES := hide elS
  cases ok with
  | false =>
    have HR := hide (HRn.out (by first | rfl | trivial))
    clear HRn HRm HRy HNM HOK
    have u0 := HQB.out.o.cell 0 _ rfl
    have u1 := HQB.out.o.cell 1 _ rfl
    have u2 := HQB.out.o.cell 2 _ rfl
    have u3 := HQB.out.o.cell 3 _ rfl
    have z0 := OZ2.out.cell 0 _ rfl
    have z1 := OZ2.out.cell 1 _ rfl
    have z2 := OZ2.out.cell 2 _ rfl
    have z3 := OZ2.out.cell 3 _ rfl
    have g0 := OZ2.out.fz 0
    have g1 := OZ2.out.fz 1
    have g2 := OZ2.out.fz 2
    have g3 := OZ2.out.fz 3
    have HOU : Hid (OutS [w.heap.size + 1] w2 ((((w2.setCell ⟨w.heap.size + 1, 0, none⟩ (.slice b1 Q.I.length c1)).setCell ⟨w.heap.size + 1, 1, none⟩ (.slice b2 Q.D.length c2)).setCell ⟨w.heap.size + 1, 2, none⟩ (.slice b3 Q.A.length c3)).setCell ⟨w.heap.size + 1, 3, none⟩ (.int .i64 Q.now))) := by
      show OutS _ _ _
      repeat (first | with_reducible exact OutS.refl _ _ | with_reducible refine OutS.setCell ?_ (show _ ∈ [w.heap.size + 1] by simp) _)
    go_wp2
    refine bodyPost_ret (v := .tuple #[.agg #[.slice b1 Q.I.length c1, .slice b2 Q.D.length c2, .slice b3 Q.A.length c3, .int .i64 Q.now], .bool false]) ?_ rfl ⟨_, _, _, by rw [HR.out], by rw [HR.out]; exact QO.mono (HQB.out.q.outS HOU.out (fun t ht => by simp at ht; omega)) (by omega), B2.out.trans (HOU.out.below (fun t ht => by simp at ht; omega) B2.out.size)⟩
    simp [results, Try.results7, go_sem, z0, z1, z2, z3]
  | true =>
    cases nb with
    | false =>
      have HR := hide (HRm.out (by first | rfl | trivial))
      clear HRn HRm HRy HOK
      go_wp2_with (go_at_call 20; refine (HNM.out _).mono ?_; clear HNM; rintro e w' ⟨rfl, hw⟩; obtain rfl : w2 = w' := hw.symm; have u0 := OB2.out.cell 0 _ rfl; have u1 := OB2.out.cell 1 _ rfl; have u2 := OB2.out.cell 2 _ rfl; have u3 := OB2.out.cell 3 _ rfl; have z0 := OZ2.out.cell 0 _ rfl; have z1 := OZ2.out.cell 1 _ rfl; have z2 := OZ2.out.cell 2 _ rfl; have z3 := OZ2.out.cell 3 _ rfl; have g0 := OZ2.out.fz 0; have g1 := OZ2.out.fz 1; have g2 := OZ2.out.fz 2; have g3 := OZ2.out.fz 3)
      have HOU : Hid (OutS [w.heap.size + 1] w2 ((((w2.setCell ⟨w.heap.size + 1, 0, none⟩ (.slice b1 Q.I.length c1)).setCell ⟨w.heap.size + 1, 1, none⟩ (.slice b2 Q.D.length c2)).setCell ⟨w.heap.size + 1, 2, none⟩ (.slice b3 Q.A.length c3)).setCell ⟨w.heap.size + 1, 3, none⟩ (.int .i64 Q.now))) := by
        show OutS _ _ _
        repeat (first | with_reducible exact OutS.refl _ _ | with_reducible refine OutS.setCell ?_ (show _ ∈ [w.heap.size + 1] by simp) _)
      refine bodyPost_ret (v := .tuple #[.agg #[.slice b1 Q.I.length c1, .slice b2 Q.D.length c2, .slice b3 Q.A.length c3, .int .i64 Q.now], .bool false]) ?_ rfl ⟨_, _, _, by rw [HR.out], by rw [HR.out]; exact QO.mono (HQB.out.q.outS HOU.out (fun t ht => by simp at ht; omega)) (by omega), B2.out.trans (HOU.out.below (fun t ht => by simp at ht; omega) B2.out.size)⟩
      simp [results, Try.results7, go_sem, z0, z1, z2, z3]
    | true =>
      have HP := hide (HRy.out (by first | rfl | trivial) (by first | rfl | trivial))
      clear HRn HRm HRy HOK
      by_cases hD : fndI Q.D s < Q.D.length
      · have hp : plcI Q.D s = (fndI Q.D s : Int) := if_pos hD
        rw [hp] at HFD
        have Hput : Hid (putC Q s = (if inA Q.A s = true then Q else { Q with A := Q.A ++ [s] }, true)) := if_pos hD
        generalize fndI Q.D s = kd at *
        have hk0 : (0 : Int) ≤ (kd : Int) := Int.natCast_nonneg _
        clear hp HFI
        cases hA : inA Q.A s with
        | true =>
          rw [hA] at HAM
          have HR : Hid (putQ Q s = (Q, true)) := by show _ = _; rw [HP.out, Hput.out, hA]; rfl
          clear Hput hA HP
          have z0 := OZ2.out.cell 0 _ rfl
          have z1 := OZ2.out.cell 1 _ rfl
          have z2 := OZ2.out.cell 2 _ rfl
          have z3 := OZ2.out.cell 3 _ rfl
          have g0 := OZ2.out.fz 0
          have g1 := OZ2.out.fz 1
          have g2 := OZ2.out.fz 2
          have g3 := OZ2.out.fz 3
          have u0 := OB2.out.cell 0 _ rfl
          have u1 := OB2.out.cell 1 _ rfl
          have u2 := OB2.out.cell 2 _ rfl
          have u3 := OB2.out.cell 3 _ rfl
          go_wp2_with (first | (go_at_call 20; refine (HNM.out _).mono ?_; clear HNM; rintro e w' ⟨rfl, hw⟩; obtain rfl : w2 = w' := hw.symm) | (go_at_call 21; refine HFD.out.mono ?_; clear HFD; rintro e w' ⟨rfl, hw⟩; obtain rfl : w2 = w' := hw.symm) | (go_at_call 22; refine HAM.out.mono ?_; clear HAM; rintro e w' ⟨rfl, hw⟩; obtain rfl : w2 = w' := hw.symm))
          have HOU : Hid (OutS [w.heap.size + 1] w2 ((((w2.setCell ⟨w.heap.size + 1, 0, none⟩ (.slice b1 Q.I.length c1)).setCell ⟨w.heap.size + 1, 1, none⟩ (.slice b2 Q.D.length c2)).setCell ⟨w.heap.size + 1, 2, none⟩ (.slice b3 Q.A.length c3)).setCell ⟨w.heap.size + 1, 3, none⟩ (.int .i64 Q.now))) := by
            show OutS _ _ _
            repeat (first | with_reducible exact OutS.refl _ _ | with_reducible refine OutS.setCell ?_ (show _ ∈ [w.heap.size + 1] by simp) _)
          refine bodyPost_ret (v := .tuple #[.agg #[.slice b1 Q.I.length c1, .slice b2 Q.D.length c2, .slice b3 Q.A.length c3, .int .i64 Q.now], .bool true]) ?_ rfl ⟨_, _, _, by rw [HR.out], by rw [HR.out]; exact QO.mono (HQB.out.q.outS HOU.out (fun t ht => by simp at ht; omega)) (by omega), B2.out.trans (HOU.out.below (fun t ht => by simp at ht; omega) B2.out.size)⟩
          simp [results, Try.results7, go_sem, z0, z1, z2, z3]
        | false =>
          rw [hA] at HAM
          have HR : Hid (putQ Q s = ({ Q with A := Q.A ++ [s] }, true)) := by show _ = _; rw [HP.out, Hput.out, hA]; rfl
          clear Hput hA HP
          have H2 : Hid (QB (w2.alloc (.cells #[.string s] 9)) w1.heap.size (w.heap.size + 2) Q (.slice b1 Q.I.length c1) (.slice b2 Q.D.length c2) (.slice b3 Q.A.length c3)) := HQB.out.below (below_alloc _ _)
          have O2 : Hid (objU (w2.alloc (.cells #[.string s] 9)) w2.heap.size 9 (encS s)) := objU.new _ _ _
          have OZ2' : Hid (objU (w2.alloc (.cells #[.string s] 9)) (w.heap.size + 1) 27 [.slice none 0 0, .slice none 0 0, .slice none 0 0, .int .i64 0]) := OZ2.out.old _
          have y2 := OB2.out.cell 2 _ rfl
          go_wp2_with (first | (go_at_call 20; refine (HNM.out _).mono ?_; clear HNM; rintro e w' ⟨rfl, hw⟩; obtain rfl : w2 = w' := hw.symm) | (go_at_call 21; refine HFD.out.mono ?_; clear HFD; rintro e w' ⟨rfl, hw⟩; obtain rfl : w2 = w' := hw.symm) | (go_at_call 22; refine HAM.out.mono ?_; clear HAM; rintro e w' ⟨rfl, hw⟩; obtain rfl : w2 = w' := hw.symm) | (at_builtin; refine wpList_append_rd rfl _ _ 25 rfl 9 1 HES.out (by decide) (w.heap.size + 2) _ _ rfl H2.out.q.a _ _ rfl (rdR.one O2.out) (rowsS [s]) (oneS [s]) (by simp; omega) (by have := H2.out.lt; omega) ?_))
          intro v3 w3 ho3 hg3 ha3
          rw [show (Q.A.map encS) ++ [encS s] = (Q.A ++ [s]).map encS by simp] at ho3
          have HQ3 : Hid (QB (w3.setCell ⟨w1.heap.size, 2, none⟩ v3) w1.heap.size (w.heap.size + 2) { Q with A := Q.A ++ [s] } (.slice b1 Q.I.length c1) (.slice b2 Q.D.length c2) v3) := H2.out.appA ho3 hg3 (by simpa using ha3)
          have HB3 : Hid (Below w.heap.size w (w3.setCell ⟨w1.heap.size, 2, none⟩ v3)) := B2.out.trans (((below_alloc _ _).mono B2.out.size).trans ((H2.out.grown H2.out.q.a hg3 (by omega) 2).mono (by omega)))
          have OB3 := hide (H2.out.o.outS (grown_outS hg3) H2.out.na)
          have OZ3 : Hid (objU w3 (w.heap.size + 1) 27 [.slice none 0 0, .slice none 0 0, .slice none 0 0, .int .i64 0]) := OZ2'.out.outS (grown_outS hg3) (fun hh => by have := H2.out.q.a.lt _ hh; omega)
          obtain ⟨a3, n3, p3, rfl⟩ : ∃ a n p, v3 = .slice a n p := by obtain ⟨a, p, e⟩ := ho3.stS; exact ⟨_, _, _, e⟩
          clear ho3 hg3 ha3 y2 H2 O2 OZ2'
          have z0 := OZ3.out.cell 0 _ rfl
          have z1 := OZ3.out.cell 1 _ rfl
          have z2 := OZ3.out.cell 2 _ rfl
          have z3 := OZ3.out.cell 3 _ rfl
          have g0 := OZ3.out.fz 0
          have g1 := OZ3.out.fz 1
          have g2 := OZ3.out.fz 2
          have g3 := OZ3.out.fz 3
          have u0 := OB3.out.cell 0 _ rfl
          have u1 := OB3.out.cell 1 _ rfl
          have u2 := OB3.out.cell 2 _ rfl
          have u3 := OB3.out.cell 3 _ rfl
          have fu2 := OB3.out.fz 2
          have HOU : Hid (OutS [w.heap.size + 1] (w3.setCell ⟨w1.heap.size, 2, none⟩ (.slice a3 n3 p3)) (((((w3.setCell ⟨w1.heap.size, 2, none⟩ (.slice a3 n3 p3)).setCell ⟨w.heap.size + 1, 0, none⟩ (.slice b1 Q.I.length c1)).setCell ⟨w.heap.size + 1, 1, none⟩ (.slice b2 Q.D.length c2)).setCell ⟨w.heap.size + 1, 2, none⟩ (.slice a3 n3 p3)).setCell ⟨w.heap.size + 1, 3, none⟩ (.int .i64 Q.now))) := by
            show OutS _ _ _
            repeat (first | with_reducible exact OutS.refl _ _ | with_reducible refine OutS.setCell ?_ (show _ ∈ [w.heap.size + 1] by simp) _)
          go_wp2
          refine bodyPost_ret (v := .tuple #[.agg #[.slice b1 Q.I.length c1, .slice b2 Q.D.length c2, .slice a3 n3 p3, .int .i64 Q.now], .bool true]) ?_ rfl ⟨_, _, _, by rw [HR.out], by rw [HR.out]; exact QO.mono (HQ3.out.q.outS HOU.out (fun t ht => by simp at ht; omega)) (by omega), HB3.out.trans (HOU.out.below (fun t ht => by simp at ht; omega) HB3.out.size)⟩
          simp [results, Try.results7, go_sem, z0, z1, z2, z3]
      · have hp : plcI Q.D s = -1 := if_neg hD
        rw [hp] at HFD
        clear hp HAM
        by_cases hI : fndI Q.I s < Q.I.length
        · have hp : plcI Q.I s = (fndI Q.I s : Int) := if_pos hI
          rw [hp] at HFI
          have Hput : Hid (putC Q s = ({ Q with I := Q.I.set (fndI Q.I s) ((Q.I[fndI Q.I s]).1, min (Q.I[fndI Q.I s]).2.1 Q.now, (Q.I[fndI Q.I s]).2.2) }, true)) := by show _ = _; unfold putC; rw [if_neg hD, dif_pos hI]
          generalize fndI Q.I s = k at *
          have hk0 : (0 : Int) ≤ (k : Int) := Int.natCast_nonneg _
          have hki : (k : Int) < (Q.I.length : Int) := by omega
          have hr : Hid ((Q.I.map encI)[k]? = some (encI Q.I[k])) := by show _ = _; rw [List.getElem?_map, List.getElem?_eq_getElem hI]; rfl
          obtain ⟨g, pI', eI, hbg, hgl, hcp, -, hcell, hfz⟩ := HQB.out.q.i.opened (by rw [List.length_map]; omega)
          rw [List.length_map] at eI hcp
          cases eI
          have hgb : g ∈ blkOf (.slice (some ⟨g, 0, none⟩) Q.I.length c1) := by simp [blkOf, Value.ownBlock]
          have hng : ¬ g = w1.heap.size := fun e => HQB.out.ni (e ▸ hgb)
          have hng1 : ¬ g = w.heap.size + 1 := by omega
          have hng2 : ¬ g = w.heap.size := by omega
          have hng3 : ¬ w1.heap.size = g := fun e => hng e.symm
          have hng4 : ¬ w.heap.size + 1 = g := by omega
          have k1 : w2.cell? ⟨g, k * 3 + 1, none⟩ = some (.int .i64 (Q.I[k]).2.1) := hcell k _ 1 _ hr.out rfl
          have kf := hfz (k * 3 + 1)
          have y0 := OB2.out.cell 0 _ rfl
          clear hcell hfz hp hgb
          obtain ⟨rd, hrd⟩ : ∃ rd, (Q.I[k]).2.1 = rd := ⟨_, rfl⟩
          rw [hrd] at k1
          have HRD := hide hrd
          clear hrd
          by_cases hgt : rd > Q.now
          · have HR : Hid (putQ Q s = ({ Q with I := Q.I.set k ((Q.I[k]).1, Q.now, (Q.I[k]).2.2) }, true)) := by
              show _ = _
              rw [HP.out, Hput.out, HRD.out, Int.min_eq_right (by omega)]
            clear Hput HP
            go_wp2_with (first | (go_at_call 20; refine (HNM.out _).mono ?_; clear HNM; rintro e w' ⟨rfl, hw⟩; obtain rfl : w2 = w' := hw.symm) | (go_at_call 21; refine HFD.out.mono ?_; clear HFD; rintro e w' ⟨rfl, hw⟩; obtain rfl : w2 = w' := hw.symm) | (go_at_call 21; refine HFI.out.mono ?_; clear HFI; rintro e w' ⟨rfl, hw⟩; obtain rfl : w2 = w' := hw.symm))
            go_quiet (fail)
            have HQ3 : Hid (QB ((w2.drewN nq).setCell ⟨g, k * 3 + 1, none⟩ (.int .i64 Q.now)) w1.heap.size (w.heap.size + 2) { Q with I := Q.I.set k ((Q.I[k]).1, Q.now, (Q.I[k]).2.2) } (.slice (some ⟨g, 0, none⟩) Q.I.length c1) (.slice b2 Q.D.length c2) (.slice b3 Q.A.length c3)) := (HQB.out.drewN nq).setI hI Q.now
            have HB3 : Hid (Below w.heap.size w ((w2.drewN nq).setCell ⟨g, k * 3 + 1, none⟩ (.int .i64 Q.now))) := (below_drewN B2.out nq).setCell (p := ⟨g, k * 3 + 1, none⟩) (by show _ ≤ g; omega) _
            have z0 := OZ2.out.cell 0 _ rfl
            have z1 := OZ2.out.cell 1 _ rfl
            have z2 := OZ2.out.cell 2 _ rfl
            have z3 := OZ2.out.cell 3 _ rfl
            have g0 := OZ2.out.fz 0
            have g1 := OZ2.out.fz 1
            have g2 := OZ2.out.fz 2
            have g3 := OZ2.out.fz 3
            have u0 := OB2.out.cell 0 _ rfl
            have u1 := OB2.out.cell 1 _ rfl
            have u2 := OB2.out.cell 2 _ rfl
            have u3 := OB2.out.cell 3 _ rfl
            have HOU : Hid (OutS [w.heap.size + 1] ((w2.drewN nq).setCell ⟨g, k * 3 + 1, none⟩ (.int .i64 Q.now)) ((((((w2.drewN nq).setCell ⟨g, k * 3 + 1, none⟩ (.int .i64 Q.now)).setCell ⟨w.heap.size + 1, 0, none⟩ (.slice (some ⟨g, 0, none⟩) Q.I.length c1)).setCell ⟨w.heap.size + 1, 1, none⟩ (.slice b2 Q.D.length c2)).setCell ⟨w.heap.size + 1, 2, none⟩ (.slice b3 Q.A.length c3)).setCell ⟨w.heap.size + 1, 3, none⟩ (.int .i64 Q.now))) := by
              show OutS _ _ _
              repeat (first | with_reducible exact OutS.refl _ _ | with_reducible refine OutS.setCell ?_ (show _ ∈ [w.heap.size + 1] by simp) _)
            go_wp2
            refine bodyPost_ret (v := .tuple #[.agg #[.slice (some ⟨g, 0, none⟩) Q.I.length c1, .slice b2 Q.D.length c2, .slice b3 Q.A.length c3, .int .i64 Q.now], .bool true]) ?_ rfl ⟨_, _, _, by rw [HR.out], by rw [HR.out]; exact QO.mono (HQ3.out.q.outS HOU.out (fun t ht => by simp at ht; omega)) (by omega), HB3.out.trans (HOU.out.below (fun t ht => by simp at ht; omega) HB3.out.size)⟩
            simp [results, Try.results7, go_sem, z0, z1, z2, z3]
          · have HR : Hid (putQ Q s = (Q, true)) := by
              show _ = _
              rw [HP.out, Hput.out, HRD.out, Int.min_eq_left (by omega), ← HRD.out, setI_same hI]
            clear Hput HP
            go_wp2_with (first | (go_at_call 20; refine (HNM.out _).mono ?_; clear HNM; rintro e w' ⟨rfl, hw⟩; obtain rfl : w2 = w' := hw.symm) | (go_at_call 21; refine HFD.out.mono ?_; clear HFD; rintro e w' ⟨rfl, hw⟩; obtain rfl : w2 = w' := hw.symm) | (go_at_call 21; refine HFI.out.mono ?_; clear HFI; rintro e w' ⟨rfl, hw⟩; obtain rfl : w2 = w' := hw.symm))
            go_quiet (fail)
            have HQ3 := hide (HQB.out.drewN nq)
            have HB3 := hide (below_drewN B2.out nq)
            have z0 := OZ2.out.cell 0 _ rfl
            have z1 := OZ2.out.cell 1 _ rfl
            have z2 := OZ2.out.cell 2 _ rfl
            have z3 := OZ2.out.cell 3 _ rfl
            have g0 := OZ2.out.fz 0
            have g1 := OZ2.out.fz 1
            have g2 := OZ2.out.fz 2
            have g3 := OZ2.out.fz 3
            have u0 := OB2.out.cell 0 _ rfl
            have u1 := OB2.out.cell 1 _ rfl
            have u2 := OB2.out.cell 2 _ rfl
            have u3 := OB2.out.cell 3 _ rfl
            have HOU : Hid (OutS [w.heap.size + 1] (w2.drewN nq) (((((w2.drewN nq).setCell ⟨w.heap.size + 1, 0, none⟩ (.slice (some ⟨g, 0, none⟩) Q.I.length c1)).setCell ⟨w.heap.size + 1, 1, none⟩ (.slice b2 Q.D.length c2)).setCell ⟨w.heap.size + 1, 2, none⟩ (.slice b3 Q.A.length c3)).setCell ⟨w.heap.size + 1, 3, none⟩ (.int .i64 Q.now))) := by
              show OutS _ _ _
              repeat (first | with_reducible exact OutS.refl _ _ | with_reducible refine OutS.setCell ?_ (show _ ∈ [w.heap.size + 1] by simp) _)
            go_wp2
            refine bodyPost_ret (v := .tuple #[.agg #[.slice (some ⟨g, 0, none⟩) Q.I.length c1, .slice b2 Q.D.length c2, .slice b3 Q.A.length c3, .int .i64 Q.now], .bool true]) ?_ rfl ⟨_, _, _, by rw [HR.out], by rw [HR.out]; exact QO.mono (HQ3.out.q.outS HOU.out (fun t ht => by simp at ht; omega)) (by omega), HB3.out.trans (HOU.out.below (fun t ht => by simp at ht; omega) HB3.out.size)⟩
            simp [results, Try.results7, go_sem, z0, z1, z2, z3]
        · have hp : plcI Q.I s = -1 := if_neg hI
          rw [hp] at HFI
          clear hp
          by_cases h60 : Q.I.length = 60
          · have HR : Hid (putQ Q s = (Q, false)) := by show _ = _; rw [HP.out]; unfold putC; rw [if_neg hD, dif_neg hI, if_pos h60]
            have hi60 : ((Q.I.length : Int) == 60) = true := by rw [beq_iff_eq]; omega
            clear HP h60
            have z0 := OZ2.out.cell 0 _ rfl
            have z1 := OZ2.out.cell 1 _ rfl
            have z2 := OZ2.out.cell 2 _ rfl
            have z3 := OZ2.out.cell 3 _ rfl
            have g0 := OZ2.out.fz 0
            have g1 := OZ2.out.fz 1
            have g2 := OZ2.out.fz 2
            have g3 := OZ2.out.fz 3
            have u0 := OB2.out.cell 0 _ rfl
            have u1 := OB2.out.cell 1 _ rfl
            have u2 := OB2.out.cell 2 _ rfl
            have u3 := OB2.out.cell 3 _ rfl
            go_wp2_with (first | (go_at_call 20; refine (HNM.out _).mono ?_; clear HNM; rintro e w' ⟨rfl, hw⟩; obtain rfl : w2 = w' := hw.symm) | (go_at_call 21; refine HFD.out.mono ?_; clear HFD; rintro e w' ⟨rfl, hw⟩; obtain rfl : w2 = w' := hw.symm) | (go_at_call 21; refine HFI.out.mono ?_; clear HFI; rintro e w' ⟨rfl, hw⟩; obtain rfl : w2 = w' := hw.symm))
            have HOU : Hid (OutS [w.heap.size + 1] w2 ((((w2.setCell ⟨w.heap.size + 1, 0, none⟩ (.slice b1 Q.I.length c1)).setCell ⟨w.heap.size + 1, 1, none⟩ (.slice b2 Q.D.length c2)).setCell ⟨w.heap.size + 1, 2, none⟩ (.slice b3 Q.A.length c3)).setCell ⟨w.heap.size + 1, 3, none⟩ (.int .i64 Q.now))) := by
              show OutS _ _ _
              repeat (first | with_reducible exact OutS.refl _ _ | with_reducible refine OutS.setCell ?_ (show _ ∈ [w.heap.size + 1] by simp) _)
            refine bodyPost_ret (v := .tuple #[.agg #[.slice b1 Q.I.length c1, .slice b2 Q.D.length c2, .slice b3 Q.A.length c3, .int .i64 Q.now], .bool false]) ?_ rfl ⟨_, _, _, by rw [HR.out], by rw [HR.out]; exact QO.mono (HQB.out.q.outS HOU.out (fun t ht => by simp at ht; omega)) (by omega), B2.out.trans (HOU.out.below (fun t ht => by simp at ht; omega) B2.out.size)⟩
            simp [results, Try.results7, go_sem, z0, z1, z2, z3]
          · have HR : Hid (putQ Q s = ({ Q with I := Q.I ++ [(s, Q.now, 0)] }, true)) := by show _ = _; rw [HP.out]; unfold putC; rw [if_neg hD, dif_neg hI, if_neg h60]
            have hi60 : ((Q.I.length : Int) == 60) = false := by rw [beq_eq_false_iff_ne]; omega
            clear HP
            have H2 : Hid (QB (w2.alloc (.cells #[.string s, .int .i64 Q.now, .int .i64 0] 36)) w1.heap.size (w.heap.size + 2) Q (.slice b1 Q.I.length c1) (.slice b2 Q.D.length c2) (.slice b3 Q.A.length c3)) := HQB.out.below (below_alloc _ _)
            have O2 : Hid (objU (w2.alloc (.cells #[.string s, .int .i64 Q.now, .int .i64 0] 36)) w2.heap.size 36 (encI (s, Q.now, 0))) := objU.new _ _ _
            have OZ2' : Hid (objU (w2.alloc (.cells #[.string s, .int .i64 Q.now, .int .i64 0] 36)) (w.heap.size + 1) 27 [.slice none 0 0, .slice none 0 0, .slice none 0 0, .int .i64 0]) := OZ2.out.old _
            have y0 := OB2.out.cell 0 _ rfl
            go_wp2_with (first | (go_at_call 20; refine (HNM.out _).mono ?_; clear HNM; rintro e w' ⟨rfl, hw⟩; obtain rfl : w2 = w' := hw.symm) | (go_at_call 21; refine HFD.out.mono ?_; clear HFD; rintro e w' ⟨rfl, hw⟩; obtain rfl : w2 = w' := hw.symm) | (go_at_call 21; refine HFI.out.mono ?_; clear HFI; rintro e w' ⟨rfl, hw⟩; obtain rfl : w2 = w' := hw.symm) | (at_builtin; refine wpList_append_rd rfl _ _ 24 rfl 36 3 HEI.out (by decide) (w.heap.size + 2) _ _ rfl H2.out.q.i _ _ rfl (rdR.one O2.out) (rowsI [(s, Q.now, 0)]) (oneI [(s, Q.now, 0)]) (by simp; omega) (by have := H2.out.lt; omega) ?_))
            intro v3 w3 ho3 hg3 ha3
            rw [show (Q.I.map encI) ++ [encI (s, Q.now, 0)] = (Q.I ++ [(s, Q.now, 0)]).map encI by simp] at ho3
            have HQ3 : Hid (QB (w3.setCell ⟨w1.heap.size, 0, none⟩ v3) w1.heap.size (w.heap.size + 2) { Q with I := Q.I ++ [(s, Q.now, 0)] } v3 (.slice b2 Q.D.length c2) (.slice b3 Q.A.length c3)) := H2.out.appI ho3 hg3 (by simpa using ha3)
            have HB3 : Hid (Below w.heap.size w (w3.setCell ⟨w1.heap.size, 0, none⟩ v3)) := B2.out.trans (((below_alloc _ _).mono B2.out.size).trans ((H2.out.grown H2.out.q.i hg3 (by omega) 0).mono (by omega)))
            have OB3 := hide (H2.out.o.outS (grown_outS hg3) H2.out.ni)
            have OZ3 : Hid (objU w3 (w.heap.size + 1) 27 [.slice none 0 0, .slice none 0 0, .slice none 0 0, .int .i64 0]) := OZ2'.out.outS (grown_outS hg3) (fun hh => by have := H2.out.q.i.lt _ hh; omega)
            obtain ⟨a3, n3, p3, rfl⟩ : ∃ a n p, v3 = .slice a n p := by obtain ⟨a, p, e⟩ := ho3.itS; exact ⟨_, _, _, e⟩
            clear ho3 hg3 ha3 y0 H2 O2 OZ2'
            have z0 := OZ3.out.cell 0 _ rfl
            have z1 := OZ3.out.cell 1 _ rfl
            have z2 := OZ3.out.cell 2 _ rfl
            have z3 := OZ3.out.cell 3 _ rfl
            have g0 := OZ3.out.fz 0
            have g1 := OZ3.out.fz 1
            have g2 := OZ3.out.fz 2
            have g3 := OZ3.out.fz 3
            have u0 := OB3.out.cell 0 _ rfl
            have u1 := OB3.out.cell 1 _ rfl
            have u2 := OB3.out.cell 2 _ rfl
            have u3 := OB3.out.cell 3 _ rfl
            have fu0 := OB3.out.fz 0
            have HOU : Hid (OutS [w.heap.size + 1] (w3.setCell ⟨w1.heap.size, 0, none⟩ (.slice a3 n3 p3)) (((((w3.setCell ⟨w1.heap.size, 0, none⟩ (.slice a3 n3 p3)).setCell ⟨w.heap.size + 1, 0, none⟩ (.slice a3 n3 p3)).setCell ⟨w.heap.size + 1, 1, none⟩ (.slice b2 Q.D.length c2)).setCell ⟨w.heap.size + 1, 2, none⟩ (.slice b3 Q.A.length c3)).setCell ⟨w.heap.size + 1, 3, none⟩ (.int .i64 Q.now))) := by
              show OutS _ _ _
              repeat (first | with_reducible exact OutS.refl _ _ | with_reducible refine OutS.setCell ?_ (show _ ∈ [w.heap.size + 1] by simp) _)
            go_wp2
            refine bodyPost_ret (v := .tuple #[.agg #[.slice a3 n3 p3, .slice b2 Q.D.length c2, .slice b3 Q.A.length c3, .int .i64 Q.now], .bool true]) ?_ rfl ⟨_, _, _, by rw [HR.out], by rw [HR.out]; exact QO.mono (HQ3.out.q.outS HOU.out (fun t ht => by simp at ht; omega)) (by omega), HB3.out.trans (HOU.out.below (fun t ht => by simp at ht; omega) HB3.out.size)⟩
            simp [results, Try.results7, go_sem, z0, z1, z2, z3]
end Go.Proofs.Ytddojjigijfgbaa
/- Rows of things of k cells: what is left of a slice when the middle is struck (slices.Delete). -/
namespace Go.Proofs.Ytddojjigijfgbaa
open Go.RowKit
set_option linter.unusedVariables false

theorem ownR.struck {w : World} {base : Nat} {e : TypeId} {k g n cap i j m : Nat} {R : List (List Value)} {vs : List Value} (h : ownR w base e k (.slice (some ⟨g, 0, none⟩) n cap) R) (hn : n = R.length) (hij : i ≤ j) (hj : j ≤ n) (hm : m = i + (n - j)) (hv : vs.length = (n - m) * k) :
    ownR ((w.setCells g (i * k) (R.drop j).flatten).setCells g (m * k) vs) base e k (.slice (some ⟨g, 0, none⟩) m cap) (R.take i ++ R.drop j) := by
  subst hn
  obtain ⟨h1, h2⟩ := h
  have hl := h1.len
  rcases h2.2 with ⟨e', _⟩ | ⟨g', cap', cur, e', hb, hh, hnc, hcm, hcs, htk⟩
  · cases e'
  · cases e'
    have hld : (R.drop j).flatten.length = (R.length - j) * k := by rw [(h1.drop j).len, List.length_drop]
    have hik : i * k + (R.length - j) * k = m * k := by rw [hm, Nat.add_mul]
    have hmn : m * k + (R.length - m) * k = R.length * k := by rw [← Nat.add_mul]; congr 1; omega
    have hnk : R.length * k ≤ cur.size := by rw [hcs]; exact Nat.mul_le_mul_right k hnc
    obtain ⟨c1, q1, q2⟩ := heap_setCells_same g e (R.drop j).flatten (i * k) w cur hh (by omega)
    have hs1 : c1.size = cur.size := by
      have := congrArg List.length q2
      rw [List.length_append, List.length_append, List.length_take, List.length_drop, Array.length_toList, Array.length_toList] at this
      omega
    obtain ⟨c2, r1, r2⟩ := heap_setCells_same g e vs (m * k) _ c1 q1 (by omega)
    have hs2 : c2.size = cur.size := by
      have := congrArg List.length r2
      rw [List.length_append, List.length_append, List.length_take, List.length_drop, Array.length_toList, Array.length_toList] at this
      omega
    have hlen : (R.take i ++ R.drop j).length = m := by rw [List.length_append, List.length_take, List.length_drop]; omega
    refine ⟨(h1.take i).app (h1.drop j), ?_⟩
    rw [hlen]
    refine ⟨by rw [((h1.take i).app (h1.drop j)).len, hlen], .inr ⟨g, cap, c2, rfl, hb, r1, by omega, hcm, by rw [hs2, hcs], ?_⟩⟩
    rw [r2, q2]
    have t1 : (cur.toList.take (i * k)).length = i * k := by rw [List.length_take, Array.length_toList]; omega
    rw [List.append_assoc, List.take_append_of_le_length (by simp only [List.length_append, List.length_take, List.length_drop, Array.length_toList]; omega), List.take_take, Nat.min_self]
    rw [List.take_left' (by rw [List.length_append, t1, hld, hik]), List.flatten_append, flat_take R i h1, ← htk, List.take_take, Nat.min_eq_left (Nat.mul_le_mul_right k (by omega))]
end Go.Proofs.Ytddojjigijfgbaa
/- The library's Delete at items and at texts. -/
namespace Go.Proofs.Ytddojjigijfgbaa
open Go.RowKit Go.BigFrame
set_option linter.unusedVariables false
theorem zeroI_run (w : World) : (zeroValue 36).run Try.prog w = .ok (.agg #[.string ⟨#[]⟩, .int .i64 0, .int .i64 0]) w := by kernel_rfl
set_option maxRecDepth 100000 in
set_option maxHeartbeats 1600000 in
theorem delI_any (R : List (List Value)) (i j base : Nat) (v : Value) (w : World) (h : ownR w base 36 3 v R) (h1 : oneR R) (hij : i < j) (hj : j ≤ R.length) (hR : R.length ≤ 10000000) :
    Calls Try.prog 40 #[v, .int .i64 i, .int .i64 j] w fun e w' => ∃ v', e = .returned v' ∧ ownR w' base 36 3 v' (R.take i ++ R.drop j) ∧ v'.ownBlock = v.ownBlock ∧ OutS (blkOf v) w w' := by
  obtain ⟨g, cap, rfl, hbg, hgl, hcap, hblk, hcell, hfz⟩ := h.opened (by omega)
  obtain ⟨n, hn⟩ : ∃ n, n = R.length := ⟨_, rfl⟩
  rw [← hn] at h hj hR hcap hblk ⊢
  obtain ⟨ht, i0, z0, hi0, hz0, hs0, hzs, hb0⟩ := (elI : elT Try.prog 24 36 3)
  obtain ⟨cur, hcur, hcs⟩ : ∃ cur : Array Value, w.heap[g]? = some (.cells cur 36 (0, 0)) ∧ cur.size = cap * 3 := by
    rcases h.2.2 with ⟨e', _⟩ | ⟨g', cap', cur, e', _, hh, _, _, hcs, _⟩
    · cases e'
    · cases e'; exact ⟨cur, hh, hcs⟩
  have hsome : ∀ q, q < cap * 3 → (w.cell? ⟨g, q, none⟩).isSome = true := fun q hq => by
    rw [cell_of_row w g q cur 36 (0, 0) hcur]
    have : q < cur.size := by omega
    rw [Array.getElem?_eq_getElem this]; rfl
  obtain ⟨news, hnews⟩ : ∃ news, news = (R.drop j).flatten := ⟨_, rfl⟩
  have hnl : news.length = (n - j) * 3 := by rw [hnews, (h.1.drop j).len, List.length_drop, hn]
  obtain ⟨A, hA, hsrc⟩ : ∃ A : Addr, (if cap = j then (some (⟨g, 0, none⟩ : Addr)) else some ⟨g, j * 3, none⟩) = some A ∧ Hid (∀ t u, news[t]? = some u → w.drew.cell? (A.add t) = some u) := by
    by_cases hc : cap = j
    · refine ⟨⟨g, 0, none⟩, by simp [hc], fun t u hu => ?_⟩
      have h0 : news.length = 0 := by rw [hnl]; have : n - j = 0 := by omega
                                      rw [this, Nat.zero_mul]
      rw [List.length_eq_zero_iff.1 h0] at hu
      simp at hu
    · refine ⟨⟨g, j * 3, none⟩, by simp [hc], fun t u hu => ?_⟩
      have h2 : R.flatten[j * 3 + t]? = some u := by
        rw [hnews, flat_drop R j h.1, List.getElem?_drop] at hu
        exact hu
      have hlt := (List.getElem?_eq_some_iff.1 h2).1
      rw [h.1.len, ← hn] at hlt
      rw [Go.WideShapes.add_plain]
      show w.cell? _ = _
      have hown : w.ownsRow base 36 3 (.slice (some ⟨g, 0, none⟩) n cap) n R.flatten := by have := h.2; rwa [← hn] at this
      have hh := hown.cellAt (j * 3 + t) hlt
      rw [h2] at hh
      rw [← hh]
  have s1 : Hid (news.length = (n - j) * 3) := hnl
  have s2 : Hid (∀ u ∈ news, u.oneCell' = true) := by rw [hnews]; exact fun u hu => h1.flat u (by
    rw [flat_drop R j h.1] at hu
    exact List.mem_of_mem_drop hu)
  have s3 : Hid (∀ t, t < news.length → (w.drew.cell? ⟨g, 0 + i * 3 + t, none⟩).isSome = true ∧ w.drew.frozen? ⟨g, 0 + i * 3 + t, none⟩ = false) := fun t ht => ⟨hsome _ (by rw [hnl] at ht; omega), hfz _⟩
  obtain ⟨W1, hW1⟩ : ∃ W1, W1 = w.drew.setCells g (0 + i * 3) news := ⟨_, rfl⟩
  obtain ⟨c1, q1, q2⟩ := heap_setCells_same g 36 news (0 + i * 3) w.drew cur hcur (by rw [hnl]; omega)
  have hs1 : c1.size = cap * 3 := by
    have := congrArg List.length q2
    rw [List.length_append, List.length_append, List.length_take, List.length_drop, Array.length_toList, Array.length_toList] at this
    omega
  rw [← hW1] at q1
  obtain ⟨vs, hvl, hcl⟩ : ∃ vs : List Value, vs.length = (n - (i + (n - j))) * 3 ∧ ∀ ty, (Builtin.clear_ #[24] ty #[.slice (some ⟨g, (i + (n - j)) * 3, none⟩) (n - (i + (n - j))) (cap - (i + (n - j)))]).run Try.prog W1 = .ok (.tuple #[]) (W1.setCells g ((i + (n - j)) * 3) vs) := by
    obtain ⟨vs, h3, h4⟩ := run_clear_k (P := Try.prog) W1 24 36 0 (.agg #[.string ⟨#[]⟩, .int .i64 0, .int .i64 0]) [.string ⟨#[]⟩, .int .i64 0, .int .i64 0] ht zeroI_run (by rfl) (by intro u hu; simp at hu; rcases hu with rfl | rfl | rfl <;> rfl) g ((i + (n - j)) * 3) (n - (i + (n - j))) (cap - (i + (n - j))) (by omega) (fun q hq => by
      rw [cell_of_row W1 g _ c1 36 (0, 0) q1]
      have hq' : q < (n - (i + (n - j))) * 3 := hq
      have : (i + (n - j)) * 3 + q < c1.size := by omega
      rw [Array.getElem?_eq_getElem this]; rfl) (fun q hq => frozen_of_row W1 g _ c1 36 q1)
    exact ⟨vs, h3, fun ty => h4⟩
  have hW : Hid (W1 = w.drew.setCells g (0 + i * 3) news) := hW1
  have hfin : Hid (ownR (W1.setCells g ((i + (n - j)) * 3) vs) base 36 3 (.slice (some ⟨g, 0, none⟩) (i + (n - j)) cap) (R.take i ++ R.drop j)) := by
    show ownR _ _ _ _ _ _
    rw [hW1, hnews, Nat.zero_add]
    exact ownR.struck (w := w.drew) h hn (by omega) hj rfl hvl
  have hout : Hid (OutS [g] w (W1.setCells g ((i + (n - j)) * 3) vs)) := by
    show OutS _ _ _
    rw [hW1]
    exact (OutS.of_below (Below.drew (Below.refl _ _))).trans (OutS.trans (OutS.setCells news _ w.drew) (OutS.setCells vs _ _))
  have hij2 := hij
  have mixed : Try.prog.follows .mixedOrders = true := by kernel_rfl
  have hic : i ≤ cap := by omega
  have hjc : j ≤ cap := by omega
  have hne : ¬ ((i : Int) = (j : Int)) := by omega
  have hjn : j ≤ n := hj
  have hlen : i + (n - j) ≤ n := by omega
  clear hW1 hnews hnl hcs hcur hsome q1 q2 hs1 h h1 hcell hfz hvl hn
  go_enter Try.func40, Try.ntmps40
  go_wp2_with fail
  go_region_law_o (refine step_append_room rfl (.tmp 22) (.tmp 25) 24 rfl 36 i0 3 ht hi0 hs0 g 0 i cap (by simp [Act.eval, Act.put]) A (n - j) (cap - j) news (by simp [Act.eval, Act.put]) s1.out hsrc.out s2.out (by omega) s3.out ?_; rw [← hW.out])
  go_wp2
  go_ret
  exact ⟨_, rfl, hfin.out, rfl, by rw [hblk]; exact hout.out⟩
theorem zeroS_run (w : World) : (zeroValue 9).run Try.prog w = .ok (.string ⟨#[]⟩) w := by kernel_rfl
set_option maxRecDepth 100000 in
set_option maxHeartbeats 1600000 in
theorem delS_any (R : List (List Value)) (i j base : Nat) (v : Value) (w : World) (h : ownR w base 9 1 v R) (h1 : oneR R) (hij : i < j) (hj : j ≤ R.length) (hR : R.length ≤ 10000000) :
    Calls Try.prog 50 #[v, .int .i64 i, .int .i64 j] w fun e w' => ∃ v', e = .returned v' ∧ ownR w' base 9 1 v' (R.take i ++ R.drop j) ∧ v'.ownBlock = v.ownBlock ∧ OutS (blkOf v) w w' := by
  obtain ⟨g, cap, rfl, hbg, hgl, hcap, hblk, hcell, hfz⟩ := h.opened (by omega)
  obtain ⟨n, hn⟩ : ∃ n, n = R.length := ⟨_, rfl⟩
  rw [← hn] at h hj hR hcap hblk ⊢
  obtain ⟨ht, i0, z0, hi0, hz0, hs0, hzs, hb0⟩ := (elS : elT Try.prog 25 9 1)
  obtain ⟨cur, hcur, hcs⟩ : ∃ cur : Array Value, w.heap[g]? = some (.cells cur 9 (0, 0)) ∧ cur.size = cap * 1 := by
    rcases h.2.2 with ⟨e', _⟩ | ⟨g', cap', cur, e', _, hh, _, _, hcs, _⟩
    · cases e'
    · cases e'; exact ⟨cur, hh, hcs⟩
  have hsome : ∀ q, q < cap * 1 → (w.cell? ⟨g, q, none⟩).isSome = true := fun q hq => by
    rw [cell_of_row w g q cur 9 (0, 0) hcur]
    have : q < cur.size := by omega
    rw [Array.getElem?_eq_getElem this]; rfl
  obtain ⟨news, hnews⟩ : ∃ news, news = (R.drop j).flatten := ⟨_, rfl⟩
  have hnl : news.length = (n - j) * 1 := by rw [hnews, (h.1.drop j).len, List.length_drop, hn]
  obtain ⟨A, hA, hsrc⟩ : ∃ A : Addr, (if cap = j then (some (⟨g, 0, none⟩ : Addr)) else some ⟨g, j, none⟩) = some A ∧ Hid (∀ t u, news[t]? = some u → w.drew.cell? (A.add t) = some u) := by
    by_cases hc : cap = j
    · refine ⟨⟨g, 0, none⟩, by simp [hc], fun t u hu => ?_⟩
      have h0 : news.length = 0 := by rw [hnl]; have : n - j = 0 := by omega
                                      rw [this, Nat.zero_mul]
      rw [List.length_eq_zero_iff.1 h0] at hu
      simp at hu
    · refine ⟨⟨g, j, none⟩, by simp [hc], fun t u hu => ?_⟩
      have h2 : R.flatten[j * 1 + t]? = some u := by
        rw [hnews, flat_drop R j h.1, List.getElem?_drop] at hu
        exact hu
      have hlt := (List.getElem?_eq_some_iff.1 h2).1
      rw [h.1.len, ← hn] at hlt
      rw [Go.WideShapes.add_plain]
      show w.cell? _ = _
      have hown : w.ownsRow base 9 1 (.slice (some ⟨g, 0, none⟩) n cap) n R.flatten := by have := h.2; rwa [← hn] at this
      have hh := hown.cellAt (j * 1 + t) hlt
      rw [h2] at hh
      rw [← hh]; congr 2; omega
  have s1 : Hid (news.length = (n - j) * 1) := hnl
  have s2 : Hid (∀ u ∈ news, u.oneCell' = true) := by rw [hnews]; exact fun u hu => h1.flat u (by
    rw [flat_drop R j h.1] at hu
    exact List.mem_of_mem_drop hu)
  have s3 : Hid (∀ t, t < news.length → (w.drew.cell? ⟨g, 0 + i * 1 + t, none⟩).isSome = true ∧ w.drew.frozen? ⟨g, 0 + i * 1 + t, none⟩ = false) := fun t ht => ⟨hsome _ (by rw [hnl] at ht; omega), hfz _⟩
  obtain ⟨W1, hW1⟩ : ∃ W1, W1 = w.drew.setCells g (0 + i * 1) news := ⟨_, rfl⟩
  obtain ⟨c1, q1, q2⟩ := heap_setCells_same g 9 news (0 + i * 1) w.drew cur hcur (by rw [hnl]; omega)
  have hs1 : c1.size = cap * 1 := by
    have := congrArg List.length q2
    rw [List.length_append, List.length_append, List.length_take, List.length_drop, Array.length_toList, Array.length_toList] at this
    omega
  rw [← hW1] at q1
  obtain ⟨vs, hvl, hcl⟩ : ∃ vs : List Value, vs.length = (n - (i + (n - j))) * 1 ∧ ∀ ty, (Builtin.clear_ #[25] ty #[.slice (some ⟨g, i + (n - j), none⟩) (n - (i + (n - j))) (cap - (i + (n - j)))]).run Try.prog W1 = .ok (.tuple #[]) (W1.setCells g (i + (n - j)) vs) := by
    obtain ⟨vs, h3, h4⟩ := run_clear_k (P := Try.prog) W1 25 9 0 (.string ⟨#[]⟩) [.string ⟨#[]⟩] ht zeroS_run (by rfl) (by intro u hu; simp at hu; rw [hu]; rfl) g (i + (n - j)) (n - (i + (n - j))) (cap - (i + (n - j))) (by omega) (fun q hq => by
      rw [cell_of_row W1 g _ c1 9 (0, 0) q1]
      have hq' : q < (n - (i + (n - j))) * 1 := hq
      have : i + (n - j) + q < c1.size := by omega
      rw [Array.getElem?_eq_getElem this]; rfl) (fun q hq => frozen_of_row W1 g _ c1 9 q1)
    exact ⟨vs, h3, fun ty => h4⟩
  have hW : Hid (W1 = w.drew.setCells g (0 + i * 1) news) := hW1
  have hfin : Hid (ownR (W1.setCells g (i + (n - j)) vs) base 9 1 (.slice (some ⟨g, 0, none⟩) (i + (n - j)) cap) (R.take i ++ R.drop j)) := by
    show ownR _ _ _ _ _ _
    rw [hW1, hnews, Nat.zero_add]
    have hh := ownR.struck (w := w.drew) h hn (by omega) hj rfl hvl
    simpa only [Nat.mul_one] using hh
  have hout : Hid (OutS [g] w (W1.setCells g (i + (n - j)) vs)) := by
    show OutS _ _ _
    rw [hW1]
    exact (OutS.of_below (Below.drew (Below.refl _ _))).trans (OutS.trans (OutS.setCells news _ w.drew) (OutS.setCells vs _ _))
  have hij2 := hij
  have mixed : Try.prog.follows .mixedOrders = true := by kernel_rfl
  have hic : i ≤ cap := by omega
  have hjc : j ≤ cap := by omega
  have hne : ¬ ((i : Int) = (j : Int)) := by omega
  have hjn : j ≤ n := hj
  have hlen : i + (n - j) ≤ n := by omega
  clear hW1 hnews hnl hcs hcur hsome q1 q2 hs1 h h1 hcell hfz hvl hn
  go_enter Try.func50, Try.ntmps50
  go_wp2_with fail
  go_region_law_o (refine step_append_room rfl (.tmp 22) (.tmp 25) 25 rfl 9 i0 1 ht hi0 hs0 g 0 i cap (by simp [Act.eval, Act.put]) A (n - j) (cap - j) news (by simp [Act.eval, Act.put]) s1.out hsrc.out s2.out (by omega) s3.out ?_; rw [← hW.out])
  go_wp2
  go_ret
  exact ⟨_, rfl, hfin.out, rfl, by rw [hblk]; exact hout.out⟩
end Go.Proofs.Ytddojjigijfgbaa
/- Queues: the program's take. -/
namespace Go.Proofs.Ytddojjigijfgbaa
open Go.RowKit Go.BigFrame
set_option linter.unusedVariables false

/-- a queue, its field 0 being made anew: before the call that makes it (c = false) and behind it; the item's block, the pointer's -/
structure GI (w0 : World) (b base pb ib : Nat) (Q : Qu) (x : It) (vI vD vA : Value) (c : Bool) (w : World) : Prop where
  bel : Below base w0 w
  size : w0.heap.size ≤ w.heap.size
  box : c = false → objU w b 27 [vI, vD, vA, .int .i64 Q.now] ∧ ownR w base 36 3 vI (Q.I.map encI)
  bx2 : ∃ u, objU w b 27 [u, vD, vA, .int .i64 Q.now]
  o1 : ownR w base 36 3 vD (Q.D.map encI)
  o2 : ownR w base 9 1 vA (Q.A.map encS)
  it : objU w ib 36 (encI x)
  pt : objU w pb 62 [.pointer (some ⟨b, 0, none⟩)]
theorem GI.below {w0 w w' : World} {b base pb ib : Nat} {Q : Qu} {x : It} {vI vD vA : Value} {c : Bool} (h : GI w0 b base pb ib Q x vI vD vA c w) (hs : base ≤ w0.heap.size) (hb : Below w.heap.size w w') : GI w0 b base pb ib Q x vI vD vA c w' :=
  ⟨h.bel.trans (hb.mono (by have := h.size; omega)), by have := h.size; have := hb.size; omega, fun e => ⟨(h.box e).1.below hb, (h.box e).2.below hb⟩, by obtain ⟨u, hu⟩ := h.bx2; exact ⟨u, hu.below hb⟩, h.o1.below hb, h.o2.below hb, h.it.below hb, h.pt.below hb⟩
/-- a queue, its field 1 being made anew: before the call that makes it (c = false) and behind it; the item's block, the pointer's -/
structure GD (w0 : World) (b base pb ib : Nat) (Q : Qu) (x : It) (vI vD vA : Value) (c : Bool) (w : World) : Prop where
  bel : Below base w0 w
  size : w0.heap.size ≤ w.heap.size
  box : c = false → objU w b 27 [vI, vD, vA, .int .i64 Q.now] ∧ ownR w base 36 3 vD (Q.D.map encI)
  bx2 : ∃ u, objU w b 27 [vI, u, vA, .int .i64 Q.now]
  o0 : ownR w base 36 3 vI (Q.I.map encI)
  o2 : ownR w base 9 1 vA (Q.A.map encS)
  it : objU w ib 36 (encI x)
  pt : objU w pb 62 [.pointer (some ⟨b, 0, none⟩)]
theorem GD.below {w0 w w' : World} {b base pb ib : Nat} {Q : Qu} {x : It} {vI vD vA : Value} {c : Bool} (h : GD w0 b base pb ib Q x vI vD vA c w) (hs : base ≤ w0.heap.size) (hb : Below w.heap.size w w') : GD w0 b base pb ib Q x vI vD vA c w' :=
  ⟨h.bel.trans (hb.mono (by have := h.size; omega)), by have := h.size; have := hb.size; omega, fun e => ⟨(h.box e).1.below hb, (h.box e).2.below hb⟩, by obtain ⟨u, hu⟩ := h.bx2; exact ⟨u, hu.below hb⟩, h.o0.below hb, h.o2.below hb, h.it.below hb, h.pt.below hb⟩
def FV (b base k : Nat) (Q : Qu) (vI vD vA : Value) : Nat → (Nat → Nat) → Value → World → Prop
  | 3, γ, v, w => v = .pointer (some ⟨b, 0, none⟩)
  | 4, γ, v, w => v = vI
  | 5, γ, v, w => v = .int .i64 k
  | 6, γ, v, w => v = .int .i64 k
  | 7, γ, v, w => v = .int .i64 ((k + 1 : Nat) : Int)
  | 8, γ, v, w => ownR w base 36 3 v ((dropAt Q.I k).map encI) ∧ v.ownBlock = vI.ownBlock
  | 11, γ, v, w => ∃ vI', QB w b base { Q with I := dropAt Q.I k } vI' vD vA
  | _, γ, v, w => v = .pointer (some ⟨b, 0, none⟩)
def FX (b base ib : Nat) (Q : Qu) (x y : It) (vI vD vA : Value) : Nat → (Nat → Nat) → Value → World → Prop
  | 3, γ, v, w => v = .pointer (some ⟨b, 1, none⟩)
  | 13, γ, v, w => v = .pointer (some ⟨b, 1, none⟩)
  | 4, γ, v, w => v = vD
  | 5, γ, v, w => v = .pointer (some ⟨ib, 0, none⟩)
  | 6, γ, v, w => v = .string x.1
  | 7, γ, v, w => v = .pointer (some ⟨ib, 2, none⟩)
  | 8, γ, v, w => v = .int .i64 x.2.2
  | 9, γ, v, w => v = .agg #[.string y.1, .int .i64 y.2.1, .int .i64 y.2.2]
  | 10, γ, v, w => ∃ g t, v = .slice (some ⟨g, 0, none⟩) 1 1 ∧ objU w g t (encI y) ∧ g ≠ b
  | 11, γ, v, w => ownR w base 36 3 v ((Q.D ++ [y]).map encI) ∧ b ∉ blkOf v ∧ (∀ g ∈ blkOf v, g ∉ blkOf vI) ∧ ∀ g ∈ blkOf v, g ∉ blkOf vA
  | 14, γ, v, w => ∃ vD', QB w b base { Q with D := Q.D ++ [y] } vI vD' vA
  | _, γ, v, w => v = .pointer (some ⟨b, 0, none⟩)
theorem rdClo_any (x : It) (now : Int) (pb b : Nat) (w : World) (hp : w.cell? ⟨pb, 0, none⟩ = some (.pointer (some ⟨b, 0, none⟩))) (hc : w.cell? ⟨b, 3, none⟩ = some (.int .i64 now)) :
    Calls Try.prog 39 #[.agg #[.string x.1, .int .i64 x.2.1, .int .i64 x.2.2], .pointer (some ⟨pb, 0, none⟩)] w fun e w' => e = .returned (.bool (decide (x.2.1 ≤ now))) ∧ Below w.heap.size w w' := by
  have hbl := World.block_lt_of_cell? _ _ hc
  have hpl := World.block_lt_of_cell? _ _ hp
  obtain ⟨x1, x2, x3⟩ := x
  dsimp only
  have OX : Hid (objU (w.alloc (.cells #[.string x1, .int .i64 x2, .int .i64 x3] 36)) w.heap.size 36 [.string x1, .int .i64 x2, .int .i64 x3]) := objU.new _ _ _
  have y1 := OX.out.cell 1 _ rfl
  have p0 : (w.alloc (.cells #[.string x1, .int .i64 x2, .int .i64 x3] 36)).cell? ⟨pb, 0, none⟩ = some (.pointer (some ⟨b, 0, none⟩)) := (Below.cell (below_alloc w _) hpl).trans hp
  have p3 : (w.alloc (.cells #[.string x1, .int .i64 x2, .int .i64 x3] 36)).cell? ⟨b, 3, none⟩ = some (.int .i64 now) := (Below.cell (below_alloc w _) hbl).trans hc
  have BX : Hid (Below w.heap.size w (w.alloc (.cells #[.string x1, .int .i64 x2, .int .i64 x3] 36))) := below_alloc _ _
  go_enter Try.func39, Try.ntmps39
  go_wp2
  generalize w.alloc (.cells #[.string x1, .int .i64 x2, .int .i64 x3] 36) = wx at *
  go_quiet (fail)
  go_wp2
  go_ret
  exact ⟨rfl, below_drewN BX.out _⟩
set_option maxRecDepth 20000 in
set_option maxHeartbeats 3200000 in
theorem take_any (Q : Qu) (b base : Nat) (vI vD vA : Value) (w : World) (hq : okQ Q) (h : QB w b base Q vI vD vA) (hbase : base ≤ b) :
    Calls Try.prog 28 #[.pointer (some ⟨b, 0, none⟩)] w fun e w' => ∃ vI' vD' vA', e = .returned (.tuple #[.string (takeC Q).2.1, .bool (takeC Q).2.2]) ∧ QB w' b base (takeC Q).1 vI' vD' vA' ∧ Below base w w' := by
  obtain ⟨aI, pI, aD, pD, aA, pA, rfl, rfl, rfl⟩ := h.xs
  have l1 := hq.1.1
  have l2 := hq.2.1.1
  have H := hide h
  have hbl := h.lt
  have hbb : Hid (base ≤ w.heap.size) := by show _ ≤ _; omega
  have PT0 : Hid (objU (w.alloc (.cells #[.pointer (some ⟨b, 0, none⟩)] 62)) w.heap.size 62 [.pointer (some ⟨b, 0, none⟩)]) := objU.new _ _ _
  have H0 := hide (h.below (below_alloc w (.cells #[.pointer (some ⟨b, 0, none⟩)] 62)))
  have B0 : Hid (Below base w (w.alloc (.cells #[.pointer (some ⟨b, 0, none⟩)] 62))) := (below_alloc _ _).mono hbb.out
  have HIX := hide (ixRd_any Q.I (fun x => decide (x.2.1 ≤ Q.now)) ⟨w.heap.size, 0, none⟩ (.slice aI Q.I.length pI) _ (by omega) (H0.out.q.i.rd (by decide)) (fun wx hb x _ => rdClo_any x Q.now w.heap.size b wx ((PT0.out.below hb).cell 0 _ rfl) ((H0.out.o.below hb).cell 3 _ rfl)))
  have x0 := H0.out.o.cell 0 _ rfl
  clear h hq
  go_enter Try.func28, Try.ntmps28
  by_cases hR : rdyN Q.I Q.now < Q.I.length
  · have hp : plcP Q.I (fun x => decide (x.2.1 ≤ Q.now)) = (rdyN Q.I Q.now : Int) := if_pos hR
    rw [hp] at HIX
    have Htk : Hid (takeC Q = (if Q.D.length = 60 then (Q, ⟨#[]⟩, false) else ({ Q with I := dropAt Q.I (rdyN Q.I Q.now), D := Q.D ++ [((Q.I[rdyN Q.I Q.now]).1, 0, (Q.I[rdyN Q.I Q.now]).2.2)] }, (Q.I[rdyN Q.I Q.now]).1, true))) := dif_pos hR
    generalize rdyN Q.I Q.now = k at *
    have hk0 : (0 : Int) ≤ (k : Int) := Int.natCast_nonneg _
    have hki : (k : Int) < (Q.I.length : Int) := by omega
    clear hp
    by_cases h60 : Q.D.length = 60
    · have HR : Hid (takeC Q = (Q, ⟨#[]⟩, false)) := by show _ = _; rw [Htk.out, if_pos h60]
      have hi60 : ((Q.D.length : Int) == 60) = true := by rw [beq_iff_eq]; omega
      clear h60 Htk
      go_wp2_with fail
      refine HIX.out.mono ?_
      rintro e w1 ⟨rfl, hb1⟩
      have H1 := hide (H0.out.below hb1)
      have PT1 := hide (PT0.out.below hb1)
      have B1 : Hid (Below base w w1) := B0.out.trans (hb1.mono (Nat.le_trans hbb.out B0.out.size))
      have p0 := PT1.out.cell 0 _ rfl
      have x1 := H1.out.o.cell 1 _ rfl
      clear hb1 x0
      go_wp2
      refine bodyPost_ret (v := .tuple #[.string ⟨#[]⟩, .bool false]) ?_ rfl ⟨_, _, _, by rw [HR.out], by rw [HR.out]; exact H1.out, B1.out⟩
      simp [results, Try.results28, go_sem]
    · have HR : Hid (takeC Q = ({ Q with I := dropAt Q.I k, D := Q.D ++ [((Q.I[k]).1, 0, (Q.I[k]).2.2)] }, (Q.I[k]).1, true)) := by show _ = _; rw [Htk.out, if_neg h60]
      have hi60 : ((Q.D.length : Int) == 60) = false := by rw [beq_eq_false_iff_ne]; omega
      have hr : Hid ((Q.I.map encI)[k]? = some (encI Q.I[k])) := by show _ = _; rw [List.getElem?_map, List.getElem?_eq_getElem hR]; rfl
      clear Htk
      go_wp2_with fail
      refine HIX.out.mono ?_
      rintro e w1 ⟨rfl, hb1⟩
      have H1 := hide (H0.out.below hb1)
      have PT1 := hide (PT0.out.below hb1)
      have B1 : Hid (Below base w w1) := B0.out.trans (hb1.mono (Nat.le_trans hbb.out B0.out.size))
      have hz1 : w.heap.size < w1.heap.size := PT1.out.lt
      have p0 := PT1.out.cell 0 _ rfl
      have x1 := H1.out.o.cell 1 _ rfl
      have x0' := H1.out.o.cell 0 _ rfl
      obtain ⟨g, pI', eI, hbg, hgl, hcp, -, hcell, hfz⟩ := H1.out.q.i.opened (by rw [List.length_map]; omega)
      rw [List.length_map] at eI hcp
      cases eI
      have k0 : w1.cell? ⟨g, k * 3, none⟩ = some (.string (Q.I[k]).1) := hcell k _ 0 _ hr.out rfl
      have k1 : w1.cell? ⟨g, k * 3 + 1, none⟩ = some (.int .i64 (Q.I[k]).2.1) := hcell k _ 1 _ hr.out rfl
      have k2 : w1.cell? ⟨g, k * 3 + 2, none⟩ = some (.int .i64 (Q.I[k]).2.2) := hcell k _ 2 _ hr.out rfl
      clear hb1 x0 hcell hfz
      go_wp2
      have HPT : Hid (objU (w1.alloc (.cells #[.string (Q.I[k]).1, .int .i64 (Q.I[k]).2.1, .int .i64 (Q.I[k]).2.2] 36)) w.heap.size 62 [.pointer (some ⟨b, 0, none⟩)]) := PT1.out.old _
      have HIT : Hid (objU (w1.alloc (.cells #[.string (Q.I[k]).1, .int .i64 (Q.I[k]).2.1, .int .i64 (Q.I[k]).2.2] 36)) w1.heap.size 36 (encI Q.I[k])) := objU.new _ _ _
      have HQ2 := hide (H1.out.below (below_alloc w1 (.cells #[.string (Q.I[k]).1, .int .i64 (Q.I[k]).2.1, .int .i64 (Q.I[k]).2.2] 36)))
      have B2 : Hid (Below base w (w1.alloc (.cells #[.string (Q.I[k]).1, .int .i64 (Q.I[k]).2.1, .int .i64 (Q.I[k]).2.2] 36))) := B1.out.trans ((below_alloc _ _).mono (by omega))
      have hpb : Hid (w.heap.size ∉ [b]) := by show _ ∉ _; simp; omega
      have hib : Hid (w1.heap.size ∉ [b]) := by show _ ∉ _; simp; omega
      have HS : Hid (w.heap.size ≤ (w1.alloc (.cells #[.string (Q.I[k]).1, .int .i64 (Q.I[k]).2.1, .int .i64 (Q.I[k]).2.2] 36)).heap.size) := by show _ ≤ _; simp; omega
      have hw : IntKind.i64.wrap ((k : Int) + 1) = (k : Int) + 1 := uwrap64 _ (by omega) (by omega)
      have HLT : Hid (∀ z ∈ blkOf (.slice (some ⟨g, 0, none⟩) Q.I.length pI), z < w.heap.size) := fun x hx => (H.out.q.i.lt x hx).2
      clear k0 k1 k2 p0 x1 x0' HIX H0 PT0 B0
      refine wp_region_inv2 (fun i => if i = 8 then OutS (blkOf (.slice (some ⟨g, 0, none⟩) Q.I.length pI)) else if i = 11 then OutS [b] else fun u v => Below u.heap.size u v) (fun _ => none) 8 (by decide)
        (GI w b base w.heap.size w1.heap.size Q Q.I[k] (.slice (some ⟨g, 0, none⟩) Q.I.length pI) (.slice aD Q.D.length pD) (.slice aA Q.A.length pA)) (FV b base k Q (.slice (some ⟨g, 0, none⟩) Q.I.length pI) (.slice aD Q.D.length pD) (.slice aA Q.A.length pA)) (by kernel_rfl) (by kernel_rfl) (by kernel_rfl) ?hF ?hU ?hG ?hstep ?hend
      case hF =>
        intro i j γ γ' v wa wb hij hsp hnd hsd h hfr
        have ho := hfr.out
        match j, h with
        | 0, h => exact h
        | 1, h => exact h
        | 2, h => exact h
        | 3, h => exact h
        | 4, h => exact h
        | 5, h => exact h
        | 6, h => exact h
        | 7, h => exact h
        | 8, ⟨h1, h2⟩ =>
          rw [if_neg hij] at ho
          by_cases e : i = 11
          · rw [if_pos e] at ho
            exact ⟨h1.frame (fun x hx => ho.block x (h1.lt x hx).2 (fun hh => H.out.ni (by simp at hh; rw [← hh]; rw [blk_own] at hx ⊢; rw [← h2]; exact hx))), h2⟩
          · rw [if_neg e] at ho
            exact ⟨h1.below ho, h2⟩
        | 9, h => exact h
        | 10, h => exact h
        | 11, ⟨v', h⟩ =>
          by_cases e : i = 8
          · subst e; cases (hnd.symm.trans (by kernel_rfl) : false = true)
          · rw [if_neg e, if_neg hij] at ho
            exact ⟨v', h.below ho⟩
        | j + 12, h => exact h
      case hU =>
        intro i o hi hd γ v wa h
        match i, hi with
        | 0, hi => (injection hi with hi; subst hi; cases hd)
        | 1, hi => (injection hi with hi; subst hi; cases hd)
        | 2, hi => (injection hi with hi; subst hi; cases hd)
        | 3, hi => (injection hi with hi; subst hi; cases hd)
        | 4, hi => (injection hi with hi; subst hi; cases hd)
        | 5, hi => (injection hi with hi; subst hi; cases hd)
        | 6, hi => (injection hi with hi; subst hi; cases hd)
        | 7, hi => (injection hi with hi; subst hi; cases hd)
        | 8, hi => (injection hi with hi; subst hi; cases hd)
        | 9, hi => (injection hi with hi; subst hi; cases hd)
        | 10, hi => (injection hi with hi; subst hi; cases hd)
        | 11, hi => exact h
        | i + 12, hi => cases hi
      case hG => exact ⟨Below.drew B2.out, HS.out, fun _ => ⟨objU.dr9 HQ2.out.o, ownR.below HQ2.out.q.i (Below.drew (Below.refl _ _))⟩, ⟨_, objU.dr9 HQ2.out.o⟩, ownR.below HQ2.out.q.d (Below.drew (Below.refl _ _)), ownR.below HQ2.out.q.a (Below.drew (Below.refl _ _)), objU.dr9 HIT.out, objU.dr9 HPT.out⟩
      case hstep =>
        intro i o hi
        match i, hi with
        | 0, hi =>
          injection hi with hi; subst hi
          intro c a wn γ hc0 hc1 hG hK hD K hk
          have e1 := hK.at 1 (by kernel_rfl)
          have x0 := hG.pt.cell 0 _ rfl
          refine wp_pure (.pointer (some ⟨b, 0, none⟩)) ?_ (hk _ _ γ hG (Fr.same (Below.refl _ _)) rfl)
          simp [execOp, Act.eval, e1, x0, go_sem]
        | 1, hi =>
          injection hi with hi; subst hi
          intro c a wn γ hc0 hc1 hG hK hD K hk
          have e1 := hK.at 1 (by kernel_rfl)
          have x0 := hG.pt.cell 0 _ rfl
          refine wp_pure (.pointer (some ⟨b, 0, none⟩)) ?_ (hk _ _ γ hG (Fr.same (Below.refl _ _)) rfl)
          simp [execOp, Act.eval, e1, x0, go_sem]
        | 2, hi =>
          injection hi with hi; subst hi
          intro c a wn γ hc0 hc1 hG hK hD K hk
          have d0 := hD 0 (by decide) (by kernel_rfl) (.inl rfl)
          change a.tmps.getD 30 undef = .pointer (some ⟨b, 0, none⟩) at d0
          refine wp_pure (.pointer (some ⟨b, 0, none⟩)) ?_ (hk _ _ γ hG (Fr.same (Below.refl _ _)) rfl)
          simp [execOp, Act.eval, d0, go_sem]
        | 3, hi =>
          injection hi with hi; subst hi
          intro c a wn γ hc0 hc1 hG hK hD K hk
          have d0 := hD 0 (by decide) (by kernel_rfl) (.inl rfl)
          change a.tmps.getD 31 undef = .pointer (some ⟨b, 0, none⟩) at d0
          refine wp_pure (.pointer (some ⟨b, 0, none⟩)) ?_ (hk _ _ γ hG (Fr.same (Below.refl _ _)) rfl)
          simp [execOp, Act.eval, d0, go_sem]
        | 4, hi =>
          injection hi with hi; subst hi
          intro c a wn γ hc0 hc1 hG hK hD K hk
          have d0 := hD 0 (by decide) (by kernel_rfl) (.inl rfl)
          change a.tmps.getD 32 undef = .pointer (some ⟨b, 0, none⟩) at d0
          have hc := hc0 (.inl (by kernel_rfl))
          have x0 := (hG.box hc).1.cell 0 _ rfl
          refine wp_pure _ ?_ (hk _ _ γ hG (Fr.same (Below.refl _ _)) rfl)
          simp [execOp, Act.eval, d0, x0, go_sem]
        | 5, hi =>
          injection hi with hi; subst hi
          intro c a wn γ hc0 hc1 hG hK hD K hk
          have e1 := hK.at 4 (by kernel_rfl)
          refine wp_pure (.int .i64 k) ?_ (hk _ _ γ hG (Fr.same (Below.refl _ _)) rfl)
          simp [execOp, Act.eval, e1, go_sem]
        | 6, hi =>
          injection hi with hi; subst hi
          intro c a wn γ hc0 hc1 hG hK hD K hk
          have e1 := hK.at 4 (by kernel_rfl)
          refine wp_pure (.int .i64 k) ?_ (hk _ _ γ hG (Fr.same (Below.refl _ _)) rfl)
          simp [execOp, Act.eval, e1, go_sem]
        | 7, hi =>
          injection hi with hi; subst hi
          intro c a wn γ hc0 hc1 hG hK hD K hk
          have d0 := hD 0 (by decide) (by kernel_rfl) (.inl rfl)
          change a.tmps.getD 35 undef = .int .i64 k at d0
          refine wp_pure (.int .i64 ((k + 1 : Nat) : Int)) ?_ (hk _ _ γ hG (Fr.same (Below.refl _ _)) rfl)
          simp [execOp, Act.eval, d0, hw, go_sem]
        | 8, hi =>
          injection hi with hi; subst hi
          intro c a wn γ hc0 hc1 hG hK hD K hk
          have d0 := hD 0 (by decide) (by kernel_rfl) (.inl rfl)
          change a.tmps.getD 33 undef = .slice (some ⟨g, 0, none⟩) Q.I.length pI at d0
          have d1 := hD 1 (by decide) (by kernel_rfl) (.inl rfl)
          change a.tmps.getD 34 undef = .int .i64 k at d1
          have d2 := hD 2 (by decide) (by kernel_rfl) (.inl rfl)
          change a.tmps.getD 36 undef = .int .i64 ((k + 1 : Nat) : Int) at d2
          have hc := hc0 (.inr rfl)
          obtain ⟨hbx, hoI⟩ := hG.box hc
          refine wp_call 40 #[.tmp 33, .tmp 34, .tmp 36] _ rfl (callFunc_enter Try.func40 (by kernel_rfl) (by kernel_rfl)) #[.slice (some ⟨g, 0, none⟩) Q.I.length pI, .int .i64 k, .int .i64 ((k + 1 : Nat) : Int)] (by simp only [List.map_toArray, List.map_cons, List.map_nil]; show #[a.tmps.getD 33 undef, a.tmps.getD 34 undef, a.tmps.getD 36 undef] = _; rw [d0, d1, d2]) (delI_any _ k (k + 1) base _ wn hoI (oneI _) (by omega) (by rw [List.length_map]; omega) (by rw [List.length_map]; omega)) ?_
          rintro e w' ⟨v', rfl, hv, hvb, hO⟩
          have hvv : ownR w' base 36 3 v' ((dropAt Q.I k).map encI) := by unfold dropAt; rw [List.map_append, List.map_take, List.map_drop]; exact hv
          refine ⟨v', rfl, hk v' w' γ ⟨hG.bel.trans (hO.below (fun t ht => (hoI.lt t ht).1) (by have := hG.size; have := hbb.out; omega)), Nat.le_trans hG.size hO.size, (fun e => by cases e), ⟨_, hbx.outS hO H.out.ni⟩, hG.o1.apart hO H.out.q.id, hG.o2.apart hO H.out.q.ia, hG.it.outS hO (fun hh => by have := HLT.out _ hh; omega), hG.pt.outS hO (fun hh => by have := HLT.out _ hh; omega)⟩ ⟨hO, fun _ _ => rfl⟩ ⟨hvv, hvb⟩⟩
        | 9, hi =>
          injection hi with hi; subst hi
          intro c a wn γ hc0 hc1 hG hK hD K hk
          have d0 := hD 0 (by decide) (by kernel_rfl) (.inl rfl)
          change a.tmps.getD 29 undef = .pointer (some ⟨b, 0, none⟩) at d0
          refine wp_pure (.pointer (some ⟨b, 0, none⟩)) ?_ (hk _ _ γ hG (Fr.same (Below.refl _ _)) rfl)
          simp [execOp, Act.eval, d0, go_sem]
        | 10, hi =>
          injection hi with hi; subst hi
          intro c a wn γ hc0 hc1 hG hK hD K hk
          have d0 := hD 0 (by decide) (by kernel_rfl) (.inl rfl)
          change a.tmps.getD 38 undef = .pointer (some ⟨b, 0, none⟩) at d0
          refine wp_pure (.pointer (some ⟨b, 0, none⟩)) ?_ (hk _ _ γ hG (Fr.same (Below.refl _ _)) rfl)
          simp [execOp, Act.eval, d0, go_sem]
        | 11, hi =>
          injection hi with hi; subst hi
          intro c a wn γ hc0 hc1 hG hK hD K hk
          have d0 := hD 0 (by decide) (by kernel_rfl) (.inl rfl)
          change a.tmps.getD 39 undef = .pointer (some ⟨b, 0, none⟩) at d0
          have d1 := hD 1 (by decide) (by kernel_rfl) (.inl rfl)
          change ownR wn base _ 3 (a.tmps.getD 37 undef) ((dropAt Q.I k).map encI) ∧ (a.tmps.getD 37 undef).ownBlock = (.slice (some ⟨g, 0, none⟩) Q.I.length pI : Value).ownBlock at d1
          obtain ⟨k1, k5⟩ := d1
          have hbk : ∀ x, x ∈ blkOf (a.tmps.getD 37 undef) ↔ x ∈ blkOf (.slice (some ⟨g, 0, none⟩) Q.I.length pI) := fun x => by rw [blk_own, blk_own, k5]
          have k2 : b ∉ blkOf (a.tmps.getD 37 undef) := fun hh => H.out.ni ((hbk b).1 hh)
          have k3 : ∀ x ∈ blkOf (a.tmps.getD 37 undef), x ∉ blkOf (.slice aD Q.D.length pD) := fun x hx => H.out.q.id x ((hbk x).1 hx)
          have k4 : ∀ x ∈ blkOf (a.tmps.getD 37 undef), x ∉ blkOf (.slice aA Q.A.length pA) := fun x hx => H.out.q.ia x ((hbk x).1 hx)
          obtain ⟨a3, n3, p3, e3⟩ : ∃ aa nn pp, a.tmps.getD 37 undef = .slice aa nn pp := by obtain ⟨aa, pp, e⟩ := k1.itS; exact ⟨_, _, _, e⟩
          have h1c : (a.tmps.getD 37 undef).oneCell' = true := by rw [e3]; rfl
          have hc := hc1 (by kernel_rfl)
          obtain ⟨u, hu⟩ := hG.bx2
          have hO : OutS [b] wn (wn.setCells b 0 [a.tmps.getD 37 undef]) := OutS.setCells _ _ _
          have hS := objU.setCells [a.tmps.getD 37 undef] [u] [] [.slice aD Q.D.length pD, .slice aA Q.A.length pA, .int .i64 Q.now] wn hu rfl
          have hfr : ∀ (v : Value) (e : TypeId) (k : Nat) (R : List (List Value)), ownR wn base e k v R → b ∉ blkOf v → ownR (wn.setCells b 0 [a.tmps.getD 37 undef]) base e k v R := fun v e k R hv hn => hv.frame (fun g hg => hO.block g (hv.lt g hg).2 (fun hh => hn (by simp at hh; exact hh ▸ hg)))
          refine wp_skip ?_ (hk undef _ γ ⟨hG.bel.trans (hO.below (fun t ht => by simp at ht; omega) (by have := hG.size; have := hbb.out; omega)), Nat.le_trans hG.size hO.size, (fun e => by rw [hc] at e; cases e), ⟨_, hS⟩, (hfr _ _ _ _ hG.o1 H.out.nd), (hfr _ _ _ _ hG.o2 H.out.na), hG.it.outS hO hib.out, hG.pt.outS hO hpb.out⟩ ⟨hO, fun _ _ => rfl⟩ ⟨_, hS, ⟨(hfr _ _ _ _ k1 k2), (hfr _ _ _ _ hG.o1 H.out.nd), (hfr _ _ _ _ hG.o2 H.out.na), k3, k4, H.out.q.da⟩, k2, H.out.nd, H.out.na⟩)
          exact store_run 24 (.tmp 39) (.tmp 37) rfl d0 rfl [a.tmps.getD 37 undef] (cells_one h1c) (one1 h1c) (by kernel_rfl) (hu.there 0 1 (by simp))
        | i + 12, hi => cases hi
      case hend =>
        intro x w3 γ hG hx
        obtain ⟨vI', hQ3⟩ := hx 11 (by decide) rfl
        have B3 := hide hG.bel
        have IT3 := hide hG.it
        have PT3 := hide hG.pt
        have HS3 := hide hG.size
        simp only [putAll, Act.put, List.setIfInBounds_toArray, List.set_cons_zero, List.set_cons_succ, Nat.zero_add, Nat.reduceAdd]
        have HQ3 := hide hQ3
        have HDL : Hid (∀ z ∈ blkOf (.slice aD Q.D.length pD), z < w.heap.size) := fun x hx => (H.out.q.d.lt x hx).2
        clear hG hx hQ3 HPT HIT HQ2 B2 HS H1 PT1 B1 HLT
        obtain ⟨Q1, hQ1⟩ : ∃ Q1 : Qu, Q1 = { Q with I := dropAt Q.I k } := ⟨_, rfl⟩
        have e1 : Q1.D = Q.D := by rw [hQ1]
        have e2 : Q1.A = Q.A := by rw [hQ1]
        have e3 : Q1.now = Q.now := by rw [hQ1]
        have HQ4 : Hid (QB w3 b base Q1 vI' (.slice aD Q.D.length pD) (.slice aA Q.A.length pA)) := by show QB _ _ _ _ _ _ _; rw [hQ1]; exact HQ3.out
        have HE1 := hide hQ1
        have HEL := hide elI
        rw [← e1] at hi60
        clear HQ3 hQ1 e1 e2 e3
        have HLD : Hid (Q1.D.length = Q.D.length) := by show _ = _; rw [HE1.out]
        obtain ⟨y, hy⟩ : ∃ y : It, y = ((Q.I[k]).1, 0, (Q.I[k]).2.2) := ⟨_, rfl⟩
        have HY := hide hy
        have y1 : y.1 = (Q.I[k]).1 := by rw [hy]
        have y2 : y.2.1 = 0 := by rw [hy]
        have y3 : y.2.2 = (Q.I[k]).2.2 := by rw [hy]
        clear hy
        go_wp2
        refine wp_region_inv2 (fun i => if i = 11 then OutS (blkOf (.slice aD Q.D.length pD)) else if i = 14 then OutS [b] else fun u v => Below u.heap.size u v) (fun j => if j = 10 then some 11 else none) 11 (by decide)
          (GD w b base w.heap.size w1.heap.size Q1 Q.I[k] (vI') (.slice aD Q.D.length pD) (.slice aA Q.A.length pA)) (FX b base w1.heap.size Q1 Q.I[k] y (vI') (.slice aD Q.D.length pD) (.slice aA Q.A.length pA)) (by kernel_rfl) (by kernel_rfl) (by kernel_rfl) ?hF2 ?hU2 ?hG2 ?hstep2 ?hend2
        case hF2 =>
          intro i j γ γ' v wa wb hij hsp hnd hsd h hfr
          have ho := hfr.out
          match j, h with
          | 0, h => exact h
          | 1, h => exact h
          | 2, h => exact h
          | 3, h => exact h
          | 4, h => exact h
          | 5, h => exact h
          | 6, h => exact h
          | 7, h => exact h
          | 8, h => exact h
          | 9, h => exact h
          | 10, ⟨g2, t, h1, h2, h3⟩ =>
            rw [if_neg (fun e => hsp (by simp [e]))] at ho
            by_cases e : i = 14
            · rw [if_pos e] at ho
              exact ⟨g2, t, h1, h2.outS ho (by simpa using h3), h3⟩
            · rw [if_neg e] at ho
              exact ⟨g2, t, h1, h2.below ho, h3⟩
          | 11, ⟨h1, h2⟩ =>
            rw [if_neg hij] at ho
            by_cases e : i = 14
            · rw [if_pos e] at ho
              exact ⟨h1.frame (fun x hx => ho.block x (h1.lt x hx).2 (fun hh => h2.1 (by simp at hh; exact hh ▸ hx))), h2⟩
            · rw [if_neg e] at ho
              exact ⟨h1.below ho, h2⟩
          | 12, h => exact h
          | 13, h => exact h
          | 14, ⟨v', h⟩ =>
            by_cases e : i = 11
            · subst e; cases (hnd.symm.trans (by kernel_rfl) : false = true)
            · rw [if_neg e, if_neg hij] at ho
              exact ⟨v', h.below ho⟩
          | j + 15, h => exact h
        case hU2 =>
          intro i o hi hd γ v wa h
          match i, hi with
          | 0, hi => (injection hi with hi; subst hi; cases hd)
          | 1, hi => (injection hi with hi; subst hi; cases hd)
          | 2, hi => (injection hi with hi; subst hi; cases hd)
          | 3, hi => (injection hi with hi; subst hi; cases hd)
          | 4, hi => (injection hi with hi; subst hi; cases hd)
          | 5, hi => (injection hi with hi; subst hi; cases hd)
          | 6, hi => (injection hi with hi; subst hi; cases hd)
          | 7, hi => (injection hi with hi; subst hi; cases hd)
          | 8, hi => (injection hi with hi; subst hi; cases hd)
          | 9, hi => (injection hi with hi; subst hi; cases hd)
          | 10, hi => (injection hi with hi; subst hi; cases hd)
          | 11, hi => (injection hi with hi; subst hi; cases hd)
          | 12, hi => (injection hi with hi; subst hi; cases hd)
          | 13, hi => (injection hi with hi; subst hi; cases hd)
          | 14, hi => exact h
          | i + 15, hi => cases hi
        case hG2 => exact ⟨Below.drew B3.out, HS3.out, fun _ => ⟨objU.dr9 HQ4.out.o, ownR.below HQ4.out.q.d (Below.drew (Below.refl _ _))⟩, ⟨_, objU.dr9 HQ4.out.o⟩, ownR.below HQ4.out.q.i (Below.drew (Below.refl _ _)), ownR.below HQ4.out.q.a (Below.drew (Below.refl _ _)), objU.dr9 IT3.out, objU.dr9 PT3.out⟩
        case hstep2 =>
          have HB : Hid (QB w3 b base Q1 _ _ _) := HQ4.out
          intro i o hi
          match i, hi with
          | 0, hi =>
            injection hi with hi; subst hi
            intro c a wn γ hc0 hc1 hG hK hD K hk
            have e1 := hK.at 1 (by kernel_rfl)
            have x0 := hG.pt.cell 0 _ rfl
            refine wp_pure (.pointer (some ⟨b, 0, none⟩)) ?_ (hk _ _ γ hG (Fr.same (Below.refl _ _)) rfl)
            simp [execOp, Act.eval, e1, x0, go_sem]
          | 1, hi =>
            injection hi with hi; subst hi
            intro c a wn γ hc0 hc1 hG hK hD K hk
            have e1 := hK.at 1 (by kernel_rfl)
            have x0 := hG.pt.cell 0 _ rfl
            refine wp_pure (.pointer (some ⟨b, 0, none⟩)) ?_ (hk _ _ γ hG (Fr.same (Below.refl _ _)) rfl)
            simp [execOp, Act.eval, e1, x0, go_sem]
          | 2, hi =>
            injection hi with hi; subst hi
            intro c a wn γ hc0 hc1 hG hK hD K hk
            have d0 := hD 0 (by decide) (by kernel_rfl) (.inl rfl)
            change a.tmps.getD 41 undef = .pointer (some ⟨b, 0, none⟩) at d0
            refine wp_pure (.pointer (some ⟨b, 0, none⟩)) ?_ (hk _ _ γ hG (Fr.same (Below.refl _ _)) rfl)
            simp [execOp, Act.eval, d0, go_sem]
          | 3, hi =>
            injection hi with hi; subst hi
            intro c a wn γ hc0 hc1 hG hK hD K hk
            have d0 := hD 0 (by decide) (by kernel_rfl) (.inl rfl)
            change a.tmps.getD 42 undef = .pointer (some ⟨b, 0, none⟩) at d0
            refine wp_pure (.pointer (some ⟨b, 1, none⟩)) ?_ (hk _ _ γ hG (Fr.same (Below.refl _ _)) rfl)
            simp [execOp, Act.eval, d0, go_sem]
          | 4, hi =>
            injection hi with hi; subst hi
            intro c a wn γ hc0 hc1 hG hK hD K hk
            have d0 := hD 0 (by decide) (by kernel_rfl) (.inl rfl)
            change a.tmps.getD 43 undef = .pointer (some ⟨b, 1, none⟩) at d0
            have hc := hc0 (.inl (by kernel_rfl))
            have x0 := (hG.box hc).1.cell 1 _ rfl
            refine wp_pure _ ?_ (hk _ _ γ hG (Fr.same (Below.refl _ _)) rfl)
            simp [execOp, Act.eval, d0, x0, go_sem]
          | 5, hi =>
            injection hi with hi; subst hi
            intro c a wn γ hc0 hc1 hG hK hD K hk
            have e1 := hK.at 5 (by kernel_rfl)
            refine wp_pure (.pointer (some ⟨w1.heap.size, 0, none⟩)) ?_ (hk _ _ γ hG (Fr.same (Below.refl _ _)) rfl)
            simp [execOp, Act.eval, e1, go_sem]
          | 6, hi =>
            injection hi with hi; subst hi
            intro c a wn γ hc0 hc1 hG hK hD K hk
            have d0 := hD 0 (by decide) (by kernel_rfl) (.inl rfl)
            change a.tmps.getD 45 undef = .pointer (some ⟨w1.heap.size, 0, none⟩) at d0
            have x0 := hG.it.cell 0 _ rfl
            refine wp_pure (.string (Q.I[k]).1) ?_ (hk _ _ γ hG (Fr.same (Below.refl _ _)) rfl)
            simp [execOp, Act.eval, d0, x0, go_sem]
          | 7, hi =>
            injection hi with hi; subst hi
            intro c a wn γ hc0 hc1 hG hK hD K hk
            have e1 := hK.at 5 (by kernel_rfl)
            refine wp_pure (.pointer (some ⟨w1.heap.size, 2, none⟩)) ?_ (hk _ _ γ hG (Fr.same (Below.refl _ _)) rfl)
            simp [execOp, Act.eval, e1, go_sem]
          | 8, hi =>
            injection hi with hi; subst hi
            intro c a wn γ hc0 hc1 hG hK hD K hk
            have d0 := hD 0 (by decide) (by kernel_rfl) (.inl rfl)
            change a.tmps.getD 47 undef = .pointer (some ⟨w1.heap.size, 2, none⟩) at d0
            have x0 := hG.it.cell 2 _ rfl
            refine wp_pure (.int .i64 (Q.I[k]).2.2) ?_ (hk _ _ γ hG (Fr.same (Below.refl _ _)) rfl)
            simp [execOp, Act.eval, d0, x0, go_sem]
          | 9, hi =>
            injection hi with hi; subst hi
            intro c a wn γ hc0 hc1 hG hK hD K hk
            have d0 := hD 0 (by decide) (by kernel_rfl) (.inl rfl)
            change a.tmps.getD 46 undef = .string (Q.I[k]).1 at d0
            have d1 := hD 1 (by decide) (by kernel_rfl) (.inl rfl)
            change a.tmps.getD 48 undef = .int .i64 (Q.I[k]).2.2 at d1
            rw [Array.getD_eq_getD_getElem?] at d0 d1
            refine wp_pure (.agg #[.string y.1, .int .i64 y.2.1, .int .i64 y.2.2]) ?_ (hk _ _ γ hG (Fr.same (Below.refl _ _)) rfl)
            simp [execOp, Act.eval, d0, d1, y1, y2, y3, go_sem]
          | 10, hi =>
            injection hi with hi; subst hi
            intro c a wn γ hc0 hc1 hG hK hD K hk
            have d0 := hD 0 (by decide) (by kernel_rfl) (.inl rfl)
            change a.tmps.getD 49 undef = .agg #[.string y.1, .int .i64 y.2.1, .int .i64 y.2.2] at d0
            refine wp_val (w' := wn.alloc (.cells #[.string y.1, .int .i64 y.2.1, .int .i64 y.2.2] 36)) (.slice (some ⟨wn.heap.size, 0, none⟩) 1 1) ?_ (hk _ _ γ (hG.below hbb.out (below_alloc _ _)) ⟨below_alloc _ _, fun _ _ => rfl⟩ ⟨_, _, rfl, objU.new _ _ _, by have := hG.size; omega⟩)
            rw [Array.getD_eq_getD_getElem?] at d0
            simp [execOp, Act.eval, d0, go_sem]
          | 11, hi =>
            injection hi with hi; subst hi
            intro c a wn γ hc0 hc1 hG hK hD K hk
            have d0 := hD 0 (by decide) (by kernel_rfl) (.inl rfl)
            change a.tmps.getD 44 undef = .slice aD Q.D.length pD at d0
            have d1 := hD 1 (by decide) (by kernel_rfl) (.inr (.inl rfl))
            change ∃ g2 t, a.tmps.getD 50 undef = .slice (some ⟨g2, 0, none⟩) 1 1 ∧ objU wn g2 t (encI y) ∧ g2 ≠ b at d1
            obtain ⟨g2, t, g1, g3, g4⟩ := d1
            have hc := hc0 (.inr rfl)
            obtain ⟨hbx, hoD⟩ := hG.box hc
            obtain ⟨v', w', r1, r2, r3, r4⟩ := run_append_rd HEL.out (by decide) 24 base _ _ hoD _ _ (rdR.one g3) (rowsI [y]) (oneI [y]) (by have := HLD.out; simp; omega) (by have := hG.size; have := hbb.out; omega)
            have hO := grown_outS r3
            have hnn : ∀ z, w.heap.size ≤ z → z ≠ wn.heap.size → z ∉ blkOf (.slice aD Q.D.length pD) ∨ True := fun _ _ _ => .inr trivial
            refine wp_val v' ?_ (hk _ _ γ ⟨hG.bel.trans (hO.below (fun t ht => (hoD.lt t ht).1) (by have := hG.size; have := hbb.out; omega)), Nat.le_trans hG.size hO.size, (fun e => by cases e), ⟨_, hbx.outS hO HB.out.nd⟩, hG.o0.apart hO (fun z hz hh => HB.out.q.id z hh hz), hG.o2.apart hO HB.out.q.da, hG.it.outS hO (fun hh => by have := HDL.out _ hh; omega), hG.pt.outS hO (fun hh => by have := HDL.out _ hh; omega)⟩ ⟨hO, fun _ _ => rfl⟩ ⟨by rw [List.map_append]; exact r2, new_not r4 HB.out.nd (by have := hG.size; omega), new_apart r4 hG.o0 (fun z hz hh => HB.out.q.id z hh hz), new_apart r4 hG.o2 HB.out.q.da⟩)
            exact append_run (.tmp 44) (.tmp 50) 24 rfl d0 g1 r1
          | 12, hi =>
            injection hi with hi; subst hi
            intro c a wn γ hc0 hc1 hG hK hD K hk
            have d0 := hD 0 (by decide) (by kernel_rfl) (.inl rfl)
            change a.tmps.getD 40 undef = .pointer (some ⟨b, 0, none⟩) at d0
            refine wp_pure (.pointer (some ⟨b, 0, none⟩)) ?_ (hk _ _ γ hG (Fr.same (Below.refl _ _)) rfl)
            simp [execOp, Act.eval, d0, go_sem]
          | 13, hi =>
            injection hi with hi; subst hi
            intro c a wn γ hc0 hc1 hG hK hD K hk
            have d0 := hD 0 (by decide) (by kernel_rfl) (.inl rfl)
            change a.tmps.getD 52 undef = .pointer (some ⟨b, 0, none⟩) at d0
            refine wp_pure (.pointer (some ⟨b, 1, none⟩)) ?_ (hk _ _ γ hG (Fr.same (Below.refl _ _)) rfl)
            simp [execOp, Act.eval, d0, go_sem]
          | 14, hi =>
            injection hi with hi; subst hi
            intro c a wn γ hc0 hc1 hG hK hD K hk
            have d0 := hD 0 (by decide) (by kernel_rfl) (.inl rfl)
            change a.tmps.getD 53 undef = .pointer (some ⟨b, 1, none⟩) at d0
            have d1 := hD 1 (by decide) (by kernel_rfl) (.inl rfl)
            change ownR wn base _ 3 (a.tmps.getD 51 undef) ((Q1.D ++ [y]).map encI) ∧ b ∉ blkOf (a.tmps.getD 51 undef) ∧ (∀ z ∈ blkOf (a.tmps.getD 51 undef), z ∉ blkOf (vI')) ∧ (∀ z ∈ blkOf (a.tmps.getD 51 undef), z ∉ blkOf (.slice aA Q.A.length pA)) at d1
            obtain ⟨k1, k2, k3, k4⟩ := d1
            obtain ⟨a3, n3, p3, e3⟩ : ∃ aa nn pp, a.tmps.getD 51 undef = .slice aa nn pp := by obtain ⟨aa, pp, e⟩ := k1.itS; exact ⟨_, _, _, e⟩
            have h1c : (a.tmps.getD 51 undef).oneCell' = true := by rw [e3]; rfl
            have hc := hc1 (by kernel_rfl)
            obtain ⟨u, hu⟩ := hG.bx2
            have hO : OutS [b] wn (wn.setCells b 1 [a.tmps.getD 51 undef]) := OutS.setCells _ _ _
            have hS := objU.setCells [a.tmps.getD 51 undef] [u] [vI'] [.slice aA Q.A.length pA, .int .i64 Q1.now] wn hu rfl
            have hfr : ∀ (v : Value) (e : TypeId) (k : Nat) (R : List (List Value)), ownR wn base e k v R → b ∉ blkOf v → ownR (wn.setCells b 1 [a.tmps.getD 51 undef]) base e k v R := fun v e k R hv hn => hv.frame (fun g hg => hO.block g (hv.lt g hg).2 (fun hh => hn (by simp at hh; exact hh ▸ hg)))
            refine wp_skip ?_ (hk undef _ γ ⟨hG.bel.trans (hO.below (fun t ht => by simp at ht; omega) (by have := hG.size; have := hbb.out; omega)), Nat.le_trans hG.size hO.size, (fun e => by rw [hc] at e; cases e), ⟨_, hS⟩, (hfr _ _ _ _ hG.o0 HB.out.ni), (hfr _ _ _ _ hG.o2 HB.out.na), hG.it.outS hO hib.out, hG.pt.outS hO hpb.out⟩ ⟨hO, fun _ _ => rfl⟩ ⟨_, hS, ⟨(hfr _ _ _ _ hG.o0 HB.out.ni), (hfr _ _ _ _ k1 k2), (hfr _ _ _ _ hG.o2 HB.out.na), (fun g hg hh => k3 g hh hg), HB.out.q.ia, k4⟩, HB.out.ni, k2, HB.out.na⟩)
            exact store_run 24 (.tmp 53) (.tmp 51) rfl d0 rfl [a.tmps.getD 51 undef] (cells_one h1c) (one1 h1c) (by kernel_rfl) (hu.there 1 1 (by simp))
          | i + 15, hi => cases hi
        case hend2 =>
          intro x w4 γ hG hx
          obtain ⟨vD', hQ5⟩ := hx 14 (by decide) rfl
          have B4 := hide hG.bel
          have z0 := hG.it.cell 0 _ rfl
          have HQ5 : Hid (QB w4 b base { Q with I := dropAt Q.I k, D := Q.D ++ [((Q.I[k]).1, 0, (Q.I[k]).2.2)] } vI' vD' (.slice aA Q.A.length pA)) := by
            have h := hQ5
            rw [HY.out, HE1.out] at h
            exact h
          simp only [putAll, Act.put, List.setIfInBounds_toArray, List.set_cons_zero, List.set_cons_succ, Nat.zero_add, Nat.reduceAdd]
          clear hG hx hQ5
          go_wp2
          refine bodyPost_ret (v := .tuple #[.string (Q.I[k]).1, .bool true]) ?_ rfl ⟨_, _, _, by rw [HR.out], by rw [HR.out]; exact HQ5.out, B4.out⟩
          simp [results, Try.results28, go_sem]
  · have hp : plcP Q.I (fun x => decide (x.2.1 ≤ Q.now)) = -1 := if_neg hR
    rw [hp] at HIX
    have HR : Hid (takeC Q = (Q, ⟨#[]⟩, false)) := dif_neg hR
    clear hp
    go_wp2_with fail
    refine HIX.out.mono ?_
    rintro e w1 ⟨rfl, hb1⟩
    have H1 := hide (H0.out.below hb1)
    have B1 : Hid (Below base w w1) := B0.out.trans (hb1.mono (Nat.le_trans hbb.out B0.out.size))
    clear hb1 x0
    go_wp2
    refine bodyPost_ret (v := .tuple #[.string ⟨#[]⟩, .bool false]) ?_ rfl ⟨_, _, _, by rw [HR.out], by rw [HR.out]; exact H1.out, B1.out⟩
    simp [results, Try.results28, go_sem]
end Go.Proofs.Ytddojjigijfgbaa
/- Queues: the program's Take. -/
namespace Go.Proofs.Ytddojjigijfgbaa
open Go.RowKit Go.BigFrame
set_option linter.unusedVariables false

theorem okIs_drop {I : List It} (h : okIs I) (k : Nat) : okIs (dropAt I k) := by
  unfold dropAt
  refine ⟨?_, fun x hx => ?_⟩
  · have := h.1
    rw [List.length_append, List.length_take, List.length_drop]
    omega
  · rcases List.mem_append.1 hx with hx | hx
    · exact h.2 x (List.mem_of_mem_take hx)
    · exact h.2 x (List.mem_of_mem_drop hx)
theorem okQ_take {Q : Qu} (hq : okQ Q) : okQ (takeQ Q).1 ∧ (takeQ Q).2.1.size ≤ maxLen := by
  have hz : (⟨#[]⟩ : ByteArray).size ≤ maxLen := Nat.zero_le _
  unfold takeQ
  split
  · rename_i h
    have hp := qOk_iff.1 h
    unfold takeC
    split
    · rename_i hk
      split
      · exact ⟨hq, hz⟩
      · have hx := hq.1.2 _ (List.getElem_mem hk)
        refine ⟨⟨okIs_drop hq.1 _, ⟨?_, fun y hy => ?_⟩, hq.2.2.1, hq.2.2.2⟩, hx.1⟩
        · show (Q.D ++ [_]).length ≤ _
          rw [List.length_append, List.length_singleton]
          have := hp.2.1
          omega
        · rcases List.mem_append.1 hy with hy | hy
          · exact hq.2.1.2 y hy
          · simp at hy
            rw [hy]
            exact ⟨hx.1, by show inK .i64 0; unfold inK; omega, hx.2.2⟩
    · exact ⟨hq, hz⟩
  · exact ⟨hq, hz⟩
set_option maxRecDepth 20000 in
set_option maxHeartbeats 1600000 in
theorem iTake_any (Q : Qu) (xs : List Value) (w : World) (hq : okQ Q) (hx : rdQ w Q xs) :
    Calls Try.prog 10 #[.agg xs.toArray] w fun e w' => ∃ vI vD vA, e = .returned (.tuple #[.agg #[vI, vD, vA, .int .i64 (takeQ Q).1.now], .string (takeQ Q).2.1, .bool (takeQ Q).2.2]) ∧ ownQ w' w.heap.size (takeQ Q).1 vI vD vA ∧ Below w.heap.size w w' := by
  have hxx := hx
  obtain ⟨cI, cD, cA, rfl, hI, hD, hA⟩ := hx
  have l1 := hq.1.1
  have l2 := hq.2.1.1
  have l3 := hq.2.2.1.1
  obtain ⟨aI, pI, rfl, -, -⟩ := hI.itS
  obtain ⟨aD, pD, rfl, -, -⟩ := hD.itS
  obtain ⟨aA, pA, rfl, -, -⟩ := hA.stS
  have HX := hide hxx
  have HK := hide hq
  have HI := hide hI
  have HD := hide hD
  have HA := hide hA
  clear hI hD hA hxx hq
  have HCP : Hid (∀ wx, Below w.heap.size w wx → Calls Try.prog 16 #[.agg #[.slice aI Q.I.length pI, .slice aD Q.D.length pD, .slice aA Q.A.length pA, .int .i64 Q.now]] wx fun e w' => ∃ vI vD vA, e = .returned (.agg #[vI, vD, vA, .int .i64 Q.now]) ∧ ownQ w' wx.heap.size Q vI vD vA ∧ Below wx.heap.size wx w') := fun wx hb => copyQ_N Q _ wx HK.out (HX.out.below hb)
  have HOK : Hid (∀ wx, Below w.heap.size w wx → Calls Try.prog 9 #[.agg #[.slice aI Q.I.length pI, .slice aD Q.D.length pD, .slice aA Q.A.length pA, .int .i64 Q.now]] wx fun e w' => e = .returned (.bool (qOk Q)) ∧ Below wx.heap.size wx w') := fun wx hb => iQueueOk_any Q _ wx HK.out (HX.out.below hb)
  obtain ⟨w0, ew0⟩ : ∃ w0, w0 = ((w.alloc (.cells #[.slice aI Q.I.length pI, .slice aD Q.D.length pD, .slice aA Q.A.length pA, .int .i64 Q.now] 27)).alloc (.cells #[.slice none 0 0, .slice none 0 0, .slice none 0 0, .int .i64 0] 27)) := ⟨_, rfl⟩
  have BX : Hid (Below w.heap.size w w0) := by show Below _ _ _; rw [ew0]; exact ((Below.refl _ _).alloc (Nat.le_refl _) _).alloc (by simp) _
  have OX : Hid (objU w0 w.heap.size 27 [.slice aI Q.I.length pI, .slice aD Q.D.length pD, .slice aA Q.A.length pA, .int .i64 Q.now]) := by show objU _ _ _ _; rw [ew0]; exact (objU.new _ _ _).old _
  have OZ : Hid (objU w0 (w.heap.size + 1) 27 [.slice none 0 0, .slice none 0 0, .slice none 0 0, .int .i64 0]) := by show objU _ _ _ _; rw [ew0]; exact objU.new2 _ _ (by simp)
  have SZ : Hid (w0.heap.size = w.heap.size + 2) := by show _ = _; rw [ew0]; simp
  have EW := hide ew0
  clear ew0
  go_enter Try.func10, Try.ntmps10
  go_wp2_with fail
  refine (HCP.out _ (EW.out ▸ BX.out)).mono ?_
  rintro e w1 ⟨vI, vD, vA, rfl, ho, hb⟩
  replace ho : ownQ w1 (w.heap.size + 2) Q vI vD vA := by have h := ho; rw [← SZ.out, EW.out]; exact h
  replace hb : Below w0.heap.size w0 w1 := by have h := hb; rw [EW.out]; exact h
  have HO := hide ho
  have OX1 := hide (OX.out.below hb)
  have OZ1 := hide (OZ.out.below hb)
  have B1 : Hid (Below w.heap.size w w1) := BX.out.trans (hb.mono BX.out.size)
  have S1 : Hid (w.heap.size + 2 ≤ w1.heap.size) := by show _ ≤ _; rw [← SZ.out]; exact hb.size
  obtain ⟨b1, c1, rfl⟩ := ho.i.itS
  obtain ⟨b2, c2, rfl⟩ := ho.d.itS
  obtain ⟨b3, c3, rfl⟩ := ho.a.stS
  have x0 := OX1.out.cell 0 _ rfl
  have x1 := OX1.out.cell 1 _ rfl
  have x2 := OX1.out.cell 2 _ rfl
  have x3 := OX1.out.cell 3 _ rfl
  have hBl := OX1.out.lt
  clear ho hb OX OZ BX SZ EW HCP
  have HX1 : Hid (Below w.heap.size w (w1.alloc (.cells #[.slice b1 Q.I.length c1, .slice b2 Q.D.length c2, .slice b3 Q.A.length c3, .int .i64 Q.now] 27))) := B1.out.alloc B1.out.size _
  have HRn : Hid (qOk Q = false → takeQ Q = (Q, ⟨#[]⟩, false)) := fun h => if_neg (fun g => by rw [h] at g; cases g)
  have HRy : Hid (qOk Q = true → takeQ Q = takeC Q) := fun a => if_pos a
  have HPT : Hid (∀ (b : Nat) (wx : World) (vI vD vA : Value), QB wx b (w.heap.size + 2) Q vI vD vA → w.heap.size + 2 ≤ b → Calls Try.prog 28 #[.pointer (some ⟨b, 0, none⟩)] wx fun e w' => ∃ vI' vD' vA', e = .returned (.tuple #[.string (takeC Q).2.1, .bool (takeC Q).2.2]) ∧ QB w' b (w.heap.size + 2) (takeC Q).1 vI' vD' vA' ∧ Below (w.heap.size + 2) wx w') := fun b wx vI vD vA h hb => take_any Q b _ vI vD vA wx HK.out h hb
  generalize qOk Q = ok at *
  go_wp2_with fail
  refine (HOK.out _ HX1.out).mono ?_
  rintro e w2 ⟨rfl, hb2⟩
  have OX2 := hide ((OX1.out.old _).below hb2)
  have OZ2 := hide ((OZ1.out.old _).below hb2)
  have OB2 : Hid (objU w2 w1.heap.size 27 [.slice b1 Q.I.length c1, .slice b2 Q.D.length c2, .slice b3 Q.A.length c3, .int .i64 Q.now]) := (objU.new _ _ _).below hb2
  have B2 : Hid (Below w.heap.size w w2) := HX1.out.trans (hb2.mono HX1.out.size)
  have OU2 : Hid (OutS [w.heap.size, w.heap.size + 1] w1 w2) := (OutS.of_below (below_alloc _ _)).trans (OutS.of_below hb2)
  have hn1 : ¬ (w1.heap.size = w.heap.size + 1) := by have := S1.out; omega
  have hn2 : ¬ (w1.heap.size = w.heap.size) := by have := S1.out; omega
  have hn3 : ¬ (w.heap.size + 1 = w1.heap.size) := by have := S1.out; omega
  have hn4 : ¬ (w.heap.size = w1.heap.size) := by have := S1.out; omega
  clear hb2 x0 x1 x2 x3 hBl HX1
  have HQB : Hid (QB w2 w1.heap.size (w.heap.size + 2) Q (.slice b1 Q.I.length c1) (.slice b2 Q.D.length c2) (.slice b3 Q.A.length c3)) := ⟨OB2.out, (HO.out.outS OU2.out (fun t ht => by simp at ht; omega)), (fun h => by have := (HO.out.i.lt _ h).2; omega), (fun h => by have := (HO.out.d.lt _ h).2; omega), (fun h => by have := (HO.out.a.lt _ h).2; omega)⟩
  have hS1 := S1.out
  cases ok with
  | false =>
    have HR := hide (HRn.out (by first | rfl | trivial))
    clear HRn HRy HPT HOK
    have u0 := HQB.out.o.cell 0 _ rfl
    have u1 := HQB.out.o.cell 1 _ rfl
    have u2 := HQB.out.o.cell 2 _ rfl
    have u3 := HQB.out.o.cell 3 _ rfl
    have z0 := OZ2.out.cell 0 _ rfl
    have z1 := OZ2.out.cell 1 _ rfl
    have z2 := OZ2.out.cell 2 _ rfl
    have z3 := OZ2.out.cell 3 _ rfl
    have g0 := OZ2.out.fz 0
    have g1 := OZ2.out.fz 1
    have g2 := OZ2.out.fz 2
    have g3 := OZ2.out.fz 3
    have HOU : Hid (OutS [w.heap.size + 1] w2 ((((w2.setCell ⟨w.heap.size + 1, 0, none⟩ (.slice b1 Q.I.length c1)).setCell ⟨w.heap.size + 1, 1, none⟩ (.slice b2 Q.D.length c2)).setCell ⟨w.heap.size + 1, 2, none⟩ (.slice b3 Q.A.length c3)).setCell ⟨w.heap.size + 1, 3, none⟩ (.int .i64 Q.now))) := by
      show OutS _ _ _
      repeat (first | with_reducible exact OutS.refl _ _ | with_reducible refine OutS.setCell ?_ (show _ ∈ [w.heap.size + 1] by simp) _)
    go_wp2
    refine bodyPost_ret (v := .tuple #[.agg #[.slice b1 Q.I.length c1, .slice b2 Q.D.length c2, .slice b3 Q.A.length c3, .int .i64 Q.now], .string ⟨#[]⟩, .bool false]) ?_ rfl ⟨_, _, _, by rw [HR.out], by rw [HR.out]; exact QO.mono (HQB.out.q.outS HOU.out (fun t ht => by simp at ht; omega)) (by omega), B2.out.trans (HOU.out.below (fun t ht => by simp at ht; omega) B2.out.size)⟩
    simp [results, Try.results10, go_sem, z0, z1, z2, z3]
  | true =>
    have HR := hide (HRy.out (by first | rfl | trivial))
    clear HRn HRy HOK
    go_wp2_with fail
    refine (HPT.out _ _ _ _ _ HQB.out hS1).mono ?_
    rintro e w4 ⟨vI', vD', vA', rfl, hq4, hb4⟩
    have HQB4 := hide hq4
    have OZ4 : Hid (objU w4 (w.heap.size + 1) 27 [.slice none 0 0, .slice none 0 0, .slice none 0 0, .int .i64 0]) := (hb4.block _ (Nat.lt_succ_self _)).trans OZ2.out
    have B4 : Hid (Below w.heap.size w w4) := B2.out.trans (hb4.mono (by omega))
    clear hq4 hb4 HPT HQB OZ2 B2 OX2 OB2 OU2
    generalize takeC Q = R at *
    obtain ⟨R1, R2, R3⟩ := R
    dsimp only at HQB4
    obtain ⟨e1, f1, e2, f2, e3, f3, rfl, rfl, rfl⟩ := HQB4.out.xs
    have u0 := HQB4.out.o.cell 0 _ rfl
    have u1 := HQB4.out.o.cell 1 _ rfl
    have u2 := HQB4.out.o.cell 2 _ rfl
    have u3 := HQB4.out.o.cell 3 _ rfl
    have z0 := OZ4.out.cell 0 _ rfl
    have z1 := OZ4.out.cell 1 _ rfl
    have z2 := OZ4.out.cell 2 _ rfl
    have z3 := OZ4.out.cell 3 _ rfl
    have g0 := OZ4.out.fz 0
    have g1 := OZ4.out.fz 1
    have g2 := OZ4.out.fz 2
    have g3 := OZ4.out.fz 3
    have HOU : Hid (OutS [w.heap.size + 1] w4 ((((w4.setCell ⟨w.heap.size + 1, 0, none⟩ (.slice e1 R1.I.length f1)).setCell ⟨w.heap.size + 1, 1, none⟩ (.slice e2 R1.D.length f2)).setCell ⟨w.heap.size + 1, 2, none⟩ (.slice e3 R1.A.length f3)).setCell ⟨w.heap.size + 1, 3, none⟩ (.int .i64 R1.now))) := by
      show OutS _ _ _
      repeat (first | with_reducible exact OutS.refl _ _ | with_reducible refine OutS.setCell ?_ (show _ ∈ [w.heap.size + 1] by simp) _)
    go_wp2
    refine bodyPost_ret (v := .tuple #[.agg #[.slice e1 R1.I.length f1, .slice e2 R1.D.length f2, .slice e3 R1.A.length f3, .int .i64 R1.now], .string R2, .bool R3]) ?_ rfl ⟨_, _, _, by rw [HR.out], by rw [HR.out]; exact QO.mono (HQB4.out.q.outS HOU.out (fun t ht => by simp at ht; omega)) (by omega), B4.out.trans (HOU.out.below (fun t ht => by simp at ht; omega) B4.out.size)⟩
    simp [results, Try.results10, go_sem, z0, z1, z2, z3]
end Go.Proofs.Ytddojjigijfgbaa
/- Queues: the delay on both sides, the program's forget. -/
namespace Go.Proofs.Ytddojjigijfgbaa
open Go.RowKit Go.BigFrame
set_option linter.unusedVariables false

def dlK (k : Nat) : Nat := min (2 ^ k) 64
theorem dlK_le (k : Nat) : dlK k ≤ 64 := Nat.min_le_right _ _
theorem dlK_pos (k : Nat) : 1 ≤ dlK k := by unfold dlK; have := Nat.pow_pos (n := k) (show 0 < 2 by omega); omega
theorem dlK_zero : dlK 0 = 1 := rfl
theorem dlK_lo {k : Nat} (h : 2 * dlK k ≤ 64) : dlK (k + 1) = 2 * dlK k := by unfold dlK at *; rw [Nat.pow_succ]; omega
theorem dlK_hi {k : Nat} (h : ¬ 2 * dlK k ≤ 64) : dlK (k + 1) = 64 := by unfold dlK at *; rw [Nat.pow_succ]; omega
theorem dlK_end {k : Nat} (h : dlK k = 64) : ∀ j, k ≤ j → dlK j = 64 := by
  intro j hj
  unfold dlK at *
  have : 2 ^ k ≤ 2 ^ j := Nat.pow_le_pow_right (by omega) hj
  omega
theorem dlyN_eq {F : Nat} {k : Nat} (h : k + 1 = F) : dlyN F = dlK k := by subst h; rfl
theorem idelay_any (F : Nat) (w : World) (h1 : 1 ≤ F) (h2 : F ≤ 1000) :
    Calls Try.prog 42 #[.int .i64 F] w fun e w' => e = .returned (.int .i64 (dlyN F)) ∧ w' = w := by
  have hF1 : (1 : Int) ≤ (F : Int) := by omega
  have hF2 : (F : Int) ≤ 1000 := by omega
  have hF3 : (F : Int) - 1 = ((F - 1 : Nat) : Int) := by omega
  go_enter Try.func42, Try.ntmps42
  go_wp2
  go_loop [3, 6] (fun s i => ∃ (k : Nat), k ≤ F - 1 ∧ i = .int .i64 k ∧ s = .int .i64 (dlK k)) (fun _ i => F - 1 - (intOf i).toNat)
  case atStart => exact ⟨0, Nat.zero_le _, rfl, rfl⟩
  case round =>
    obtain ⟨k, hk, rfl, rfl⟩ := hrel
    have hp := dlK_pos k
    have hl := dlK_le k
    have hk0 : (0 : Int) ≤ (k : Int) := Int.natCast_nonneg _
    by_cases hlt : k < F - 1
    · have hlt' : (k : Int) < ((F - 1 : Nat) : Int) := by omega
      by_cases h64 : 2 * dlK k ≤ 64
      · have hn := dlK_lo h64
        generalize dlK k = d at *
        go_wp2
        go_round
        case rel => exact ⟨k + 1, by omega, by go_num, by rw [hn]; go_num⟩
        case measure => simp [intOf]; omega
      · have hn := dlK_hi h64
        generalize dlK k = d at *
        go_wp2
        go_round
        case rel => exact ⟨k + 1, by omega, by go_num, by rw [hn]; go_num⟩
        case measure => simp [intOf]; omega
    · have hlt' : ¬ (k : Int) < ((F - 1 : Nat) : Int) := by omega
      have hn : Hid (((dlK k : Nat) : Int) = (dlyN F : Int)) := by show _ = _; rw [dlyN_eq (k := k) (by omega)]
      go_wp2
      go_ret
      exact ⟨ret_int hn.out, rfl⟩
theorem sdelay_any (F : Nat) (w : World) (h1 : 1 ≤ F) (h2 : F ≤ 1000) :
    Calls Try.prog 51 #[.int .i64 F] w fun e w' => e = .returned (.int .i64 (dlyN F)) ∧ w' = w := by
  have hF1 : (1 : Int) ≤ (F : Int) := by omega
  have hF2 : (F : Int) ≤ 1000 := by omega
  go_enter Try.func51, Try.ntmps51
  go_wp2
  go_loop [3, 4] (fun s i => ∃ (k : Nat), k ≤ F - 1 ∧ i = .int .i64 ((k + 1 : Nat) : Int) ∧ s = .int .i64 (2 ^ k : Nat) ∧ 2 ^ k ≤ 64) (fun _ i => F - (intOf i).toNat)
  case atStart => exact ⟨0, Nat.zero_le _, rfl, rfl, by decide⟩
  case round =>
    obtain ⟨k, hk, rfl, rfl, hl⟩ := hrel
    have hp : 0 < 2 ^ k := Nat.pow_pos (by omega)
    have hk0 : (0 : Int) ≤ (k : Int) := Int.natCast_nonneg _
    have he : dlK k = 2 ^ k := Nat.min_eq_left hl
    have hs : 2 ^ (k + 1) = 2 * 2 ^ k := by rw [Nat.pow_succ]; omega
    by_cases hlt : k + 1 < F
    · have hlt' : ((k + 1 : Nat) : Int) < (F : Int) := by omega
      by_cases h64 : 2 ^ k < 64
      · have hle : 2 ^ (k + 1) ≤ 64 := by
          have hk6 : k ≤ 5 := by
            cases Nat.lt_or_ge k 6 with
            | inl h => omega
            | inr h => have : 2 ^ 6 ≤ 2 ^ k := Nat.pow_le_pow_right (by omega) h; omega
          have : 2 ^ (k + 1) ≤ 2 ^ 6 := Nat.pow_le_pow_right (by omega) (by omega)
          exact this
        have hR : ((2 ^ (k + 1) : Nat) : Int) = ((2 ^ k : Nat) : Int) * 2 := by omega
        have h64' : ((2 ^ k : Nat) : Int) < 64 := by omega
        have HR := hide hR
        have HL := hide hle
        clear hR hle hs he
        generalize 2 ^ k = d at *
        go_wp2
        go_round
        case rel => exact ⟨k + 1, by omega, by go_num, by rw [HR.out], HL.out⟩
        case measure => simp [intOf]; omega
      · have hn : dlyN F = 64 := by
          rw [dlyN_eq (k := F - 1) (by omega)]
          exact dlK_end (k := k) (by omega) _ (by omega)
        have h64' : ¬ ((2 ^ k : Nat) : Int) < 64 := by omega
        have hd : 2 ^ k = 64 := by omega
        clear he hs
        generalize 2 ^ k = d at *
        have hi : Hid (((d : Nat) : Int) = (dlyN F : Int)) := by show _ = _; omega
        clear hn hd
        go_wp2
        go_ret
        exact ⟨ret_int hi.out, rfl⟩
    · have hlt' : ¬ ((k + 1 : Nat) : Int) < (F : Int) := by omega
      have hn : dlyN F = 2 ^ k := by rw [dlyN_eq (k := k) (by omega)]; exact he
      clear he hs
      generalize 2 ^ k = d at *
      have hi : Hid (((d : Nat) : Int) = (dlyN F : Int)) := by show _ = _; omega
      clear hn
      go_wp2
      go_ret
      exact ⟨ret_int hi.out, rfl⟩
theorem filt_none {A : List ByteArray} {s : ByteArray} (h : inA A s = false) : A.filter (fun t => decide (t ≠ s)) = A := by
  rw [List.filter_eq_self]
  intro t ht
  simp only [decide_eq_true_eq]
  rintro rfl
  rw [inA_iff.2 ht] at h
  cases h
theorem filt_at {A : List ByteArray} {s : ByteArray} {i : Nat} (hn : A.Nodup) (hi : i < A.length) (he : A[i]'hi = s) : A.filter (fun t => decide (t ≠ s)) = dropAt A i := by
  induction A generalizing i with
  | nil => simp at hi
  | cons a A ih =>
    obtain ⟨h1, h2⟩ := List.nodup_cons.1 hn
    cases i with
    | zero =>
      have e : a = s := by simpa using he
      subst e
      have : A.filter (fun t => decide (t ≠ a)) = A := by
        rw [List.filter_eq_self]
        intro t ht
        simp only [decide_eq_true_eq]
        rintro rfl
        exact h1 ht
      rw [List.filter_cons_of_neg (by simp), this]
      unfold dropAt
      simp
    | succ i =>
      have hi' : i < A.length := by simpa using hi
      have he' : A[i]'hi' = s := by simpa using he
      have hne : a ≠ s := by rintro rfl; exact h1 (he' ▸ List.getElem_mem hi')
      rw [List.filter_cons_of_pos (by simpa using hne), ih h2 hi' he']
      unfold dropAt
      simp
theorem QB.repA {X w3 : World} {b base : Nat} {Q : Qu} {vI vD vA v' : Value} {L : List ByteArray} (h : QB X b base Q vI vD vA) (ho : ownR w3 base 9 1 v' (L.map encS)) (hO : OutS (blkOf vA) X w3) (hat : v'.ownBlock = vA.ownBlock) :
    QB (w3.setCell ⟨b, 2, none⟩ v') b base { Q with A := L } vI vD v' := by
  have hbk : ∀ g, g ∈ blkOf v' ↔ g ∈ blkOf vA := fun g => by rw [blk_own, blk_own, hat]
  have hnb : b ∉ blkOf v' := fun hh => h.na ((hbk b).1 hh)
  have hkI := h.q.i.apart hO (fun g hg hh => h.q.ia g hh hg)
  have hkD := h.q.d.apart hO (fun g hg hh => h.q.da g hh hg)
  have hnew := ho.setCell ⟨b, 2, none⟩ hnb v'
  have hobj := (h.o.outS hO h.na).set 2 v'
  exact ⟨hobj, ⟨(hkI.setCell _ (fun hh => h.ni (by simpa using hh)) _), (hkD.setCell _ (fun hh => h.nd (by simpa using hh)) _), hnew, h.q.id, (fun g hg hh => h.q.ia g hg ((hbk g).1 hh)), (fun g hg hh => h.q.da g hg ((hbk g).1 hh))⟩, h.ni, h.nd, hnb⟩
theorem QB.repD {X w3 : World} {b base : Nat} {Q : Qu} {vI vD vA v' : Value} {L : List It} (h : QB X b base Q vI vD vA) (ho : ownR w3 base 36 3 v' (L.map encI)) (hO : OutS (blkOf vD) X w3) (hat : v'.ownBlock = vD.ownBlock) :
    QB (w3.setCell ⟨b, 1, none⟩ v') b base { Q with D := L } vI v' vA := by
  have hbk : ∀ g, g ∈ blkOf v' ↔ g ∈ blkOf vD := fun g => by rw [blk_own, blk_own, hat]
  have hnb : b ∉ blkOf v' := fun hh => h.nd ((hbk b).1 hh)
  have hkI := h.q.i.apart hO (fun g hg hh => h.q.id g hh hg)
  have hkA := h.q.a.apart hO (fun g hg hh => h.q.da g hg hh)
  have hnew := ho.setCell ⟨b, 1, none⟩ hnb v'
  have hobj := (h.o.outS hO h.nd).set 1 v'
  exact ⟨hobj, ⟨(hkI.setCell _ (fun hh => h.ni (by simpa using hh)) _), hnew, (hkA.setCell _ (fun hh => h.na (by simpa using hh)) _), (fun g hg hh => h.q.id g hg ((hbk g).1 hh)), h.q.ia, (fun g hg hh => h.q.da g ((hbk g).1 hg) hh)⟩, h.ni, hnb, h.na⟩
set_option maxRecDepth 20000 in
set_option maxHeartbeats 1600000 in
theorem forget_any (Q : Qu) (s : ByteArray) (b base : Nat) (vI vD vA : Value) (w : World) (hl : Q.A.length ≤ 4000000) (hn : Q.A.Nodup) (h : QB w b base Q vI vD vA) (hbase : base ≤ b) :
    Calls Try.prog 41 #[.pointer (some ⟨b, 0, none⟩), .string s] w fun e w' => ∃ vA', e = .returned (.bool (inA Q.A s)) ∧ QB w' b base { Q with A := Q.A.filter (fun t => decide (t ≠ s)) } vI vD vA' ∧ Below base w w' := by
  obtain ⟨aA, pA, rfl⟩ := h.q.a.stS
  have H := hide h
  have hbl := h.lt
  have x2 := h.o.cell 2 _ rfl
  have HIX := hide (ixStr_any Q.A s (.slice aA Q.A.length pA) w (h.q.a.rd (by decide)) hl)
  clear h
  go_enter Try.func41, Try.ntmps41
  go_wp2_with fail
  refine HIX.out.mono ?_
  rintro e w1 ⟨r, rfl, hr, hw⟩
  obtain rfl : w = w1 := hw.symm
  clear HIX hw
  rcases hr with ⟨rfl, hno⟩ | ⟨k, hk, rfl, he, -⟩
  · have HB := hide hno
    have hf : Hid (Q.A.filter (fun t => decide (t ≠ s)) = Q.A) := filt_none hno
    clear hno
    go_wp2
    go_ret
    exact ⟨_, ret_bool HB.out.symm, by rw [hf.out]; exact H.out, Below.refl _ _⟩
  · have hk0 : (0 : Int) ≤ (k : Int) := Int.natCast_nonneg _
    have hb : inA Q.A s = true := inA_iff.2 (he ▸ List.getElem_mem hk)
    have hf : Hid (Q.A.filter (fun t => decide (t ≠ s)) = dropAt Q.A k) := filt_at hn hk he
    have HB := hide hb
    have HDL := hide (delS_any (Q.A.map encS) k (k + 1) base (.slice aA Q.A.length pA) w H.out.q.a (oneS _) (by omega) (by rw [List.length_map]; omega) (by rw [List.length_map]; omega))
    clear hb he hn
    go_wp2_with fail
    refine HDL.out.mono ?_
    rintro e w2 ⟨v', rfl, hv, hvb, hO⟩
    have hv2 : ownR w2 base 9 1 v' ((dropAt Q.A k).map encS) := by unfold dropAt; rw [List.map_append, List.map_take, List.map_drop]; exact hv
    have HQ2 := hide (H.out.repA hv2 hO hvb)
    have HB2 : Hid (Below base w (w2.setCell ⟨b, 2, none⟩ v')) := (hO.below (fun t ht => (H.out.q.a.lt t ht).1) (by omega)).setCell (p := ⟨b, 2, none⟩) hbase _
    have hob := H.out.o.outS hO H.out.na
    have y2 := hob.cell 2 _ rfl
    have f2 := hob.fz 2
    obtain ⟨a3, p3, e3⟩ := hv2.stS
    obtain ⟨n3, rfl⟩ : ∃ n, v' = .slice a3 n p3 := ⟨_, e3⟩
    clear hv hvb hO hv2 HDL e3 hob x2
    go_wp2
    go_ret
    exact ⟨_, ret_bool HB.out.symm, by rw [hf.out]; exact HQ2.out, HB2.out⟩
end Go.Proofs.Ytddojjigijfgbaa
/- Queues: the specification's Take. -/
namespace Go.Proofs.Ytddojjigijfgbaa
open Go.RowKit Go.BigFrame
set_option linter.unusedVariables false

theorem takeQ_none {Q : Qu} (h : ∀ j (hj : j < Q.I.length), Q.now < (Q.I[j]'hj).2.1) : takeQ Q = (Q, ⟨#[]⟩, false) := by
  have := rdy_none (fun j hj => Int.not_le.2 (h j hj))
  unfold takeQ takeC
  split
  · rw [dif_neg (by omega)]
  · rfl
theorem takeQ_bad {Q : Qu} (h : qOk Q = false) : takeQ Q = (Q, ⟨#[]⟩, false) := if_neg (fun g => by rw [h] at g; cases g)
theorem takeQ_full {Q : Qu} (h : ¬ Q.D.length < 60) : takeQ Q = (Q, ⟨#[]⟩, false) := by
  unfold takeQ takeC
  split
  · rename_i hq
    have := (qOk_iff.1 hq).2.1
    split
    · rw [if_pos (by omega)]
    · rfl
  · rfl
theorem takeQ_hit {Q : Qu} {q : Nat} (h : q < Q.I.length) (ho : qOk Q = true) (hd : Q.D.length < 60) (hr : (Q.I[q]'h).2.1 ≤ Q.now) (hn : ∀ j (hj : j < Q.I.length), j < q → Q.now < (Q.I[j]'hj).2.1) : takeQ Q = ({ Q with I := dropAt Q.I q, D := Q.D ++ [((Q.I[q]'h).1, 0, (Q.I[q]'h).2.2)] }, (Q.I[q]'h).1, true) := by
  have e : rdyN Q.I Q.now = q := (rdy_at h).2 ⟨hr, fun j hj => Int.not_le.2 (hn j (by omega) hj)⟩
  subst e
  unfold takeQ
  rw [if_pos ho]
  unfold takeC
  rw [dif_pos h, if_neg (by omega)]
theorem QB.cutI {w0 w' : World} {b base : Nat} {Q : Qu} {L : List It} {v vI vD vA : Value} (h : QB w0 b base Q vI vD vA) (ho : objU w' b 27 [v, vD, vA, .int .i64 Q.now]) (hv : ownR w' w0.heap.size 36 3 v (L.map encI)) (hO : OutS [b] w0 w') (hbs : base ≤ w0.heap.size) : QB w' b base { Q with I := L } v vD vA :=
  ⟨ho, ⟨hv.mono hbs, h.q.d.apart hO (fun g hg hh => h.nd (by simp at hg; exact hg ▸ hh)), h.q.a.apart hO (fun g hg hh => h.na (by simp at hg; exact hg ▸ hh)), fun g hg hh => by have := (hv.lt g hg).1; have := (h.q.d.lt g hh).2; omega, fun g hg hh => by have := (hv.lt g hg).1; have := (h.q.a.lt g hh).2; omega, h.q.da⟩, fun hh => by have := (hv.lt _ hh).1; have := h.lt; omega, h.nd, h.na⟩
theorem QB.cutD {w0 w' : World} {b base : Nat} {Q : Qu} {L : List It} {v vI vD vA : Value} (h : QB w0 b base Q vI vD vA) (ho : objU w' b 27 [vI, v, vA, .int .i64 Q.now]) (hv : ownR w' w0.heap.size 36 3 v (L.map encI)) (hO : OutS [b] w0 w') (hbs : base ≤ w0.heap.size) : QB w' b base { Q with D := L } vI v vA :=
  ⟨ho, ⟨h.q.i.apart hO (fun g hg hh => h.ni (by simp at hg; exact hg ▸ hh)), hv.mono hbs, h.q.a.apart hO (fun g hg hh => h.na (by simp at hg; exact hg ▸ hh)), fun g hg hh => by have := (hv.lt g hh).1; have := (h.q.i.lt g hg).2; omega, h.q.ia, fun g hg hh => by have := (hv.lt g hg).1; have := (h.q.a.lt g hh).2; omega⟩, h.ni, fun hh => by have := (hv.lt _ hh).1; have := h.lt; omega, h.na⟩
/-- what the operations yield: N the start's size, box and out the blocks, c the slice that came in, L its items -/
def FC (w0 : World) (N box j : Nat) (b : Nat) (L : List It) (k : Nat) (a : Option Addr) (cap : Nat) (A : Option Addr) (CS : Value → List Value) : Nat → (Nat → Nat) → Value → World → Prop
  | 0, γ, v, w => ∃ g, v = .slice (some ⟨g, 0, none⟩) 0 0 ∧ ownR w N 36 3 v []
  | 1, γ, v, w => v = .pointer (some ⟨box, j, none⟩)
  | 6, γ, v, w => v = .pointer (some ⟨box, j, none⟩)
  | 2, γ, v, w => v = .slice a L.length cap
  | 7, γ, v, w => v = .slice a L.length cap
  | 3, γ, v, w => v = .int .i64 k
  | 8, γ, v, w => v = .int .i64 k
  | 9, γ, v, w => v = .int .i64 ((k + 1 : Nat) : Int)
  | 4, γ, v, w => v = .slice a k cap
  | 10, γ, v, w => v = .slice A (L.length - (k + 1)) (cap - (k + 1))
  | 5, γ, v, w => ownR w N 36 3 v ((L.take k).map encI)
  | 11, γ, v, w => ownR w N 36 3 v ((dropAt L k).map encI)
  | 12, γ, v, w => v = .pointer (some ⟨b, j, none⟩)
  | 13, γ, v, w => ∃ u, objU w b 27 (CS u) ∧ ownR w N 36 3 u ((dropAt L k).map encI) ∧ OutS [b] w0 w
  | _, _, _, _ => False
def FR9 (hs ib : Nat) (C : List Value) (s : ByteArray) : Nat → (Nat → Nat) → Value → World → Prop
  | 0, γ, v, w => v = .agg C.toArray
  | 1, γ, v, w => v = .pointer (some ⟨ib, 0, none⟩)
  | 2, γ, v, w => v = .string s
  | 3, γ, v, w => objU w (hs + 1) 27 C
  | 4, γ, v, w => v = .string s
  | 5, γ, v, w => v = .bool true
  | _, _, _, _ => False
set_option maxRecDepth 20000 in
set_option maxHeartbeats 3200000 in
theorem sTake_any (Q : Qu) (xs : List Value) (w : World) (hq : okQ Q) (hx : rdQ w Q xs) :
    Calls Try.prog 43 #[.agg xs.toArray] w fun e w' => ∃ vI vD vA, e = .returned (.tuple #[.agg #[vI, vD, vA, .int .i64 (takeQ Q).1.now], .string (takeQ Q).2.1, .bool (takeQ Q).2.2]) ∧ ownQ w' w.heap.size (takeQ Q).1 vI vD vA ∧ Below w.heap.size w w' := by
  have hxx := hx
  obtain ⟨cI, cD, cA, rfl, hI, hD, hA⟩ := hx
  have l1 := hq.1.1
  have l2 := hq.2.1.1
  have l3 := hq.2.2.1.1
  obtain ⟨aI, pI, rfl, -, -⟩ := hI.itS
  obtain ⟨aD, pD, rfl, -, -⟩ := hD.itS
  obtain ⟨aA, pA, rfl, -, -⟩ := hA.stS
  have HX := hide hxx
  have HK := hide hq
  have HI := hide hI
  have HD := hide hD
  have HA := hide hA
  clear hI hD hA hxx hq
  have HCP : Hid (∀ wx, Below w.heap.size w wx → Calls Try.prog 19 #[.agg #[.slice aI Q.I.length pI, .slice aD Q.D.length pD, .slice aA Q.A.length pA, .int .i64 Q.now]] wx fun e w' => ∃ vI vD vA, e = .returned (.agg #[vI, vD, vA, .int .i64 Q.now]) ∧ ownQ w' wx.heap.size Q vI vD vA ∧ Below wx.heap.size wx w') := fun wx hb => l9Copy_N Q _ wx HK.out (HX.out.below hb)
  have HOK : Hid (∀ wx, Below w.heap.size w wx → Calls Try.prog 8 #[.agg #[.slice aI Q.I.length pI, .slice aD Q.D.length pD, .slice aA Q.A.length pA, .int .i64 Q.now]] wx fun e w' => e = .returned (.bool (qOk Q)) ∧ Below wx.heap.size wx w') := fun wx hb => sQueueOk_any Q _ wx HK.out (HX.out.below hb)
  obtain ⟨w0, ew0⟩ : ∃ w0, w0 = ((w.alloc (.cells #[.slice aI Q.I.length pI, .slice aD Q.D.length pD, .slice aA Q.A.length pA, .int .i64 Q.now] 27)).alloc (.cells #[.slice none 0 0, .slice none 0 0, .slice none 0 0, .int .i64 0] 27)) := ⟨_, rfl⟩
  have BX : Hid (Below w.heap.size w w0) := by show Below _ _ _; rw [ew0]; exact ((Below.refl _ _).alloc (Nat.le_refl _) _).alloc (by simp) _
  have OX : Hid (objU w0 w.heap.size 27 [.slice aI Q.I.length pI, .slice aD Q.D.length pD, .slice aA Q.A.length pA, .int .i64 Q.now]) := by show objU _ _ _ _; rw [ew0]; exact (objU.new _ _ _).old _
  have OZ : Hid (objU w0 (w.heap.size + 1) 27 [.slice none 0 0, .slice none 0 0, .slice none 0 0, .int .i64 0]) := by show objU _ _ _ _; rw [ew0]; exact objU.new2 _ _ (by simp)
  have SZ : Hid (w0.heap.size = w.heap.size + 2) := by show _ = _; rw [ew0]; simp
  have EW := hide ew0
  clear ew0
  go_enter Try.func43, Try.ntmps43
  go_wp2_with fail
  refine (HCP.out _ (EW.out ▸ BX.out)).mono ?_
  rintro e w1 ⟨vI, vD, vA, rfl, ho, hb⟩
  replace ho : ownQ w1 (w.heap.size + 2) Q vI vD vA := by have h := ho; rw [← SZ.out, EW.out]; exact h
  replace hb : Below w0.heap.size w0 w1 := by have h := hb; rw [EW.out]; exact h
  have HO := hide ho
  have OX1 := hide (OX.out.below hb)
  have OZ1 := hide (OZ.out.below hb)
  have B1 : Hid (Below w.heap.size w w1) := BX.out.trans (hb.mono BX.out.size)
  have S1 : Hid (w.heap.size + 2 ≤ w1.heap.size) := by show _ ≤ _; rw [← SZ.out]; exact hb.size
  obtain ⟨b1, c1, rfl⟩ := ho.i.itS
  obtain ⟨b2, c2, rfl⟩ := ho.d.itS
  obtain ⟨b3, c3, rfl⟩ := ho.a.stS
  have x0 := OX1.out.cell 0 _ rfl
  have x1 := OX1.out.cell 1 _ rfl
  have x2 := OX1.out.cell 2 _ rfl
  have x3 := OX1.out.cell 3 _ rfl
  have hBl := OX1.out.lt
  clear ho hb OX OZ BX SZ EW HCP x0 x1 x2 x3 hBl
  have HX1 : Hid (Below w.heap.size w (w1.alloc (.cells #[.slice b1 Q.I.length c1, .slice b2 Q.D.length c2, .slice b3 Q.A.length c3, .int .i64 Q.now] 27))) := B1.out.alloc B1.out.size _
  have OXB := hide (OX1.out.old (.cells #[.slice b1 Q.I.length c1, .slice b2 Q.D.length c2, .slice b3 Q.A.length c3, .int .i64 Q.now] 27))
  have OZB := hide (OZ1.out.old (.cells #[.slice b1 Q.I.length c1, .slice b2 Q.D.length c2, .slice b3 Q.A.length c3, .int .i64 Q.now] 27))
  have HQB : Hid (QB (w1.alloc (.cells #[.slice b1 Q.I.length c1, .slice b2 Q.D.length c2, .slice b3 Q.A.length c3, .int .i64 Q.now] 27)) w1.heap.size (w.heap.size + 2) Q (.slice b1 Q.I.length c1) (.slice b2 Q.D.length c2) (.slice b3 Q.A.length c3)) := ⟨objU.new _ _ _, HO.out.below (below_alloc _ _), (fun h => by have := (HO.out.i.lt _ h).2; omega), (fun h => by have := (HO.out.d.lt _ h).2; omega), (fun h => by have := (HO.out.a.lt _ h).2; omega)⟩
  have hS1 := S1.out
  have HBD := hide (@takeQ_bad Q)
  have HHT := hide (fun q h => @takeQ_hit Q q h)
  have HEI := hide elI
  have HCI : Hid (Q.I.length ≤ pI) := by
    obtain ⟨a', c', e, h2, -, -⟩ := HI.out
    injection e with e1 e2 e3
    rw [e3]
    rw [List.length_map] at h2
    exact h2
  generalize qOk Q = ok at *
  go_wp2
  generalize (w1.alloc (.cells #[.slice b1 Q.I.length c1, .slice b2 Q.D.length c2, .slice b3 Q.A.length c3, .int .i64 Q.now] 27)) = wB at *
  clear OX1 OZ1 B1 HO
  go_loopw [6] (fun i wr => ∃ (q : Nat), q ≤ Q.I.length ∧ i = .int .i64 q ∧ Hid (∀ j (h : j < Q.I.length), j < q → Q.now < (Q.I[j]'h).2.1) ∧ Hid (Below wB.heap.size wB wr)) (fun i _ => Q.I.length - (intOf i).toNat)
  case atStart => exact ⟨0, Nat.zero_le _, rfl, (fun j _ h => by omega), Below.refl _ _⟩
  case round =>
    obtain ⟨q, hq, rfl, Ho, Hb⟩ := hrel
    have hq0 : (0 : Int) ≤ (q : Int) := Int.natCast_nonneg _
    have OXr := hide (OXB.out.below Hb.out)
    have OZr := hide (OZB.out.below Hb.out)
    have HQr := hide (HQB.out.below Hb.out)
    have Br : Hid (Below w.heap.size w wr) := HX1.out.trans (Hb.out.mono HX1.out.size)
    have x0 := OXr.out.cell 0 _ rfl
    have x1 := OXr.out.cell 1 _ rfl
    have x2 := OXr.out.cell 2 _ rfl
    have x3 := OXr.out.cell 3 _ rfl
    by_cases hlt : q < Q.I.length
    · have hlt' : (q : Int) < (Q.I.length : Int) := by omega
      go_wp2_with fail
      refine (HOK.out _ Br.out).mono ?_
      rintro e w3 ⟨rfl, hb3⟩
      clear x0 x1 x2 x3
      have OX3 := hide (OXr.out.below hb3)
      have OZ3 := hide (OZr.out.below hb3)
      have HQ3 := hide (HQr.out.below hb3)
      have B3 : Hid (Below w.heap.size w w3) := Br.out.trans (hb3.mono Br.out.size)
      have Hb3 : Hid (Below wB.heap.size wB w3) := Hb.out.trans (hb3.mono Hb.out.size)
      have OB3 := hide HQ3.out.o
      have x0 := OX3.out.cell 0 _ rfl
      have x1 := OX3.out.cell 1 _ rfl
      have x3 := OX3.out.cell 3 _ rfl
      clear hb3 OXr OZr HQr Br Hb HOK
      cases ok with
      | false =>
        have HR := hide (HBD.out (by first | rfl | trivial))
        clear HBD HHT Ho
        have u0 := HQ3.out.o.cell 0 _ rfl
        have u1 := HQ3.out.o.cell 1 _ rfl
        have u2 := HQ3.out.o.cell 2 _ rfl
        have u3 := HQ3.out.o.cell 3 _ rfl
        have z0 := OZ3.out.cell 0 _ rfl
        have z1 := OZ3.out.cell 1 _ rfl
        have z2 := OZ3.out.cell 2 _ rfl
        have z3 := OZ3.out.cell 3 _ rfl
        have g0 := OZ3.out.fz 0
        have g1 := OZ3.out.fz 1
        have g2 := OZ3.out.fz 2
        have g3 := OZ3.out.fz 3
        have HOU : Hid (OutS [w.heap.size + 1] w3 ((((w3.setCell ⟨w.heap.size + 1, 0, none⟩ (.slice b1 Q.I.length c1)).setCell ⟨w.heap.size + 1, 1, none⟩ (.slice b2 Q.D.length c2)).setCell ⟨w.heap.size + 1, 2, none⟩ (.slice b3 Q.A.length c3)).setCell ⟨w.heap.size + 1, 3, none⟩ (.int .i64 Q.now))) := by
          show OutS _ _ _
          repeat (first | with_reducible exact OutS.refl _ _ | with_reducible refine OutS.setCell ?_ (show _ ∈ [w.heap.size + 1] by simp) _)
        go_wp2
        refine bodyPost_ret (v := .tuple #[.agg #[.slice b1 Q.I.length c1, .slice b2 Q.D.length c2, .slice b3 Q.A.length c3, .int .i64 Q.now], .string ⟨#[]⟩, .bool false]) ?_ rfl ⟨_, _, _, by rw [HR.out], by rw [HR.out]; exact QO.mono (HQ3.out.q.outS HOU.out (fun t ht => by simp at ht; omega)) (by omega), B3.out.trans (HOU.out.below (fun t ht => by simp at ht; omega) B3.out.size)⟩
        simp [results, Try.results43, go_sem, z0, z1, z2, z3]
      | true =>
        by_cases h60 : Q.D.length < 60
        · have h60' : (Q.D.length : Int) < 60 := by omega
          obtain ⟨bq, oq, rfl, hbq, c0, c1', c2'⟩ := (HI.out.below B3.out).itAt hlt
          have Hye : Hid (Q.now < (Q.I[q]'hlt).2.1 → ∀ j (h : j < Q.I.length), j < q + 1 → Q.now < (Q.I[j]'h).2.1) := fun h j hj hjq => by
            by_cases e : j = q
            · subst e; exact h
            · exact Ho.out j hj (by omega)
          have Hit : Hid ((Q.I[q]'hlt).2.1 ≤ Q.now → takeQ Q = ({ Q with I := dropAt Q.I q, D := Q.D ++ [((Q.I[q]'hlt).1, 0, (Q.I[q]'hlt).2.2)] }, (Q.I[q]'hlt).1, true)) := fun h => HHT.out q hlt (by first | rfl | trivial) h60 h Ho.out
          clear HBD HHT Ho
          generalize Q.I[q]'hlt = y at *
          have OI4 : Hid (objU (w3.alloc (.cells #[.string y.1, .int .i64 y.2.1, .int .i64 y.2.2] 36)) w3.heap.size 36 [.string y.1, .int .i64 y.2.1, .int .i64 y.2.2]) := objU.new _ _ _
          have OX4 := hide (OX3.out.old (.cells #[.string y.1, .int .i64 y.2.1, .int .i64 y.2.2] 36))
          have OZ4 := hide (OZ3.out.old (.cells #[.string y.1, .int .i64 y.2.1, .int .i64 y.2.2] 36))
          have HQ4 := hide (HQ3.out.below (below_alloc w3 (.cells #[.string y.1, .int .i64 y.2.1, .int .i64 y.2.2] 36)))
          have OB4 := hide HQ4.out.o
          have B4 : Hid (Below w.heap.size w (w3.alloc (.cells #[.string y.1, .int .i64 y.2.1, .int .i64 y.2.2] 36))) := B3.out.alloc B3.out.size _
          have Hb4 : Hid (Below wB.heap.size wB (w3.alloc (.cells #[.string y.1, .int .i64 y.2.1, .int .i64 y.2.2] 36))) := Hb3.out.alloc Hb3.out.size _
          have hi4 : Hid (w1.heap.size < w3.heap.size) := OB3.out.lt
          have hBl3 := OX3.out.lt
          have hS3 : Hid (w3.heap.size < (w3.alloc (.cells #[.string y.1, .int .i64 y.2.1, .int .i64 y.2.2] 36)).heap.size) := by show _ < _; simp
          by_cases hrd : y.2.1 ≤ Q.now
          · have HR := hide (Hit.out hrd)
            have HND3 : Hid (∀ g ∈ blkOf (.slice b2 Q.D.length c2), g < w3.heap.size) := fun g hg => (HQ3.out.q.d.lt g hg).2
            clear Hit Hye OX3 OZ3 HQ3 B3 Hb3 OB3 OXB OZB HQB Hb4
            go_wp2
            generalize w3.alloc (.cells #[.string y.1, .int .i64 y.2.1, .int .i64 y.2.2] 36) = w4 at *
            clear c0 c1' c2' x0 x1 x3
            have HND : Hid (w3.heap.size ∉ blkOf (.slice b2 Q.D.length c2)) := fun hh => by have := (HND3.out _ hh); omega
            have hk0 := hq0
            have hkc : q ≤ pI := by have := HCI.out; omega
            have hk1n : q + 1 ≤ Q.I.length := hlt
            have hnc : Q.I.length ≤ pI := HCI.out
            have hw : IntKind.i64.wrap ((q : Int) + 1) = (q : Int) + 1 := uwrap64 _ (by omega) (by omega)
            have hk1p : (0 : Int) ≤ (q : Int) + 1 := by omega
            have hk1q : ¬ ((Q.I.length : Int) < (q : Int) + 1) := by omega
            obtain ⟨A, hA⟩ : ∃ A : Option Addr, A = if pI = q + 1 then some ⟨bq, oq, none⟩ else some ⟨bq, oq + (q + 1) * 3, none⟩ := ⟨_, rfl⟩
            have HAA := hide hA
            clear hA
            refine wp_region_inv2 (fun i => if i = 11 then Below w4.heap.size else if i = 13 then OutS [w1.heap.size] else fun u v => Below u.heap.size u v) (fun i => if i = 0 then some 11 else if i = 5 then some 11 else none) 13 (by decide)
              (fun c wn => (c = false → Below w4.heap.size w4 wn) ∧ w4.heap.size ≤ wn.heap.size) (FC w4 w4.heap.size w.heap.size 0 w1.heap.size Q.I q (some ⟨bq, oq, none⟩) pI A (fun u => [u, .slice b2 Q.D.length c2, .slice b3 Q.A.length c3, .int .i64 Q.now])) (by kernel_rfl) (by kernel_rfl) (by kernel_rfl) ?hF7 ?hU7 ?hG7 ?hstep7 ?hend7
            case hF7 =>
              intro i j γ γ' v wa wb hij hsp hnd hsd h hfr
              have ho := hfr.out
              match j, h with
              | 0, ⟨g2, h1, h2⟩ =>
                rw [if_neg (fun e => hsp (by simp [e]))] at ho
                by_cases e : i = 13
                · rw [if_pos e] at ho
                  subst e
                  cases ((hsd 11 rfl).symm.trans (by kernel_rfl) : false = true)
                · rw [if_neg e] at ho
                  exact ⟨g2, h1, h2.below ho⟩
              | 1, h => exact h
              | 2, h => exact h
              | 3, h => exact h
              | 4, h => exact h
              | 5, h =>
                rw [if_neg (fun e => hsp (by simp [e]))] at ho
                by_cases e : i = 13
                · rw [if_pos e] at ho
                  subst e
                  cases ((hsd 11 rfl).symm.trans (by kernel_rfl) : false = true)
                · rw [if_neg e] at ho
                  exact h.below ho
              | 6, h => exact h
              | 7, h => exact h
              | 8, h => exact h
              | 9, h => exact h
              | 10, h => exact h
              | 11, h =>
                rw [if_neg hij] at ho
                by_cases e : i = 13
                · rw [if_pos e] at ho
                  exact h.frame (fun x hx => ho.block x (h.lt x hx).2 (fun hh => by simp at hh; have := (h.lt x hx).1; have := OB4.out.lt; omega))
                · rw [if_neg e] at ho
                  exact h.below ho
              | 12, h => exact h
              | 13, ⟨u, h1, h2, h3⟩ =>
                by_cases e : i = 11
                · subst e; cases (hnd.symm.trans (by kernel_rfl) : false = true)
                · rw [if_neg e, if_neg hij] at ho
                  exact ⟨u, h1.below ho, h2.below ho, h3.trans (OutS.of_below ho)⟩
              | j + 14, h => exact h.elim
            case hU7 =>
              intro i o hi hd γ v wa h
              match i, hi with
              | 0, hi => (injection hi with hi; subst hi; cases hd)
              | 1, hi => (injection hi with hi; subst hi; cases hd)
              | 2, hi => (injection hi with hi; subst hi; cases hd)
              | 3, hi => (injection hi with hi; subst hi; cases hd)
              | 4, hi => (injection hi with hi; subst hi; cases hd)
              | 5, hi => (injection hi with hi; subst hi; cases hd)
              | 6, hi => (injection hi with hi; subst hi; cases hd)
              | 7, hi => (injection hi with hi; subst hi; cases hd)
              | 8, hi => (injection hi with hi; subst hi; cases hd)
              | 9, hi => (injection hi with hi; subst hi; cases hd)
              | 10, hi => (injection hi with hi; subst hi; cases hd)
              | 11, hi => (injection hi with hi; subst hi; cases hd)
              | 12, hi => (injection hi with hi; subst hi; cases hd)
              | 13, hi => exact h
              | i + 14, hi => cases hi
            case hG7 => exact ⟨fun _ => Below.drew (Below.refl _ _), Nat.le_refl _⟩
            case hstep7 =>
              intro i o hi
              match i, hi with
              | 0, hi =>
                injection hi with hi; subst hi
                intro c a wn γ hc0 hc1 hG hK hD K hk
                have hc := hc0 (.inl (by kernel_rfl))
                subst hc
                have hB := hG.1 rfl
                refine wp_val (.slice (some ⟨wn.heap.size, 0, none⟩) 0 0) ?_ (hk _ _ γ (by rw [if_neg (by decide)]; exact ⟨fun _ => hB.alloc hG.2 _, by simp; have := hG.2; omega⟩) ⟨below_alloc _ _, fun _ _ => rfl⟩ ⟨_, rfl, ownR.lit wn _ 36 3 hG.2⟩)
                simp [execOp, Act.eval, go_sem]
              | 1, hi =>
                injection hi with hi; subst hi
                intro c a wn γ hc0 hc1 hG hK hD K hk
                have e1 := hK.at 1 (by kernel_rfl)
                refine wp_pure (.pointer (some ⟨w.heap.size, 0, none⟩)) ?_ (hk _ _ γ (by rw [if_neg (by decide)]; exact hG) (Fr.same (Below.refl _ _)) rfl)
                simp [execOp, Act.eval, e1, go_sem]
              | 2, hi =>
                injection hi with hi; subst hi
                intro c a wn γ hc0 hc1 hG hK hD K hk
                have d0 := hD 0 (by decide) (by kernel_rfl) (.inl rfl)
                change a.tmps.getD 38 undef = .pointer (some ⟨w.heap.size, 0, none⟩) at d0
                have hc := hc0 (.inl (by kernel_rfl))
                subst hc
                have hB := hG.1 rfl
                have x0 := (objU.below OX4.out hB).cell 0 _ rfl
                refine wp_pure _ ?_ (hk _ _ γ (by rw [if_neg (by decide)]; exact hG) (Fr.same (Below.refl _ _)) rfl)
                simp [execOp, Act.eval, d0, x0, go_sem]
              | 3, hi =>
                injection hi with hi; subst hi
                intro c a wn γ hc0 hc1 hG hK hD K hk
                have e1 := hK.at 6 (by kernel_rfl)
                refine wp_pure (.int .i64 q) ?_ (hk _ _ γ (by rw [if_neg (by decide)]; exact hG) (Fr.same (Below.refl _ _)) rfl)
                simp [execOp, Act.eval, e1, go_sem]
              | 4, hi =>
                injection hi with hi; subst hi
                intro c a wn γ hc0 hc1 hG hK hD K hk
                have d0 := hD 0 (by decide) (by kernel_rfl) (.inl rfl)
                change a.tmps.getD 39 undef = .slice (some ⟨bq, oq, none⟩) Q.I.length pI at d0
                have d1 := hD 1 (by decide) (by kernel_rfl) (.inl rfl)
                change a.tmps.getD 40 undef = .int .i64 q at d1
                rw [Array.getD_eq_getD_getElem?] at d0 d1
                refine wp_pure (.slice (some ⟨bq, oq, none⟩) q pI) ?_ (hk _ _ γ (by rw [if_neg (by decide)]; exact hG) (Fr.same (Below.refl _ _)) rfl)
                simp [execOp, Act.eval, d0, d1, hkc, hk0, go_sem]
              | 5, hi =>
                injection hi with hi; subst hi
                intro c a wn γ hc0 hc1 hG hK hD K hk
                have d0 := hD 0 (by decide) (by kernel_rfl) (.inr (.inr ⟨11, rfl, by kernel_rfl⟩))
                change ∃ g, a.tmps.getD 37 undef = .slice (some ⟨g, 0, none⟩) 0 0 ∧ ownR wn w4.heap.size 36 3 (a.tmps.getD 37 undef) [] at d0
                have d1 := hD 1 (by decide) (by kernel_rfl) (.inl rfl)
                change a.tmps.getD 41 undef = .slice (some ⟨bq, oq, none⟩) q pI at d1
                have hc := hc0 (.inl (by kernel_rfl))
                subst hc
                have hB := hG.1 rfl
                obtain ⟨g2, g1, g3⟩ := d0
                rw [g1] at g3
                have hrd := rdR.take (HI.out.below (B4.out.trans (hB.mono B4.out.size))) (i := q) (by rw [List.length_map]; omega)
                rw [← List.map_take] at hrd
                obtain ⟨v', w', r1, r2, r3, r4⟩ := run_append_rd0 HEI.out (by decide) 24 w4.heap.size g2 g3 _ _ hrd (rowsI _) (oneI _) (by rw [List.length_map, List.length_take]; omega) hG.2
                refine wp_val v' ?_ (hk _ _ γ (by rw [if_neg (by decide)]; exact ⟨fun _ => hB.trans (r3.mono hG.2), by have := r3.size; have := hG.2; omega⟩) ⟨r3, fun _ _ => rfl⟩ r2)
                exact append_run (.tmp 37) (.tmp 41) 24 rfl g1 d1 r1
              | 6, hi =>
                injection hi with hi; subst hi
                intro c a wn γ hc0 hc1 hG hK hD K hk
                have e1 := hK.at 1 (by kernel_rfl)
                refine wp_pure (.pointer (some ⟨w.heap.size, 0, none⟩)) ?_ (hk _ _ γ (by rw [if_neg (by decide)]; exact hG) (Fr.same (Below.refl _ _)) rfl)
                simp [execOp, Act.eval, e1, go_sem]
              | 7, hi =>
                injection hi with hi; subst hi
                intro c a wn γ hc0 hc1 hG hK hD K hk
                have d0 := hD 0 (by decide) (by kernel_rfl) (.inl rfl)
                change a.tmps.getD 43 undef = .pointer (some ⟨w.heap.size, 0, none⟩) at d0
                have hc := hc0 (.inl (by kernel_rfl))
                subst hc
                have hB := hG.1 rfl
                have x0 := (objU.below OX4.out hB).cell 0 _ rfl
                refine wp_pure _ ?_ (hk _ _ γ (by rw [if_neg (by decide)]; exact hG) (Fr.same (Below.refl _ _)) rfl)
                simp [execOp, Act.eval, d0, x0, go_sem]
              | 8, hi =>
                injection hi with hi; subst hi
                intro c a wn γ hc0 hc1 hG hK hD K hk
                have e1 := hK.at 6 (by kernel_rfl)
                refine wp_pure (.int .i64 q) ?_ (hk _ _ γ (by rw [if_neg (by decide)]; exact hG) (Fr.same (Below.refl _ _)) rfl)
                simp [execOp, Act.eval, e1, go_sem]
              | 9, hi =>
                injection hi with hi; subst hi
                intro c a wn γ hc0 hc1 hG hK hD K hk
                have d0 := hD 0 (by decide) (by kernel_rfl) (.inl rfl)
                change a.tmps.getD 45 undef = .int .i64 q at d0
                refine wp_pure (.int .i64 ((q + 1 : Nat) : Int)) ?_ (hk _ _ γ (by rw [if_neg (by decide)]; exact hG) (Fr.same (Below.refl _ _)) rfl)
                simp [execOp, Act.eval, d0, hw, go_sem]
              | 10, hi =>
                injection hi with hi; subst hi
                intro c a wn γ hc0 hc1 hG hK hD K hk
                have d0 := hD 0 (by decide) (by kernel_rfl) (.inl rfl)
                change a.tmps.getD 44 undef = .slice (some ⟨bq, oq, none⟩) Q.I.length pI at d0
                have d1 := hD 1 (by decide) (by kernel_rfl) (.inl rfl)
                change a.tmps.getD 46 undef = .int .i64 ((q + 1 : Nat) : Int) at d1
                rw [Array.getD_eq_getD_getElem?] at d0 d1
                refine wp_pure (.slice A (Q.I.length - (q + 1)) (pI - (q + 1))) ?_ (hk _ _ γ (by rw [if_neg (by decide)]; exact hG) (Fr.same (Below.refl _ _)) rfl)
                simp [execOp, Act.eval, d0, d1, hk1p, hk1q, HAA.out, go_sem]
              | 11, hi =>
                injection hi with hi; subst hi
                intro c a wn γ hc0 hc1 hG hK hD K hk
                have d0 := hD 0 (by decide) (by kernel_rfl) (.inr (.inl rfl))
                change ownR wn w4.heap.size 36 3 (a.tmps.getD 42 undef) ((Q.I.take q).map encI) at d0
                have d1 := hD 1 (by decide) (by kernel_rfl) (.inl rfl)
                change a.tmps.getD 47 undef = .slice A (Q.I.length - (q + 1)) (pI - (q + 1)) at d1
                have hc := hc0 (.inl (by kernel_rfl))
                subst hc
                have hB := hG.1 rfl
                have hrd := rdR.drop (HI.out.below (B4.out.trans (hB.mono B4.out.size))) (i := q + 1) (by rw [List.length_map]; omega) HAA.out
                rw [← List.map_drop, List.length_map] at hrd
                obtain ⟨v', w', r1, r2, r3, r4⟩ := run_append_rd HEI.out (by decide) 24 w4.heap.size _ _ d0 _ _ hrd (rowsI _) (oneI _) (by rw [List.length_map, List.length_map, List.length_take, List.length_drop]; omega) hG.2
                rw [← List.map_append] at r2
                have rb : Below w4.heap.size wn w' := Below.grown (Below.refl _ _) r3 hG.2 (fun z hz => (d0.lt z (blk_own.2 hz)).1)
                refine wp_val v' ?_ (hk _ _ γ (by rw [if_neg (by decide)]; exact ⟨fun _ => hB.trans rb, by have := rb.size; have := hG.2; omega⟩) ⟨rb, fun _ _ => rfl⟩ r2)
                exact append_run (.tmp 42) (.tmp 47) 24 rfl rfl d1 r1
              | 12, hi =>
                injection hi with hi; subst hi
                intro c a wn γ hc0 hc1 hG hK hD K hk
                have e1 := hK.at 5 (by kernel_rfl)
                refine wp_pure (.pointer (some ⟨w1.heap.size, 0, none⟩)) ?_ (hk _ _ γ (by rw [if_neg (by decide)]; exact hG) (Fr.same (Below.refl _ _)) rfl)
                simp [execOp, Act.eval, e1, go_sem]
              | 13, hi =>
                injection hi with hi; subst hi
                intro c a wn γ hc0 hc1 hG hK hD K hk
                have d0 := hD 0 (by decide) (by kernel_rfl) (.inl rfl)
                change a.tmps.getD 49 undef = .pointer (some ⟨w1.heap.size, 0, none⟩) at d0
                have d1 := hD 1 (by decide) (by kernel_rfl) (.inl rfl)
                change ownR wn w4.heap.size 36 3 (a.tmps.getD 48 undef) ((dropAt Q.I q).map encI) at d1
                have hc := hc0 (.inr rfl)
                subst hc
                have hB := hG.1 rfl
                obtain ⟨a3, n3, p3, e3⟩ : ∃ aa nn pp, a.tmps.getD 48 undef = .slice aa nn pp := by obtain ⟨aa, pp, e⟩ := d1.itS; exact ⟨_, _, _, e⟩
                have h1c : (a.tmps.getD 48 undef).oneCell' = true := by rw [e3]; rfl
                have hu := objU.below OB4.out hB
                have hO : OutS [w1.heap.size] wn (wn.setCells w1.heap.size 0 [a.tmps.getD 48 undef]) := OutS.setCells _ _ _
                have hS := objU.setCells [a.tmps.getD 48 undef] [.slice b1 Q.I.length c1] [] [.slice b2 Q.D.length c2, .slice b3 Q.A.length c3, .int .i64 Q.now] wn hu rfl
                have hlt := OB4.out.lt
                refine wp_skip ?_ (hk undef _ γ (by rw [if_pos rfl]; exact ⟨(fun e => by cases e), Nat.le_trans hG.2 hO.size⟩) ⟨hO, fun _ _ => rfl⟩ ⟨_, hS, d1.frame (fun x hx => hO.block x (d1.lt x hx).2 (fun hh => by simp at hh; have := (d1.lt x hx).1; omega)), (OutS.of_below hB).trans hO⟩)
                exact store_run 24 (.tmp 49) (.tmp 48) rfl d0 rfl [a.tmps.getD 48 undef] (cells_one h1c) (one1 h1c) (by kernel_rfl) (hu.there 0 1 (by simp))
              | i + 14, hi => cases hi
            case hend7 =>
              intro x w5 γ hG hx
              obtain ⟨u5, ho5, hv5, hO5⟩ := hx 13 (by decide) rfl
              simp only [putAll, Act.put, List.setIfInBounds_toArray, List.set_cons_zero, List.set_cons_succ, Nat.zero_add, Nat.reduceAdd]
              have hlO := OB4.out.lt
              have hi0 := hi4.out
              have HQ5 : Hid (QB w5 w1.heap.size (w.heap.size + 2) { Q with I := dropAt Q.I q } u5 (.slice b2 Q.D.length c2) (.slice b3 Q.A.length c3)) := HQ4.out.cutI ho5 hv5 hO5 (by omega)
              have OI5 := hide (OI4.out.outS hO5 (by simp; omega))
              have OZ5 := hide (OZ4.out.outS hO5 (by simp; omega))
              have B5 : Hid (Below w.heap.size w w5) := B4.out.trans (hO5.below (fun t ht => by simp at ht; omega) B4.out.size)
              obtain ⟨a5, n5, p5, rfl⟩ : ∃ a n p, u5 = .slice a n p := by obtain ⟨a, p, e⟩ := hv5.itS; exact ⟨_, _, _, e⟩
              clear ho5 hv5 hO5 hx hG OI4 OZ4 HQ4 OB4 B4 OX4
              have H6 : Hid (QB (w5.alloc (.cells #[.string y.1, .int .i64 0, .int .i64 y.2.2] 36)) w1.heap.size (w.heap.size + 2) { Q with I := dropAt Q.I q } (.slice a5 n5 p5) (.slice b2 Q.D.length c2) (.slice b3 Q.A.length c3)) := HQ5.out.below (below_alloc _ _)
              have O6 : Hid (objU (w5.alloc (.cells #[.string y.1, .int .i64 0, .int .i64 y.2.2] 36)) w5.heap.size 36 (encI (y.1, 0, y.2.2))) := objU.new _ _ _
              have OI6 := hide (OI5.out.old (.cells #[.string y.1, .int .i64 0, .int .i64 y.2.2] 36))
              have OZ6 := hide (OZ5.out.old (.cells #[.string y.1, .int .i64 0, .int .i64 y.2.2] 36))
              have y1 := HQ5.out.o.cell 1 _ rfl
              have i0 := OI5.out.cell 0 _ rfl
              have i2 := OI5.out.cell 2 _ rfl
              have hlI := OI5.out.lt
              go_wp2_with (at_builtin; refine wpList_append_rd rfl _ _ 24 rfl 36 3 HEI.out (by decide) (w.heap.size + 2) _ _ rfl H6.out.q.d _ _ rfl (rdR.one O6.out) (rowsI [(y.1, 0, y.2.2)]) (oneI [(y.1, 0, y.2.2)]) (by simp; omega) (by have := H6.out.lt; omega) ?_)
              intro v7 w7 ho7 hg7 ha7
              rw [show (Q.D.map encI) ++ [encI (y.1, 0, y.2.2)] = (Q.D ++ [(y.1, 0, y.2.2)]).map encI by simp] at ho7
              have HQ7 : Hid (QB (w7.setCell ⟨w1.heap.size, 1, none⟩ v7) w1.heap.size (w.heap.size + 2) { Q with I := dropAt Q.I q, D := Q.D ++ [(y.1, 0, y.2.2)] } (.slice a5 n5 p5) v7 (.slice b3 Q.A.length c3)) := H6.out.appD ho7 hg7 (by simpa using ha7)
              have HB7 : Hid (Below w.heap.size w (w7.setCell ⟨w1.heap.size, 1, none⟩ v7)) := B5.out.trans (((below_alloc _ _).mono B5.out.size).trans ((H6.out.grown H6.out.q.d hg7 (by omega) 1).mono (by omega)))
              have hnI : ¬ w3.heap.size ∈ blkOf (.slice b2 Q.D.length c2) := fun hh => HND.out hh
              have OI7 := hide ((OI6.out.outS (grown_outS hg7) hnI).outS (OutS.setCells [v7] 1 w7 (b := w1.heap.size)) (by simp; omega))
              have OZ7 := hide ((OZ6.out.outS (grown_outS hg7) (fun hh => by have := H6.out.q.d.lt _ hh; omega)).outS (OutS.setCells [v7] 1 w7 (b := w1.heap.size)) (by simp; omega))
              have y1' := (H6.out.o.outS (grown_outS hg7) H6.out.nd).cell 1 _ rfl
              have f1' := (H6.out.o.outS (grown_outS hg7) H6.out.nd).fz 1
              obtain ⟨a7, n7, p7, rfl⟩ : ∃ a n p, v7 = .slice a n p := by obtain ⟨a, p, e⟩ := ho7.itS; exact ⟨_, _, _, e⟩
              clear ho7 hg7 ha7 y1 H6 O6 OI6 OZ6 i0 i2 hlI
              go_wp2
              have OB8 := hide HQ7.out.o
              change Hid (objU (w7.setCell ⟨w1.heap.size, 1, none⟩ (.slice a7 n7 p7)) w3.heap.size _ _) at OI7
              change Hid (objU (w7.setCell ⟨w1.heap.size, 1, none⟩ (.slice a7 n7 p7)) (w.heap.size + 1) _ _) at OZ7
              generalize (w7.setCell ⟨w1.heap.size, 1, none⟩ (.slice a7 n7 p7)) = w8 at *
              refine wp_region_inv (fun i => if i = 3 then OutS [w.heap.size + 1] else Eq) (fun _ => none) (fun wn => OutS [w.heap.size + 1] w8 wn ∧ ∃ zs, zs.length = 4 ∧ objU wn (w.heap.size + 1) 27 zs) (FR9 w.heap.size w3.heap.size [.slice a5 n5 p5, .slice a7 n7 p7, .slice b3 Q.A.length c3, .int .i64 Q.now] y.1) (by kernel_rfl) (by kernel_rfl) (by kernel_rfl) ?hF9 ?hU9 ?hG9 ?hstep9 ?hend9
              case hF9 =>
                intro i j γ γ' v wa wb hij hsp hnd hsd h hfr
                have ho := hfr.out
                match j, h with
                | 0, h => exact h
                | 1, h => exact h
                | 2, h => exact h
                | 4, h => exact h
                | 5, h => exact h
                | 3, h =>
                  rw [if_neg hij] at ho
                  exact ho ▸ h
                | j + 6, h => exact h.elim
              case hU9 =>
                intro i o hi hd γ v wa h
                match i, hi with
                | 0, hi => (injection hi with hi; subst hi; cases hd)
                | 1, hi => (injection hi with hi; subst hi; cases hd)
                | 2, hi => (injection hi with hi; subst hi; cases hd)
                | 3, hi => exact h
                | 4, hi => (injection hi with hi; subst hi; cases hd)
                | 5, hi => (injection hi with hi; subst hi; cases hd)
                | i + 6, hi => cases hi
              case hG9 => exact ⟨OutS.of_below (Below.drew (Below.refl _ _)), _, rfl, objU.dr9 OZ7.out⟩
              case hstep9 =>
                intro i o hi
                match i, hi with
                | 0, hi =>
                  injection hi with hi; subst hi
                  intro a wn γ hG hK hD K hk
                  have e1 := hK.at 5 (by kernel_rfl)
                  have hb := hG.1
                  have hu := OB8.out.outS hb (by simp; omega)
                  have x0 := hu.cell 0 _ rfl
                  have x1 := hu.cell 1 _ rfl
                  have x2 := hu.cell 2 _ rfl
                  have x3 := hu.cell 3 _ rfl
                  refine wp_pure (.agg #[.slice a5 n5 p5, .slice a7 n7 p7, .slice b3 Q.A.length c3, .int .i64 Q.now]) ?_ (hk _ _ γ hG (Fr.same (by exact (Eq.refl wn))) rfl)
                  simp [execOp, Act.eval, e1, x0, x1, x2, x3, go_sem]
                | 1, hi =>
                  injection hi with hi; subst hi
                  intro a wn γ hG hK hD K hk
                  have e1 := hK.at 7 (by kernel_rfl)
                  refine wp_pure (.pointer (some ⟨w3.heap.size, 0, none⟩)) ?_ (hk _ _ γ hG (Fr.same (by exact (Eq.refl wn))) rfl)
                  simp [execOp, Act.eval, e1, go_sem]
                | 2, hi =>
                  injection hi with hi; subst hi
                  intro a wn γ hG hK hD K hk
                  have d0 := hD 0 (by decide) (by kernel_rfl) (.inl rfl)
                  change a.tmps.getD 61 undef = .pointer (some ⟨w3.heap.size, 0, none⟩) at d0
                  have x0 := (OI7.out.outS hG.1 (by simp; omega)).cell 0 _ rfl
                  refine wp_pure (.string y.1) ?_ (hk _ _ γ hG (Fr.same (by exact (Eq.refl wn))) rfl)
                  simp [execOp, Act.eval, d0, x0, go_sem]
                | 3, hi =>
                  injection hi with hi; subst hi
                  intro a wn γ hG hK hD K hk
                  have e2 := hK.at 2 (by kernel_rfl)
                  have g1 := hD 0 (by decide) (by kernel_rfl) (.inl rfl)
                  change a.tmps.getD 60 undef = .agg #[.slice a5 n5 p5, .slice a7 n7 p7, .slice b3 Q.A.length c3, .int .i64 Q.now] at g1
                  obtain ⟨hb, zs, hz, ho⟩ := hG
                  have ho2 := objU.setCells [.slice a5 n5 p5, .slice a7 n7 p7, .slice b3 Q.A.length c3, .int .i64 Q.now] zs [] [] wn (by simpa using ho) hz
                  have hO : OutS [w.heap.size + 1] wn (wn.setCells (w.heap.size + 1) 0 [.slice a5 n5 p5, .slice a7 n7 p7, .slice b3 Q.A.length c3, .int .i64 Q.now]) := OutS.setCells _ _ _
                  have ho3 : objU (wn.setCells (w.heap.size + 1) 0 [.slice a5 n5 p5, .slice a7 n7 p7, .slice b3 Q.A.length c3, .int .i64 Q.now]) (w.heap.size + 1) 27 [.slice a5 n5 p5, .slice a7 n7 p7, .slice b3 Q.A.length c3, .int .i64 Q.now] := by simpa using ho2
                  refine wp_skip ?_ (hk undef _ γ ⟨hb.trans hO, _, rfl, ho3⟩ ⟨by exact hO, fun _ _ => rfl⟩ ho3)
                  exact store_run 27 (.tmp 2) (.tmp 60) rfl e2 g1 [.slice a5 n5 p5, .slice a7 n7 p7, .slice b3 Q.A.length c3, .int .i64 Q.now] rfl (by intro u hu; simp at hu; rcases hu with rfl | rfl | rfl | rfl <;> rfl) Try.zQueue_impl_Queue (ho.there 0 4 (by simp [hz]))
                | 4, hi =>
                  injection hi with hi; subst hi
                  intro a wn γ hG hK hD K hk
                  have d0 := hD 0 (by decide) (by kernel_rfl) (.inl rfl)
                  change a.tmps.getD 62 undef = .string y.1 at d0
                  rw [Array.getD_eq_getD_getElem?] at d0
                  refine wp_pure (.string y.1) ?_ (hk _ _ γ hG (Fr.same (by exact (Eq.refl wn))) rfl)
                  simp [execOp, Act.eval, d0, go_sem]
                | 5, hi =>
                  injection hi with hi; subst hi
                  intro a wn γ hG hK hD K hk
                  refine wp_pure (.bool true) ?_ (hk _ _ γ hG (Fr.same (by exact (Eq.refl wn))) rfl)
                  simp [execOp, Act.eval, go_sem]
                | i + 6, hi => cases hi
              case hend9 =>
                intro x w9 γ hG hx
                have ho9 := hx 3 (by decide) rfl
                have hn9 := hx 4 (by decide) rfl
                have hb9 := hx 5 (by decide) rfl
                change x 4 = .string y.1 at hn9
                change x 5 = .bool true at hb9
                change objU w9 (w.heap.size + 1) 27 [.slice a5 n5 p5, .slice a7 n7 p7, .slice b3 Q.A.length c3, .int .i64 Q.now] at ho9
                have hO9 := hG.1
                clear hG hx
                simp only [putAll, Act.put, List.setIfInBounds_toArray, List.set_cons_zero, List.set_cons_succ, Nat.zero_add, Nat.reduceAdd, hn9, hb9]
                have z0 := ho9.cell 0 _ rfl
                have z1 := ho9.cell 1 _ rfl
                have z2 := ho9.cell 2 _ rfl
                have z3 := ho9.cell 3 _ rfl
                go_wp2
                refine bodyPost_ret (v := .tuple #[.agg #[.slice a5 n5 p5, .slice a7 n7 p7, .slice b3 Q.A.length c3, .int .i64 Q.now], .string y.1, .bool true]) ?_ rfl ⟨_, _, _, by rw [HR.out], by rw [HR.out]; exact QO.mono (HQ7.out.q.outS hO9 (fun t ht => by simp at ht; omega)) (by omega), HB7.out.trans (hO9.below (fun t ht => by simp at ht; omega) HB7.out.size)⟩
                simp [results, Try.results43, go_sem, z0, z1, z2, z3]
          · have Hn := hide (Hye.out (Int.not_le.1 hrd))
            clear Hit Hye
            go_wp2
            go_roundw
            case rel => exact ⟨q + 1, by omega, by go_num, Hn, Hb4⟩
            case measure => simp [intOf]; omega
        · have h60' : ¬ (Q.D.length : Int) < 60 := by omega
          have HR := hide (takeQ_full h60)
          clear HBD HHT Ho
          have u0 := HQ3.out.o.cell 0 _ rfl
          have u1 := HQ3.out.o.cell 1 _ rfl
          have u2 := HQ3.out.o.cell 2 _ rfl
          have u3 := HQ3.out.o.cell 3 _ rfl
          have z0 := OZ3.out.cell 0 _ rfl
          have z1 := OZ3.out.cell 1 _ rfl
          have z2 := OZ3.out.cell 2 _ rfl
          have z3 := OZ3.out.cell 3 _ rfl
          have g0 := OZ3.out.fz 0
          have g1 := OZ3.out.fz 1
          have g2 := OZ3.out.fz 2
          have g3 := OZ3.out.fz 3
          have HOU : Hid (OutS [w.heap.size + 1] w3 ((((w3.setCell ⟨w.heap.size + 1, 0, none⟩ (.slice b1 Q.I.length c1)).setCell ⟨w.heap.size + 1, 1, none⟩ (.slice b2 Q.D.length c2)).setCell ⟨w.heap.size + 1, 2, none⟩ (.slice b3 Q.A.length c3)).setCell ⟨w.heap.size + 1, 3, none⟩ (.int .i64 Q.now))) := by
            show OutS _ _ _
            repeat (first | with_reducible exact OutS.refl _ _ | with_reducible refine OutS.setCell ?_ (show _ ∈ [w.heap.size + 1] by simp) _)
          go_wp2
          refine bodyPost_ret (v := .tuple #[.agg #[.slice b1 Q.I.length c1, .slice b2 Q.D.length c2, .slice b3 Q.A.length c3, .int .i64 Q.now], .string ⟨#[]⟩, .bool false]) ?_ rfl ⟨_, _, _, by rw [HR.out], by rw [HR.out]; exact QO.mono (HQ3.out.q.outS HOU.out (fun t ht => by simp at ht; omega)) (by omega), B3.out.trans (HOU.out.below (fun t ht => by simp at ht; omega) B3.out.size)⟩
          simp [results, Try.results43, go_sem, z0, z1, z2, z3]
    · have e : q = Q.I.length := by omega
      have hlt' : ¬ (q : Int) < (Q.I.length : Int) := by omega
      have HR : Hid (takeQ Q = (Q, ⟨#[]⟩, false)) := takeQ_none (fun j hj => Ho.out j hj (by omega))
      clear HBD HHT Ho HOK
      have u0 := HQr.out.o.cell 0 _ rfl
      have u1 := HQr.out.o.cell 1 _ rfl
      have u2 := HQr.out.o.cell 2 _ rfl
      have u3 := HQr.out.o.cell 3 _ rfl
      have z0 := OZr.out.cell 0 _ rfl
      have z1 := OZr.out.cell 1 _ rfl
      have z2 := OZr.out.cell 2 _ rfl
      have z3 := OZr.out.cell 3 _ rfl
      have g0 := OZr.out.fz 0
      have g1 := OZr.out.fz 1
      have g2 := OZr.out.fz 2
      have g3 := OZr.out.fz 3
      have HOU : Hid (OutS [w.heap.size + 1] wr ((((wr.setCell ⟨w.heap.size + 1, 0, none⟩ (.slice b1 Q.I.length c1)).setCell ⟨w.heap.size + 1, 1, none⟩ (.slice b2 Q.D.length c2)).setCell ⟨w.heap.size + 1, 2, none⟩ (.slice b3 Q.A.length c3)).setCell ⟨w.heap.size + 1, 3, none⟩ (.int .i64 Q.now))) := by
        show OutS _ _ _
        repeat (first | with_reducible exact OutS.refl _ _ | with_reducible refine OutS.setCell ?_ (show _ ∈ [w.heap.size + 1] by simp) _)
      go_wp2
      refine bodyPost_ret (v := .tuple #[.agg #[.slice b1 Q.I.length c1, .slice b2 Q.D.length c2, .slice b3 Q.A.length c3, .int .i64 Q.now], .string ⟨#[]⟩, .bool false]) ?_ rfl ⟨_, _, _, by rw [HR.out], by rw [HR.out]; exact QO.mono (HQr.out.q.outS HOU.out (fun t ht => by simp at ht; omega)) (by omega), Br.out.trans (HOU.out.below (fun t ht => by simp at ht; omega) Br.out.size)⟩
      simp [results, Try.results43, go_sem, z0, z1, z2, z3]
end Go.Proofs.Ytddojjigijfgbaa
