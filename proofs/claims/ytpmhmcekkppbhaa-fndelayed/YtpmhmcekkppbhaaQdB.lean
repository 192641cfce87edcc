/- Queues: the program's Done. -/
import Derived.Test.YtpmhmcekkppbhaaQdA
namespace Go.Proofs.Ytpmhmcekkppbhaa
open Go.RowKit Go.BigFrame
set_option linter.unusedVariables false

theorem okQ_add {R : Qu} {x : It} (h : okQ R) (hl : R.I.length ≤ 60) (hx : x.1.size ≤ maxLen ∧ inK .i64 x.2.1 ∧ inK .i64 x.2.2) : okQ (addQ R x) := by
  unfold addQ
  split
  · exact h
  · refine ⟨⟨?_, fun y hy => ?_⟩, h.2.1, h.2.2.1, h.2.2.2⟩
    · show (R.I ++ [x]).length ≤ _
      rw [List.length_append, List.length_singleton]
      omega
    · rcases List.mem_append.1 hy with hy | hy
      · exact h.1.2 y hy
      · simp at hy
        rw [hy]
        exact hx
theorem okQ_out {Q : Qu} (h : okQ Q) (k : Nat) (s : ByteArray) : okQ (outD Q k s) :=
  ⟨h.1, okIs_drop h.2.1 k, ⟨Nat.le_trans (List.length_filter_le _ _) h.2.2.1.1, fun t ht => h.2.2.1.2 t ((List.mem_filter.1 ht).1)⟩, h.2.2.2⟩
theorem okQ_done {Q : Qu} (hq : okQ Q) {s : ByteArray} (hs : s.size ≤ maxLen) (well : Bool) : okQ (doneQ Q s well).1 := by
  unfold doneQ
  split
  · rename_i h
    obtain ⟨p1, p2, p3, p4, p5, p6, p7, p8⟩ := qOk_iff.1 h
    by_cases hD : fndI Q.D s < Q.D.length
    · have hfl := (p4 _ (List.mem_append_right _ (List.getElem_mem hD))).2.2
      obtain ⟨F, hF⟩ : ∃ F : Nat, min ((Q.D[fndI Q.D s]'hD).2.2 + 1) 1000 = (F : Int) := ⟨(min ((Q.D[fndI Q.D s]'hD).2.2 + 1) 1000).toNat, by omega⟩
      have hdl : dlyN F ≤ 64 := Nat.min_le_right _ _
      rw [doneC_at well hD hF]
      have ho := okQ_out hq (fndI Q.D s) s
      have hl : (outD Q (fndI Q.D s) s).I.length ≤ 60 := p1
      cases well with
      | true =>
        cases inA Q.A s with
        | true => exact okQ_add ho hl ⟨hs, hq.2.2.2, by show inK .i64 0; unfold inK; omega⟩
        | false => exact ho
      | false => exact okQ_add ho hl ⟨hs, by show inK .i64 (Q.now + (dlyN F : Nat)); unfold inK; omega, by show inK .i64 (F : Int); unfold inK; omega⟩
    · rw [doneC_no well hD]
      exact hq
  · exact hq
set_option maxRecDepth 20000 in
set_option maxHeartbeats 1600000 in
theorem iDone_any (Q : Qu) (s : ByteArray) (well : Bool) (xs : List Value) (w : World) (hq : okQ Q) (hs : s.size ≤ maxLen) (hx : rdQ w Q xs) :
    Calls Try.prog 38 #[.agg xs.toArray, .string s, .bool well] w fun e w' => ∃ vI vD vA, e = .returned (.tuple #[.agg #[vI, vD, vA, .int .i64 (doneQ Q s well).1.now], .bool (doneQ Q s well).2]) ∧ ownQ w' w.heap.size (doneQ Q s well).1 vI vD vA ∧ Below w.heap.size w w' := by
  have hxx := hx
  obtain ⟨cI, cD, cA, rfl, hI, hD, hA⟩ := hx
  have l1 := hq.1.1
  have l2 := hq.2.1.1
  have l3 := hq.2.2.1.1
  obtain ⟨aI, pI, rfl, -, -⟩ := hI.itS
  obtain ⟨aD, pD, rfl, -, -⟩ := hD.itS
  obtain ⟨aA, pA, rfl, -, -⟩ := hA.stS
  have HX := hide hxx
  have HK := hide hq
  have HI := hide hI
  have HD := hide hD
  have HA := hide hA
  clear hI hD hA hxx hq
  have HCP : Hid (∀ wx, Below w.heap.size w wx → Calls Try.prog 90 #[.agg #[.slice aI Q.I.length pI, .slice aD Q.D.length pD, .slice aA Q.A.length pA, .int .i64 Q.now]] wx fun e w' => ∃ vI vD vA, e = .returned (.agg #[vI, vD, vA, .int .i64 Q.now]) ∧ ownQ w' wx.heap.size Q vI vD vA ∧ Below wx.heap.size wx w') := fun wx hb => copyQ_N Q _ wx HK.out (HX.out.below hb)
  have HOK : Hid (∀ wx, Below w.heap.size w wx → Calls Try.prog 36 #[.agg #[.slice aI Q.I.length pI, .slice aD Q.D.length pD, .slice aA Q.A.length pA, .int .i64 Q.now]] wx fun e w' => e = .returned (.bool (qOk Q)) ∧ Below wx.heap.size wx w') := fun wx hb => iQueueOk_any Q _ wx HK.out (HX.out.below hb)
  obtain ⟨w0, ew0⟩ : ∃ w0, w0 = ((w.alloc (.cells #[.slice aI Q.I.length pI, .slice aD Q.D.length pD, .slice aA Q.A.length pA, .int .i64 Q.now] 66)).alloc (.cells #[.slice none 0 0, .slice none 0 0, .slice none 0 0, .int .i64 0] 66)) := ⟨_, rfl⟩
  have BX : Hid (Below w.heap.size w w0) := by show Below _ _ _; rw [ew0]; exact ((Below.refl _ _).alloc (Nat.le_refl _) _).alloc (by simp) _
  have OX : Hid (objU w0 w.heap.size 66 [.slice aI Q.I.length pI, .slice aD Q.D.length pD, .slice aA Q.A.length pA, .int .i64 Q.now]) := by show objU _ _ _ _; rw [ew0]; exact (objU.new _ _ _).old _
  have OZ : Hid (objU w0 (w.heap.size + 1) 66 [.slice none 0 0, .slice none 0 0, .slice none 0 0, .int .i64 0]) := by show objU _ _ _ _; rw [ew0]; exact objU.new2 _ _ (by simp)
  have SZ : Hid (w0.heap.size = w.heap.size + 2) := by show _ = _; rw [ew0]; simp
  have EW := hide ew0
  clear ew0
  go_enter Try.func38, Try.ntmps38
  go_wp2_with fail
  refine (HCP.out _ (EW.out ▸ BX.out)).mono ?_
  rintro e w1 ⟨vI, vD, vA, rfl, ho, hb⟩
  replace ho : ownQ w1 (w.heap.size + 2) Q vI vD vA := by have h := ho; rw [← SZ.out, EW.out]; exact h
  replace hb : Below w0.heap.size w0 w1 := by have h := hb; rw [EW.out]; exact h
  have HO := hide ho
  have OX1 := hide (OX.out.below hb)
  have OZ1 := hide (OZ.out.below hb)
  have B1 : Hid (Below w.heap.size w w1) := BX.out.trans (hb.mono BX.out.size)
  have S1 : Hid (w.heap.size + 2 ≤ w1.heap.size) := by show _ ≤ _; rw [← SZ.out]; exact hb.size
  obtain ⟨b1, c1, rfl⟩ := ho.i.itS
  obtain ⟨b2, c2, rfl⟩ := ho.d.itS
  obtain ⟨b3, c3, rfl⟩ := ho.a.stS
  have x0 := OX1.out.cell 0 _ rfl
  have x1 := OX1.out.cell 1 _ rfl
  have x2 := OX1.out.cell 2 _ rfl
  have x3 := OX1.out.cell 3 _ rfl
  have hBl := OX1.out.lt
  clear ho hb OX OZ BX SZ EW HCP
  have HX1 : Hid (Below w.heap.size w (w1.alloc (.cells #[.slice b1 Q.I.length c1, .slice b2 Q.D.length c2, .slice b3 Q.A.length c3, .int .i64 Q.now] 66))) := B1.out.alloc B1.out.size _
  have HRn : Hid (qOk Q = false → doneQ Q s well = (Q, false)) := fun h => if_neg (fun g => by rw [h] at g; cases g)
  have HRy : Hid (qOk Q = true → doneQ Q s well = doneC Q s well) := fun a => if_pos a
  have HPT : Hid (qOk Q = true → ∀ (b : Nat) (wx : World) (vI vD vA : Value), QB wx b (w.heap.size + 2) Q vI vD vA → w.heap.size + 2 ≤ b → Calls Try.prog 98 #[.pointer (some ⟨b, 0, none⟩), .string s, .bool well] wx fun e w' => ∃ vI' vD' vA', e = .returned (.bool (doneC Q s well).2) ∧ QB w' b (w.heap.size + 2) (doneC Q s well).1 vI' vD' vA' ∧ Below (w.heap.size + 2) wx w') := fun ho b wx vI vD vA h hb => done_any Q s well b _ vI vD vA wx HK.out (qOk_iff.1 ho) h hb
  generalize qOk Q = ok at *
  go_wp2_with fail
  refine (HOK.out _ HX1.out).mono ?_
  rintro e w2 ⟨rfl, hb2⟩
  have OX2 := hide ((OX1.out.old _).below hb2)
  have OZ2 := hide ((OZ1.out.old _).below hb2)
  have OB2 : Hid (objU w2 w1.heap.size 66 [.slice b1 Q.I.length c1, .slice b2 Q.D.length c2, .slice b3 Q.A.length c3, .int .i64 Q.now]) := (objU.new _ _ _).below hb2
  have B2 : Hid (Below w.heap.size w w2) := HX1.out.trans (hb2.mono HX1.out.size)
  have OU2 : Hid (OutS [w.heap.size, w.heap.size + 1] w1 w2) := (OutS.of_below (below_alloc _ _)).trans (OutS.of_below hb2)
  have hn1 : ¬ (w1.heap.size = w.heap.size + 1) := by have := S1.out; omega
  have hn2 : ¬ (w1.heap.size = w.heap.size) := by have := S1.out; omega
  have hn3 : ¬ (w.heap.size + 1 = w1.heap.size) := by have := S1.out; omega
  have hn4 : ¬ (w.heap.size = w1.heap.size) := by have := S1.out; omega
  clear hb2 x0 x1 x2 x3 hBl HX1
  have HQB : Hid (QB w2 w1.heap.size (w.heap.size + 2) Q (.slice b1 Q.I.length c1) (.slice b2 Q.D.length c2) (.slice b3 Q.A.length c3)) := ⟨OB2.out, (HO.out.outS OU2.out (fun t ht => by simp at ht; omega)), (fun h => by have := (HO.out.i.lt _ h).2; omega), (fun h => by have := (HO.out.d.lt _ h).2; omega), (fun h => by have := (HO.out.a.lt _ h).2; omega)⟩
  have hS1 := S1.out
  cases ok with
  | false =>
    have HR := hide (HRn.out (by first | rfl | trivial))
    clear HRn HRy HPT HOK
    have u0 := HQB.out.o.cell 0 _ rfl
    have u1 := HQB.out.o.cell 1 _ rfl
    have u2 := HQB.out.o.cell 2 _ rfl
    have u3 := HQB.out.o.cell 3 _ rfl
    have z0 := OZ2.out.cell 0 _ rfl
    have z1 := OZ2.out.cell 1 _ rfl
    have z2 := OZ2.out.cell 2 _ rfl
    have z3 := OZ2.out.cell 3 _ rfl
    have g0 := OZ2.out.fz 0
    have g1 := OZ2.out.fz 1
    have g2 := OZ2.out.fz 2
    have g3 := OZ2.out.fz 3
    have HOU : Hid (OutS [w.heap.size + 1] w2 ((((w2.setCell ⟨w.heap.size + 1, 0, none⟩ (.slice b1 Q.I.length c1)).setCell ⟨w.heap.size + 1, 1, none⟩ (.slice b2 Q.D.length c2)).setCell ⟨w.heap.size + 1, 2, none⟩ (.slice b3 Q.A.length c3)).setCell ⟨w.heap.size + 1, 3, none⟩ (.int .i64 Q.now))) := by
      show OutS _ _ _
      repeat (first | with_reducible exact OutS.refl _ _ | with_reducible refine OutS.setCell ?_ (show _ ∈ [w.heap.size + 1] by simp) _)
    go_wp2
    refine bodyPost_ret (v := .tuple #[.agg #[.slice b1 Q.I.length c1, .slice b2 Q.D.length c2, .slice b3 Q.A.length c3, .int .i64 Q.now], .bool false]) ?_ rfl ⟨_, _, _, by rw [HR.out], by rw [HR.out]; exact QO.mono (HQB.out.q.outS HOU.out (fun t ht => by simp at ht; omega)) (by omega), B2.out.trans (HOU.out.below (fun t ht => by simp at ht; omega) B2.out.size)⟩
    simp [results, Try.results38, go_sem, z0, z1, z2, z3]
  | true =>
    have HR := hide (HRy.out (by first | rfl | trivial))
    have HPD := hide (HPT.out (by first | rfl | trivial))
    clear HRn HRy HOK HPT
    go_wp2_with fail
    refine (HPD.out _ _ _ _ _ HQB.out hS1).mono ?_
    rintro e w4 ⟨vI', vD', vA', rfl, hq4, hb4⟩
    have HQB4 := hide hq4
    have OZ4 : Hid (objU w4 (w.heap.size + 1) 66 [.slice none 0 0, .slice none 0 0, .slice none 0 0, .int .i64 0]) := (hb4.block _ (Nat.lt_succ_self _)).trans OZ2.out
    have B4 : Hid (Below w.heap.size w w4) := B2.out.trans (hb4.mono (by omega))
    clear hq4 hb4 HPD HQB OZ2 B2 OX2 OB2 OU2
    generalize doneC Q s well = R at *
    obtain ⟨R1, R2⟩ := R
    dsimp only at HQB4
    obtain ⟨e1, f1, e2, f2, e3, f3, rfl, rfl, rfl⟩ := HQB4.out.xs
    have u0 := HQB4.out.o.cell 0 _ rfl
    have u1 := HQB4.out.o.cell 1 _ rfl
    have u2 := HQB4.out.o.cell 2 _ rfl
    have u3 := HQB4.out.o.cell 3 _ rfl
    have z0 := OZ4.out.cell 0 _ rfl
    have z1 := OZ4.out.cell 1 _ rfl
    have z2 := OZ4.out.cell 2 _ rfl
    have z3 := OZ4.out.cell 3 _ rfl
    have g0 := OZ4.out.fz 0
    have g1 := OZ4.out.fz 1
    have g2 := OZ4.out.fz 2
    have g3 := OZ4.out.fz 3
    have HOU : Hid (OutS [w.heap.size + 1] w4 ((((w4.setCell ⟨w.heap.size + 1, 0, none⟩ (.slice e1 R1.I.length f1)).setCell ⟨w.heap.size + 1, 1, none⟩ (.slice e2 R1.D.length f2)).setCell ⟨w.heap.size + 1, 2, none⟩ (.slice e3 R1.A.length f3)).setCell ⟨w.heap.size + 1, 3, none⟩ (.int .i64 R1.now))) := by
      show OutS _ _ _
      repeat (first | with_reducible exact OutS.refl _ _ | with_reducible refine OutS.setCell ?_ (show _ ∈ [w.heap.size + 1] by simp) _)
    go_wp2
    refine bodyPost_ret (v := .tuple #[.agg #[.slice e1 R1.I.length f1, .slice e2 R1.D.length f2, .slice e3 R1.A.length f3, .int .i64 R1.now], .bool R2]) ?_ rfl ⟨_, _, _, by rw [HR.out], by rw [HR.out]; exact QO.mono (HQB4.out.q.outS HOU.out (fun t ht => by simp at ht; omega)) (by omega), B4.out.trans (HOU.out.below (fun t ht => by simp at ht; omega) B4.out.size)⟩
    simp [results, Try.results38, go_sem, z0, z1, z2, z3]
end Go.Proofs.Ytpmhmcekkppbhaa
