/- Queues: the program's Take. -/
import Derived.Test.YtpmhmcekkppbhaaQfV
namespace Go.Proofs.Ytpmhmcekkppbhaa
open Go.RowKit Go.BigFrame
set_option linter.unusedVariables false

theorem okIs_drop {I : List It} (h : okIs I) (k : Nat) : okIs (dropAt I k) := by
  unfold dropAt
  refine ⟨?_, fun x hx => ?_⟩
  · have := h.1
    rw [List.length_append, List.length_take, List.length_drop]
    omega
  · rcases List.mem_append.1 hx with hx | hx
    · exact h.2 x (List.mem_of_mem_take hx)
    · exact h.2 x (List.mem_of_mem_drop hx)
theorem okQ_take {Q : Qu} (hq : okQ Q) : okQ (takeQ Q).1 ∧ (takeQ Q).2.1.size ≤ maxLen := by
  have hz : (⟨#[]⟩ : ByteArray).size ≤ maxLen := Nat.zero_le _
  unfold takeQ
  split
  · rename_i h
    have hp := qOk_iff.1 h
    unfold takeC
    split
    · rename_i hk
      split
      · exact ⟨hq, hz⟩
      · have hx := hq.1.2 _ (List.getElem_mem hk)
        refine ⟨⟨okIs_drop hq.1 _, ⟨?_, fun y hy => ?_⟩, hq.2.2.1, hq.2.2.2⟩, hx.1⟩
        · show (Q.D ++ [_]).length ≤ _
          rw [List.length_append, List.length_singleton]
          have := hp.2.1
          omega
        · rcases List.mem_append.1 hy with hy | hy
          · exact hq.2.1.2 y hy
          · simp at hy
            rw [hy]
            exact ⟨hx.1, by show inK .i64 0; unfold inK; omega, hx.2.2⟩
    · exact ⟨hq, hz⟩
  · exact ⟨hq, hz⟩
set_option maxRecDepth 20000 in
set_option maxHeartbeats 1600000 in
theorem iTake_any (Q : Qu) (xs : List Value) (w : World) (hq : okQ Q) (hx : rdQ w Q xs) :
    Calls Try.prog 37 #[.agg xs.toArray] w fun e w' => ∃ vI vD vA, e = .returned (.tuple #[.agg #[vI, vD, vA, .int .i64 (takeQ Q).1.now], .string (takeQ Q).2.1, .bool (takeQ Q).2.2]) ∧ ownQ w' w.heap.size (takeQ Q).1 vI vD vA ∧ Below w.heap.size w w' := by
  have hxx := hx
  obtain ⟨cI, cD, cA, rfl, hI, hD, hA⟩ := hx
  have l1 := hq.1.1
  have l2 := hq.2.1.1
  have l3 := hq.2.2.1.1
  obtain ⟨aI, pI, rfl, -, -⟩ := hI.itS
  obtain ⟨aD, pD, rfl, -, -⟩ := hD.itS
  obtain ⟨aA, pA, rfl, -, -⟩ := hA.stS
  have HX := hide hxx
  have HK := hide hq
  have HI := hide hI
  have HD := hide hD
  have HA := hide hA
  clear hI hD hA hxx hq
  have HCP : Hid (∀ wx, Below w.heap.size w wx → Calls Try.prog 90 #[.agg #[.slice aI Q.I.length pI, .slice aD Q.D.length pD, .slice aA Q.A.length pA, .int .i64 Q.now]] wx fun e w' => ∃ vI vD vA, e = .returned (.agg #[vI, vD, vA, .int .i64 Q.now]) ∧ ownQ w' wx.heap.size Q vI vD vA ∧ Below wx.heap.size wx w') := fun wx hb => copyQ_N Q _ wx HK.out (HX.out.below hb)
  have HOK : Hid (∀ wx, Below w.heap.size w wx → Calls Try.prog 36 #[.agg #[.slice aI Q.I.length pI, .slice aD Q.D.length pD, .slice aA Q.A.length pA, .int .i64 Q.now]] wx fun e w' => e = .returned (.bool (qOk Q)) ∧ Below wx.heap.size wx w') := fun wx hb => iQueueOk_any Q _ wx HK.out (HX.out.below hb)
  obtain ⟨w0, ew0⟩ : ∃ w0, w0 = ((w.alloc (.cells #[.slice aI Q.I.length pI, .slice aD Q.D.length pD, .slice aA Q.A.length pA, .int .i64 Q.now] 66)).alloc (.cells #[.slice none 0 0, .slice none 0 0, .slice none 0 0, .int .i64 0] 66)) := ⟨_, rfl⟩
  have BX : Hid (Below w.heap.size w w0) := by show Below _ _ _; rw [ew0]; exact ((Below.refl _ _).alloc (Nat.le_refl _) _).alloc (by simp) _
  have OX : Hid (objU w0 w.heap.size 66 [.slice aI Q.I.length pI, .slice aD Q.D.length pD, .slice aA Q.A.length pA, .int .i64 Q.now]) := by show objU _ _ _ _; rw [ew0]; exact (objU.new _ _ _).old _
  have OZ : Hid (objU w0 (w.heap.size + 1) 66 [.slice none 0 0, .slice none 0 0, .slice none 0 0, .int .i64 0]) := by show objU _ _ _ _; rw [ew0]; exact objU.new2 _ _ (by simp)
  have SZ : Hid (w0.heap.size = w.heap.size + 2) := by show _ = _; rw [ew0]; simp
  have EW := hide ew0
  clear ew0
  go_enter Try.func37, Try.ntmps37
  go_wp2_with fail
  refine (HCP.out _ (EW.out ▸ BX.out)).mono ?_
  rintro e w1 ⟨vI, vD, vA, rfl, ho, hb⟩
  replace ho : ownQ w1 (w.heap.size + 2) Q vI vD vA := by have h := ho; rw [← SZ.out, EW.out]; exact h
  replace hb : Below w0.heap.size w0 w1 := by have h := hb; rw [EW.out]; exact h
  have HO := hide ho
  have OX1 := hide (OX.out.below hb)
  have OZ1 := hide (OZ.out.below hb)
  have B1 : Hid (Below w.heap.size w w1) := BX.out.trans (hb.mono BX.out.size)
  have S1 : Hid (w.heap.size + 2 ≤ w1.heap.size) := by show _ ≤ _; rw [← SZ.out]; exact hb.size
  obtain ⟨b1, c1, rfl⟩ := ho.i.itS
  obtain ⟨b2, c2, rfl⟩ := ho.d.itS
  obtain ⟨b3, c3, rfl⟩ := ho.a.stS
  have x0 := OX1.out.cell 0 _ rfl
  have x1 := OX1.out.cell 1 _ rfl
  have x2 := OX1.out.cell 2 _ rfl
  have x3 := OX1.out.cell 3 _ rfl
  have hBl := OX1.out.lt
  clear ho hb OX OZ BX SZ EW HCP
  have HX1 : Hid (Below w.heap.size w (w1.alloc (.cells #[.slice b1 Q.I.length c1, .slice b2 Q.D.length c2, .slice b3 Q.A.length c3, .int .i64 Q.now] 66))) := B1.out.alloc B1.out.size _
  have HRn : Hid (qOk Q = false → takeQ Q = (Q, ⟨#[]⟩, false)) := fun h => if_neg (fun g => by rw [h] at g; cases g)
  have HRy : Hid (qOk Q = true → takeQ Q = takeC Q) := fun a => if_pos a
  have HPT : Hid (∀ (b : Nat) (wx : World) (vI vD vA : Value), QB wx b (w.heap.size + 2) Q vI vD vA → w.heap.size + 2 ≤ b → Calls Try.prog 97 #[.pointer (some ⟨b, 0, none⟩)] wx fun e w' => ∃ vI' vD' vA', e = .returned (.tuple #[.string (takeC Q).2.1, .bool (takeC Q).2.2]) ∧ QB w' b (w.heap.size + 2) (takeC Q).1 vI' vD' vA' ∧ Below (w.heap.size + 2) wx w') := fun b wx vI vD vA h hb => take_any Q b _ vI vD vA wx HK.out h hb
  generalize qOk Q = ok at *
  go_wp2_with fail
  refine (HOK.out _ HX1.out).mono ?_
  rintro e w2 ⟨rfl, hb2⟩
  have OX2 := hide ((OX1.out.old _).below hb2)
  have OZ2 := hide ((OZ1.out.old _).below hb2)
  have OB2 : Hid (objU w2 w1.heap.size 66 [.slice b1 Q.I.length c1, .slice b2 Q.D.length c2, .slice b3 Q.A.length c3, .int .i64 Q.now]) := (objU.new _ _ _).below hb2
  have B2 : Hid (Below w.heap.size w w2) := HX1.out.trans (hb2.mono HX1.out.size)
  have OU2 : Hid (OutS [w.heap.size, w.heap.size + 1] w1 w2) := (OutS.of_below (below_alloc _ _)).trans (OutS.of_below hb2)
  have hn1 : ¬ (w1.heap.size = w.heap.size + 1) := by have := S1.out; omega
  have hn2 : ¬ (w1.heap.size = w.heap.size) := by have := S1.out; omega
  have hn3 : ¬ (w.heap.size + 1 = w1.heap.size) := by have := S1.out; omega
  have hn4 : ¬ (w.heap.size = w1.heap.size) := by have := S1.out; omega
  clear hb2 x0 x1 x2 x3 hBl HX1
  have HQB : Hid (QB w2 w1.heap.size (w.heap.size + 2) Q (.slice b1 Q.I.length c1) (.slice b2 Q.D.length c2) (.slice b3 Q.A.length c3)) := ⟨OB2.out, (HO.out.outS OU2.out (fun t ht => by simp at ht; omega)), (fun h => by have := (HO.out.i.lt _ h).2; omega), (fun h => by have := (HO.out.d.lt _ h).2; omega), (fun h => by have := (HO.out.a.lt _ h).2; omega)⟩
  have hS1 := S1.out
  cases ok with
  | false =>
    have HR := hide (HRn.out (by first | rfl | trivial))
    clear HRn HRy HPT HOK
    have u0 := HQB.out.o.cell 0 _ rfl
    have u1 := HQB.out.o.cell 1 _ rfl
    have u2 := HQB.out.o.cell 2 _ rfl
    have u3 := HQB.out.o.cell 3 _ rfl
    have z0 := OZ2.out.cell 0 _ rfl
    have z1 := OZ2.out.cell 1 _ rfl
    have z2 := OZ2.out.cell 2 _ rfl
    have z3 := OZ2.out.cell 3 _ rfl
    have g0 := OZ2.out.fz 0
    have g1 := OZ2.out.fz 1
    have g2 := OZ2.out.fz 2
    have g3 := OZ2.out.fz 3
    have HOU : Hid (OutS [w.heap.size + 1] w2 ((((w2.setCell ⟨w.heap.size + 1, 0, none⟩ (.slice b1 Q.I.length c1)).setCell ⟨w.heap.size + 1, 1, none⟩ (.slice b2 Q.D.length c2)).setCell ⟨w.heap.size + 1, 2, none⟩ (.slice b3 Q.A.length c3)).setCell ⟨w.heap.size + 1, 3, none⟩ (.int .i64 Q.now))) := by
      show OutS _ _ _
      repeat (first | with_reducible exact OutS.refl _ _ | with_reducible refine OutS.setCell ?_ (show _ ∈ [w.heap.size + 1] by simp) _)
    go_wp2
    refine bodyPost_ret (v := .tuple #[.agg #[.slice b1 Q.I.length c1, .slice b2 Q.D.length c2, .slice b3 Q.A.length c3, .int .i64 Q.now], .string ⟨#[]⟩, .bool false]) ?_ rfl ⟨_, _, _, by rw [HR.out], by rw [HR.out]; exact QO.mono (HQB.out.q.outS HOU.out (fun t ht => by simp at ht; omega)) (by omega), B2.out.trans (HOU.out.below (fun t ht => by simp at ht; omega) B2.out.size)⟩
    simp [results, Try.results37, go_sem, z0, z1, z2, z3]
  | true =>
    have HR := hide (HRy.out (by first | rfl | trivial))
    clear HRn HRy HOK
    go_wp2_with fail
    refine (HPT.out _ _ _ _ _ HQB.out hS1).mono ?_
    rintro e w4 ⟨vI', vD', vA', rfl, hq4, hb4⟩
    have HQB4 := hide hq4
    have OZ4 : Hid (objU w4 (w.heap.size + 1) 66 [.slice none 0 0, .slice none 0 0, .slice none 0 0, .int .i64 0]) := (hb4.block _ (Nat.lt_succ_self _)).trans OZ2.out
    have B4 : Hid (Below w.heap.size w w4) := B2.out.trans (hb4.mono (by omega))
    clear hq4 hb4 HPT HQB OZ2 B2 OX2 OB2 OU2
    generalize takeC Q = R at *
    obtain ⟨R1, R2, R3⟩ := R
    dsimp only at HQB4
    obtain ⟨e1, f1, e2, f2, e3, f3, rfl, rfl, rfl⟩ := HQB4.out.xs
    have u0 := HQB4.out.o.cell 0 _ rfl
    have u1 := HQB4.out.o.cell 1 _ rfl
    have u2 := HQB4.out.o.cell 2 _ rfl
    have u3 := HQB4.out.o.cell 3 _ rfl
    have z0 := OZ4.out.cell 0 _ rfl
    have z1 := OZ4.out.cell 1 _ rfl
    have z2 := OZ4.out.cell 2 _ rfl
    have z3 := OZ4.out.cell 3 _ rfl
    have g0 := OZ4.out.fz 0
    have g1 := OZ4.out.fz 1
    have g2 := OZ4.out.fz 2
    have g3 := OZ4.out.fz 3
    have HOU : Hid (OutS [w.heap.size + 1] w4 ((((w4.setCell ⟨w.heap.size + 1, 0, none⟩ (.slice e1 R1.I.length f1)).setCell ⟨w.heap.size + 1, 1, none⟩ (.slice e2 R1.D.length f2)).setCell ⟨w.heap.size + 1, 2, none⟩ (.slice e3 R1.A.length f3)).setCell ⟨w.heap.size + 1, 3, none⟩ (.int .i64 R1.now))) := by
      show OutS _ _ _
      repeat (first | with_reducible exact OutS.refl _ _ | with_reducible refine OutS.setCell ?_ (show _ ∈ [w.heap.size + 1] by simp) _)
    go_wp2
    refine bodyPost_ret (v := .tuple #[.agg #[.slice e1 R1.I.length f1, .slice e2 R1.D.length f2, .slice e3 R1.A.length f3, .int .i64 R1.now], .string R2, .bool R3]) ?_ rfl ⟨_, _, _, by rw [HR.out], by rw [HR.out]; exact QO.mono (HQB4.out.q.outS HOU.out (fun t ht => by simp at ht; omega)) (by omega), B4.out.trans (HOU.out.below (fun t ht => by simp at ht; omega) B4.out.size)⟩
    simp [results, Try.results37, go_sem, z0, z1, z2, z3]
end Go.Proofs.Ytpmhmcekkppbhaa
