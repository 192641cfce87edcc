/- Queues: Put on both sides. -/
import Derived.Test.YtpmhmcekkppbhaaQfK
import Derived.Test.YtpmhmcekkppbhaaQfP
namespace Go.Proofs.Ytpmhmcekkppbhaa
open Go.RowKit Go.BigFrame
set_option linter.unusedVariables false

theorem nodup_len {A B : List ByteArray} (h : A.Nodup) (hs : ∀ s ∈ A, s ∈ B) : A.length ≤ B.length := by
  induction A generalizing B with
  | nil => simp
  | cons a A ih =>
    obtain ⟨h1, h2⟩ := List.nodup_cons.1 h
    obtain ⟨B1, B2, rfl⟩ := List.append_of_mem (hs a (.head _))
    have := ih (B := B1 ++ B2) h2 (fun s hm => by
      have := hs s (.tail _ hm)
      simp only [List.mem_append, List.mem_cons] at this ⊢
      rcases this with h | rfl | h
      · exact .inl h
      · exact (h1 hm).elim
      · exact .inr h)
    simp only [List.length_append, List.length_cons] at this ⊢
    omega
theorem okQ_put {Q : Qu} (hq : okQ Q) {s : ByteArray} (hs : s.size ≤ maxLen) : okQ (putQ Q s).1 := by
  unfold putQ
  split
  · rename_i h
    have hp := qOk_iff.1 h.1
    obtain ⟨p1, p2, p3, p4, p5, p6, p7, p8⟩ := hp
    obtain ⟨⟨a1, a2⟩, hD, ⟨b1, b2⟩, hN⟩ := hq
    unfold putC
    have hnow : inK .i64 Q.now := hN
    split
    · split
      · exact ⟨⟨a1, a2⟩, hD, ⟨b1, b2⟩, hN⟩
      · refine ⟨⟨a1, a2⟩, hD, ⟨?_, fun x hx => ?_⟩, hN⟩
        · show (Q.A ++ [s]).length ≤ _
          have hle : Q.A.length ≤ (Q.D.map (fun x => x.1)).length := nodup_len p7 p8
          rw [List.length_map] at hle
          rw [List.length_append, List.length_singleton]
          omega
        · rcases List.mem_append.1 hx with hx | hx
          · exact b2 x hx
          · simp at hx; rw [hx]; exact hs
    · split
      · rename_i hk
        refine ⟨⟨by show (Q.I.set _ _).length ≤ _; rw [List.length_set]; exact a1, fun x hx => ?_⟩, hD, ⟨b1, b2⟩, hN⟩
        rcases List.mem_or_eq_of_mem_set hx with hx | rfl
        · exact a2 x hx
        · obtain ⟨k1, k2, k3⟩ := a2 _ (List.getElem_mem hk)
          refine ⟨k1, ?_, k3⟩
          show inK .i64 (min _ _)
          rcases Int.le_total (Q.I[fndI Q.I s]).2.1 Q.now with hh | hh
          · rw [Int.min_eq_left hh]; exact k2
          · rw [Int.min_eq_right hh]; exact hN
      · split
        · exact ⟨⟨a1, a2⟩, hD, ⟨b1, b2⟩, hN⟩
        · refine ⟨⟨by show (Q.I ++ [_]).length ≤ _; rw [List.length_append, List.length_singleton]; omega, fun x hx => ?_⟩, hD, ⟨b1, b2⟩, hN⟩
          rcases List.mem_append.1 hx with hx | hx
          · exact a2 x hx
          · simp at hx; rw [hx]; exact ⟨hs, hN, by show inK .i64 0; unfold inK; omega⟩
  · exact hq
set_option maxRecDepth 20000 in
set_option maxHeartbeats 1600000 in
theorem iPut_any (Q : Qu) (s : ByteArray) (xs : List Value) (w : World) (hq : okQ Q) (hs : s.size ≤ maxLen) (hx : rdQ w Q xs) :
    Calls Try.prog 33 #[.agg xs.toArray, .string s] w fun e w' => ∃ vI vD vA, e = .returned (.tuple #[.agg #[vI, vD, vA, .int .i64 (putQ Q s).1.now], .bool (putQ Q s).2]) ∧ ownQ w' w.heap.size (putQ Q s).1 vI vD vA ∧ Below w.heap.size w w' := by
  have hxx := hx
  obtain ⟨cI, cD, cA, rfl, hI, hD, hA⟩ := hx
  have l1 := hq.1.1
  have l2 := hq.2.1.1
  have l3 := hq.2.2.1.1
  obtain ⟨aI, pI, rfl, -, -⟩ := hI.itS
  obtain ⟨aD, pD, rfl, -, -⟩ := hD.itS
  obtain ⟨aA, pA, rfl, -, -⟩ := hA.stS
  have HX := hide hxx
  have HK := hide hq
  have HI := hide hI
  have HD := hide hD
  have HA := hide hA
  clear hI hD hA hxx hq
  have HCP : Hid (∀ wx, Below w.heap.size w wx → Calls Try.prog 90 #[.agg #[.slice aI Q.I.length pI, .slice aD Q.D.length pD, .slice aA Q.A.length pA, .int .i64 Q.now]] wx fun e w' => ∃ vI vD vA, e = .returned (.agg #[vI, vD, vA, .int .i64 Q.now]) ∧ ownQ w' wx.heap.size Q vI vD vA ∧ Below wx.heap.size wx w') := fun wx hb => copyQ_N Q _ wx HK.out (HX.out.below hb)
  have HOK : Hid (∀ wx, Below w.heap.size w wx → Calls Try.prog 36 #[.agg #[.slice aI Q.I.length pI, .slice aD Q.D.length pD, .slice aA Q.A.length pA, .int .i64 Q.now]] wx fun e w' => e = .returned (.bool (qOk Q)) ∧ Below wx.heap.size wx w') := fun wx hb => iQueueOk_any Q _ wx HK.out (HX.out.below hb)
  obtain ⟨w0, ew0⟩ : ∃ w0, w0 = ((w.alloc (.cells #[.slice aI Q.I.length pI, .slice aD Q.D.length pD, .slice aA Q.A.length pA, .int .i64 Q.now] 66)).alloc (.cells #[.slice none 0 0, .slice none 0 0, .slice none 0 0, .int .i64 0] 66)) := ⟨_, rfl⟩
  have BX : Hid (Below w.heap.size w w0) := by show Below _ _ _; rw [ew0]; exact ((Below.refl _ _).alloc (Nat.le_refl _) _).alloc (by simp) _
  have OX : Hid (objU w0 w.heap.size 66 [.slice aI Q.I.length pI, .slice aD Q.D.length pD, .slice aA Q.A.length pA, .int .i64 Q.now]) := by show objU _ _ _ _; rw [ew0]; exact (objU.new _ _ _).old _
  have OZ : Hid (objU w0 (w.heap.size + 1) 66 [.slice none 0 0, .slice none 0 0, .slice none 0 0, .int .i64 0]) := by show objU _ _ _ _; rw [ew0]; exact objU.new2 _ _ (by simp)
  have SZ : Hid (w0.heap.size = w.heap.size + 2) := by show _ = _; rw [ew0]; simp
  have EW := hide ew0
  clear ew0
  go_enter Try.func33, Try.ntmps33
  go_wp2_with fail
  refine (HCP.out _ (EW.out ▸ BX.out)).mono ?_
  rintro e w1 ⟨vI, vD, vA, rfl, ho, hb⟩
  replace ho : ownQ w1 (w.heap.size + 2) Q vI vD vA := by have h := ho; rw [← SZ.out, EW.out]; exact h
  replace hb : Below w0.heap.size w0 w1 := by have h := hb; rw [EW.out]; exact h
  have HO := hide ho
  have OX1 := hide (OX.out.below hb)
  have OZ1 := hide (OZ.out.below hb)
  have B1 : Hid (Below w.heap.size w w1) := BX.out.trans (hb.mono BX.out.size)
  have S1 : Hid (w.heap.size + 2 ≤ w1.heap.size) := by show _ ≤ _; rw [← SZ.out]; exact hb.size
  obtain ⟨b1, c1, rfl⟩ := ho.i.itS
  obtain ⟨b2, c2, rfl⟩ := ho.d.itS
  obtain ⟨b3, c3, rfl⟩ := ho.a.stS
  have x0 := OX1.out.cell 0 _ rfl
  have x1 := OX1.out.cell 1 _ rfl
  have x2 := OX1.out.cell 2 _ rfl
  have x3 := OX1.out.cell 3 _ rfl
  have hBl := OX1.out.lt
  clear ho hb OX OZ BX SZ EW HCP
  have HX1 : Hid (Below w.heap.size w (w1.alloc (.cells #[.slice b1 Q.I.length c1, .slice b2 Q.D.length c2, .slice b3 Q.A.length c3, .int .i64 Q.now] 66))) := B1.out.alloc B1.out.size _
  have HRn : Hid (qOk Q = false → putQ Q s = (Q, false)) := fun h => if_neg (fun g => by rw [h] at g; cases g.1)
  have HRm : Hid (nameB s = false → putQ Q s = (Q, false)) := fun h => if_neg (fun g => by rw [h] at g; cases g.2)
  have HRy : Hid (qOk Q = true → nameB s = true → putQ Q s = putC Q s) := fun a b => if_pos ⟨a, b⟩
  have HNM := hide (fun wx => iname_any s wx)
  have HPT : Hid (∀ (b : Nat) (wx : World) (vI vD vA : Value), QB wx b (w.heap.size + 2) Q vI vD vA → w.heap.size + 2 ≤ b → Calls Try.prog 91 #[.pointer (some ⟨b, 0, none⟩), .string s] wx fun e w' => ∃ vI' vD' vA', e = .returned (.bool (putC Q s).2) ∧ QB w' b (w.heap.size + 2) (putC Q s).1 vI' vD' vA' ∧ Below (w.heap.size + 2) wx w') := fun b wx vI vD vA h hb => put_any Q s b _ vI vD vA wx HK.out hs h hb
  generalize qOk Q = ok at *
  generalize nameB s = nb at *
  go_wp2_with fail
  refine (HOK.out _ HX1.out).mono ?_
  rintro e w2 ⟨rfl, hb2⟩
  have OX2 := hide ((OX1.out.old _).below hb2)
  have OZ2 := hide ((OZ1.out.old _).below hb2)
  have OB2 : Hid (objU w2 w1.heap.size 66 [.slice b1 Q.I.length c1, .slice b2 Q.D.length c2, .slice b3 Q.A.length c3, .int .i64 Q.now]) := (objU.new _ _ _).below hb2
  have B2 : Hid (Below w.heap.size w w2) := HX1.out.trans (hb2.mono HX1.out.size)
  have OU2 : Hid (OutS [w.heap.size, w.heap.size + 1] w1 w2) := (OutS.of_below (below_alloc _ _)).trans (OutS.of_below hb2)
  have hn1 : ¬ (w1.heap.size = w.heap.size + 1) := by have := S1.out; omega
  have hn2 : ¬ (w1.heap.size = w.heap.size) := by have := S1.out; omega
  have hn3 : ¬ (w.heap.size + 1 = w1.heap.size) := by have := S1.out; omega
  have hn4 : ¬ (w.heap.size = w1.heap.size) := by have := S1.out; omega
  clear hb2 x0 x1 x2 x3 hBl HX1
  have HQB : Hid (QB w2 w1.heap.size (w.heap.size + 2) Q (.slice b1 Q.I.length c1) (.slice b2 Q.D.length c2) (.slice b3 Q.A.length c3)) := ⟨OB2.out, (HO.out.outS OU2.out (fun t ht => by simp at ht; omega)), (fun h => by have := (HO.out.i.lt _ h).2; omega), (fun h => by have := (HO.out.d.lt _ h).2; omega), (fun h => by have := (HO.out.a.lt _ h).2; omega)⟩
  have hS1 := S1.out
  cases ok with
  | false =>
    have HR := hide (HRn.out (by first | rfl | trivial))
    clear HRn HRm HRy HPT HNM HOK
    have u0 := HQB.out.o.cell 0 _ rfl
    have u1 := HQB.out.o.cell 1 _ rfl
    have u2 := HQB.out.o.cell 2 _ rfl
    have u3 := HQB.out.o.cell 3 _ rfl
    have z0 := OZ2.out.cell 0 _ rfl
    have z1 := OZ2.out.cell 1 _ rfl
    have z2 := OZ2.out.cell 2 _ rfl
    have z3 := OZ2.out.cell 3 _ rfl
    have g0 := OZ2.out.fz 0
    have g1 := OZ2.out.fz 1
    have g2 := OZ2.out.fz 2
    have g3 := OZ2.out.fz 3
    have HOU : Hid (OutS [w.heap.size + 1] w2 ((((w2.setCell ⟨w.heap.size + 1, 0, none⟩ (.slice b1 Q.I.length c1)).setCell ⟨w.heap.size + 1, 1, none⟩ (.slice b2 Q.D.length c2)).setCell ⟨w.heap.size + 1, 2, none⟩ (.slice b3 Q.A.length c3)).setCell ⟨w.heap.size + 1, 3, none⟩ (.int .i64 Q.now))) := by
      show OutS _ _ _
      repeat (first | with_reducible exact OutS.refl _ _ | with_reducible refine OutS.setCell ?_ (show _ ∈ [w.heap.size + 1] by simp) _)
    go_wp2
    refine bodyPost_ret (v := .tuple #[.agg #[.slice b1 Q.I.length c1, .slice b2 Q.D.length c2, .slice b3 Q.A.length c3, .int .i64 Q.now], .bool false]) ?_ rfl ⟨_, _, _, by rw [HR.out], by rw [HR.out]; exact QO.mono (HQB.out.q.outS HOU.out (fun t ht => by simp at ht; omega)) (by omega), B2.out.trans (HOU.out.below (fun t ht => by simp at ht; omega) B2.out.size)⟩
    simp [results, Try.results33, go_sem, z0, z1, z2, z3]
  | true =>
    go_wp2_with fail
    refine (HNM.out _).mono ?_
    rintro e w3 ⟨rfl, hb3⟩
    have HQB3 := hide (HQB.out.below hb3)
    have OZ3 := hide (OZ2.out.below hb3)
    have B3 : Hid (Below w.heap.size w w3) := B2.out.trans (hb3.mono B2.out.size)
    clear hb3 HQB OZ2 B2 OX2 OB2 OU2
    cases nb with
    | false =>
      have HR := hide (HRm.out (by first | rfl | trivial))
      clear HRn HRm HRy HPT HNM HOK
      have u0 := HQB3.out.o.cell 0 _ rfl
      have u1 := HQB3.out.o.cell 1 _ rfl
      have u2 := HQB3.out.o.cell 2 _ rfl
      have u3 := HQB3.out.o.cell 3 _ rfl
      have z0 := OZ3.out.cell 0 _ rfl
      have z1 := OZ3.out.cell 1 _ rfl
      have z2 := OZ3.out.cell 2 _ rfl
      have z3 := OZ3.out.cell 3 _ rfl
      have g0 := OZ3.out.fz 0
      have g1 := OZ3.out.fz 1
      have g2 := OZ3.out.fz 2
      have g3 := OZ3.out.fz 3
      have HOU : Hid (OutS [w.heap.size + 1] w3 ((((w3.setCell ⟨w.heap.size + 1, 0, none⟩ (.slice b1 Q.I.length c1)).setCell ⟨w.heap.size + 1, 1, none⟩ (.slice b2 Q.D.length c2)).setCell ⟨w.heap.size + 1, 2, none⟩ (.slice b3 Q.A.length c3)).setCell ⟨w.heap.size + 1, 3, none⟩ (.int .i64 Q.now))) := by
        show OutS _ _ _
        repeat (first | with_reducible exact OutS.refl _ _ | with_reducible refine OutS.setCell ?_ (show _ ∈ [w.heap.size + 1] by simp) _)
      go_wp2
      refine bodyPost_ret (v := .tuple #[.agg #[.slice b1 Q.I.length c1, .slice b2 Q.D.length c2, .slice b3 Q.A.length c3, .int .i64 Q.now], .bool false]) ?_ rfl ⟨_, _, _, by rw [HR.out], by rw [HR.out]; exact QO.mono (HQB3.out.q.outS HOU.out (fun t ht => by simp at ht; omega)) (by omega), B3.out.trans (HOU.out.below (fun t ht => by simp at ht; omega) B3.out.size)⟩
      simp [results, Try.results33, go_sem, z0, z1, z2, z3]
    | true =>
      have HR := hide (HRy.out (by first | rfl | trivial) (by first | rfl | trivial))
      clear HRn HRm HRy HNM HOK
      go_wp2_with fail
      refine (HPT.out _ _ _ _ _ HQB3.out hS1).mono ?_
      rintro e w4 ⟨vI', vD', vA', rfl, hq4, hb4⟩
      have HQB4 := hide hq4
      have OZ4 : Hid (objU w4 (w.heap.size + 1) 66 [.slice none 0 0, .slice none 0 0, .slice none 0 0, .int .i64 0]) := (hb4.block _ (Nat.lt_succ_self _)).trans OZ3.out
      have B4 : Hid (Below w.heap.size w w4) := B3.out.trans (hb4.mono (by omega))
      clear hq4 hb4 HPT HQB3 OZ3 B3
      generalize putC Q s = R at *
      obtain ⟨R1, R2⟩ := R
      dsimp only at HQB4
      obtain ⟨e1, f1, e2, f2, e3, f3, rfl, rfl, rfl⟩ := HQB4.out.xs
      have u0 := HQB4.out.o.cell 0 _ rfl
      have u1 := HQB4.out.o.cell 1 _ rfl
      have u2 := HQB4.out.o.cell 2 _ rfl
      have u3 := HQB4.out.o.cell 3 _ rfl
      have z0 := OZ4.out.cell 0 _ rfl
      have z1 := OZ4.out.cell 1 _ rfl
      have z2 := OZ4.out.cell 2 _ rfl
      have z3 := OZ4.out.cell 3 _ rfl
      have g0 := OZ4.out.fz 0
      have g1 := OZ4.out.fz 1
      have g2 := OZ4.out.fz 2
      have g3 := OZ4.out.fz 3
      have HOU : Hid (OutS [w.heap.size + 1] w4 ((((w4.setCell ⟨w.heap.size + 1, 0, none⟩ (.slice e1 R1.I.length f1)).setCell ⟨w.heap.size + 1, 1, none⟩ (.slice e2 R1.D.length f2)).setCell ⟨w.heap.size + 1, 2, none⟩ (.slice e3 R1.A.length f3)).setCell ⟨w.heap.size + 1, 3, none⟩ (.int .i64 R1.now))) := by
        show OutS _ _ _
        repeat (first | with_reducible exact OutS.refl _ _ | with_reducible refine OutS.setCell ?_ (show _ ∈ [w.heap.size + 1] by simp) _)
      go_wp2
      refine bodyPost_ret (v := .tuple #[.agg #[.slice e1 R1.I.length f1, .slice e2 R1.D.length f2, .slice e3 R1.A.length f3, .int .i64 R1.now], .bool R2]) ?_ rfl ⟨_, _, _, by rw [HR.out], by rw [HR.out]; exact QO.mono (HQB4.out.q.outS HOU.out (fun t ht => by simp at ht; omega)) (by omega), B4.out.trans (HOU.out.below (fun t ht => by simp at ht; omega) B4.out.size)⟩
      simp [results, Try.results33, go_sem, z0, z1, z2, z3]
end Go.Proofs.Ytpmhmcekkppbhaa
