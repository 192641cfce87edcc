/- Queues: Pass on both sides. -/
import Derived.Test.YtpmhmcekkppbhaaQfH
namespace Go.Proofs.Ytpmhmcekkppbhaa
open Go.RowKit Go.BigFrame
set_option linter.unusedVariables false

theorem OutS.setFar {T : List Nat} {a w : World} (h : OutS T a w) {p : Addr} (hp : a.heap.size ≤ p.block) (u : Value) : OutS T a (w.setCell p u) :=
  ⟨h.os, h.tape, h.output, by simpa [World.setCell] using h.size, fun k hk hn => (Below.heap_setCell w p u k (by omega)).trans (h.block k hk hn)⟩
theorem QO.now {w : World} {base : Nat} {tI tS : TypeId} {Q : Qu} {vI vD vA : Value} (h : QO w base tI tS Q vI vD vA) {z : Int} : QO w base tI tS { Q with now := z } vI vD vA := ⟨h.i, h.d, h.a, h.id, h.ia, h.da⟩
theorem okQ_pass {Q : Qu} (hq : okQ Q) {z : Int} (hz : inK .i64 z) : okQ (passQ Q z) := by
  unfold passQ
  split
  · exact ⟨hq.1, hq.2.1, hq.2.2.1, hz⟩
  · exact hq
set_option maxRecDepth 20000 in
set_option maxHeartbeats 1600000 in
theorem sPass_any (Q : Qu) (z : Int) (xs : List Value) (w : World) (hq : okQ Q) (hx : rdQ w Q xs) :
    Calls Try.prog 142 #[.agg xs.toArray, .int .i64 z] w fun e w' => ∃ vI vD vA, e = .returned (.agg #[vI, vD, vA, .int .i64 (passQ Q z).now]) ∧ ownQ w' w.heap.size (passQ Q z) vI vD vA ∧ Below w.heap.size w w' := by
  have hxx := hx
  obtain ⟨cI, cD, cA, rfl, hI, hD, hA⟩ := hx
  have l1 := hq.1.1
  have l2 := hq.2.1.1
  have l3 := hq.2.2.1.1
  obtain ⟨aI, pI, rfl, -, -⟩ := hI.itS
  obtain ⟨aD, pD, rfl, -, -⟩ := hD.itS
  obtain ⟨aA, pA, rfl, -, -⟩ := hA.stS
  have HX := hide hxx
  have HK := hide hq
  have HI := hide hI
  have HD := hide hD
  have HA := hide hA
  clear hI hD hA hxx hq
  have HCP : Hid (∀ wx, Below w.heap.size w wx → Calls Try.prog 92 #[.agg #[.slice aI Q.I.length pI, .slice aD Q.D.length pD, .slice aA Q.A.length pA, .int .i64 Q.now]] wx fun e w' => ∃ vI vD vA, e = .returned (.agg #[vI, vD, vA, .int .i64 Q.now]) ∧ ownQ w' wx.heap.size Q vI vD vA ∧ Below wx.heap.size wx w') := fun wx hb => l9Copy_N Q _ wx HK.out (HX.out.below hb)
  have HOK : Hid (∀ wx, Below w.heap.size w wx → Calls Try.prog 35 #[.agg #[.slice aI Q.I.length pI, .slice aD Q.D.length pD, .slice aA Q.A.length pA, .int .i64 Q.now]] wx fun e w' => e = .returned (.bool (qOk Q)) ∧ Below wx.heap.size wx w') := fun wx hb => sQueueOk_any Q _ wx HK.out (HX.out.below hb)
  obtain ⟨w0, ew0⟩ : ∃ w0, w0 = ((w.alloc (.cells #[.slice aI Q.I.length pI, .slice aD Q.D.length pD, .slice aA Q.A.length pA, .int .i64 Q.now] 66)).alloc (.cells #[.slice none 0 0, .slice none 0 0, .slice none 0 0, .int .i64 0] 66)) := ⟨_, rfl⟩
  have BX : Hid (Below w.heap.size w w0) := by show Below _ _ _; rw [ew0]; exact ((Below.refl _ _).alloc (Nat.le_refl _) _).alloc (by simp) _
  have OX : Hid (objU w0 w.heap.size 66 [.slice aI Q.I.length pI, .slice aD Q.D.length pD, .slice aA Q.A.length pA, .int .i64 Q.now]) := by show objU _ _ _ _; rw [ew0]; exact (objU.new _ _ _).old _
  have OZ : Hid (objU w0 (w.heap.size + 1) 66 [.slice none 0 0, .slice none 0 0, .slice none 0 0, .int .i64 0]) := by show objU _ _ _ _; rw [ew0]; exact objU.new2 _ _ (by simp)
  have SZ : Hid (w0.heap.size = w.heap.size + 2) := by show _ = _; rw [ew0]; simp
  have EW := hide ew0
  clear ew0
  go_enter Try.func142, Try.ntmps142
  go_wp2_with fail
  refine (HCP.out _ (EW.out ▸ BX.out)).mono ?_
  rintro e w1 ⟨vI, vD, vA, rfl, ho, hb⟩
  replace ho : ownQ w1 (w.heap.size + 2) Q vI vD vA := by have h := ho; rw [← SZ.out, EW.out]; exact h
  replace hb : Below w0.heap.size w0 w1 := by have h := hb; rw [EW.out]; exact h
  have HO := hide ho
  have OX1 := hide (OX.out.below hb)
  have OZ1 := hide (OZ.out.below hb)
  have B1 : Hid (Below w.heap.size w w1) := BX.out.trans (hb.mono BX.out.size)
  have S1 : Hid (w.heap.size + 2 ≤ w1.heap.size) := by show _ ≤ _; rw [← SZ.out]; exact hb.size
  obtain ⟨b1, c1, rfl⟩ := ho.i.itS
  obtain ⟨b2, c2, rfl⟩ := ho.d.itS
  obtain ⟨b3, c3, rfl⟩ := ho.a.stS
  have x0 := OX1.out.cell 0 _ rfl
  have x1 := OX1.out.cell 1 _ rfl
  have x2 := OX1.out.cell 2 _ rfl
  have x3 := OX1.out.cell 3 _ rfl
  have hBl := OX1.out.lt
  clear ho hb OX OZ BX SZ EW HCP
  have HX1 : Hid (Below w.heap.size w (w1.alloc (.cells #[.slice b1 Q.I.length c1, .slice b2 Q.D.length c2, .slice b3 Q.A.length c3, .int .i64 Q.now] 66))) := B1.out.alloc B1.out.size _
  have HRn : Hid (qOk Q = false → passQ Q z = Q) := fun h => if_neg (fun g => by rw [h] at g; cases g.1)
  have HR1 : Hid (¬ z > Q.now → passQ Q z = Q) := fun h => if_neg (fun g => h g.2.1)
  have HR2 : Hid (¬ z ≤ 1000000 → passQ Q z = Q) := fun h => if_neg (fun g => h g.2.2)
  have HRy : Hid (qOk Q = true → z > Q.now → z ≤ 1000000 → passQ Q z = { Q with now := z }) := fun a b c => if_pos ⟨a, b, c⟩
  generalize qOk Q = ok at *
  go_wp2_with fail
  refine (HOK.out _ HX1.out).mono ?_
  rintro e w2 ⟨rfl, hb2⟩
  have OX2 := hide ((OX1.out.old _).below hb2)
  have OZ2 := hide ((OZ1.out.old _).below hb2)
  have OB2 : Hid (objU w2 w1.heap.size 66 [.slice b1 Q.I.length c1, .slice b2 Q.D.length c2, .slice b3 Q.A.length c3, .int .i64 Q.now]) := (objU.new _ _ _).below hb2
  have B2 : Hid (Below w.heap.size w w2) := HX1.out.trans (hb2.mono HX1.out.size)
  have OU2 : Hid (OutS [w.heap.size, w.heap.size + 1] w1 w2) := (OutS.of_below (below_alloc _ _)).trans (OutS.of_below hb2)
  have hn1 : ¬ (w1.heap.size = w.heap.size + 1) := by have := S1.out; omega
  have hn2 : ¬ (w1.heap.size = w.heap.size) := by have := S1.out; omega
  have hn3 : ¬ (w.heap.size + 1 = w1.heap.size) := by have := S1.out; omega
  have hn4 : ¬ (w.heap.size = w1.heap.size) := by have := S1.out; omega
  clear hb2 x0 x1 x2 x3 hBl HX1
  have y0 := OB2.out.cell 0 _ rfl
  have y1 := OB2.out.cell 1 _ rfl
  have y2 := OB2.out.cell 2 _ rfl
  have y3 := OB2.out.cell 3 _ rfl
  have z0 := OZ2.out.cell 0 _ rfl
  have z1 := OZ2.out.cell 1 _ rfl
  have z2 := OZ2.out.cell 2 _ rfl
  have z3 := OZ2.out.cell 3 _ rfl
  have g0 := OZ2.out.fz 0
  have g1 := OZ2.out.fz 1
  have g2 := OZ2.out.fz 2
  have g3 := OZ2.out.fz 3
  have x3 := OX2.out.cell 3 _ rfl
  have f3 := OB2.out.fz 3
  cases ok with
  | false =>
    have HR : Hid (passQ Q z = Q) := HRn.out (by first | rfl | trivial)
    clear HRn HR1 HR2 HRy
    go_wp2
    have HOU : Hid (OutS [w.heap.size, w.heap.size + 1] w1 ((((w2.setCell ⟨w.heap.size + 1, 0, none⟩ (.slice b1 Q.I.length c1)).setCell ⟨w.heap.size + 1, 1, none⟩ (.slice b2 Q.D.length c2)).setCell ⟨w.heap.size + 1, 2, none⟩ (.slice b3 Q.A.length c3)).setCell ⟨w.heap.size + 1, 3, none⟩ (.int .i64 Q.now))) := by
      show OutS _ _ _
      repeat (first | with_reducible exact OU2.out | with_reducible refine OutS.setFar ?_ (Nat.le_refl _) _ | with_reducible refine OutS.setCell ?_ (show _ ∈ [w.heap.size, w.heap.size + 1] by simp) _)
    refine bodyPost_ret (v := .agg #[.slice b1 Q.I.length c1, .slice b2 Q.D.length c2, .slice b3 Q.A.length c3, .int .i64 Q.now]) ?_ rfl ⟨_, _, _, by rw [HR.out], by rw [HR.out]; exact QO.now ((HO.out.outS HOU.out (fun t ht => by simp at ht; omega)).mono (by omega)), B1.out.trans (HOU.out.below (fun t ht => by simp at ht; omega) B1.out.size)⟩
    simp [results, Try.results142, go_sem, z0, z1, z2, z3]
  | true =>
    by_cases h1 : z > Q.now
    · by_cases h2 : z ≤ 1000000
      · have HR : Hid (passQ Q z = { Q with now := z }) := HRy.out (by first | rfl | trivial) h1 h2
        clear HRn HR1 HR2 HRy
        go_wp2
        have HOU : Hid (OutS [w.heap.size, w.heap.size + 1] w1 (((((w2.setCell ⟨w1.heap.size, 3, none⟩ (.int .i64 z)).setCell ⟨w.heap.size + 1, 0, none⟩ (.slice b1 Q.I.length c1)).setCell ⟨w.heap.size + 1, 1, none⟩ (.slice b2 Q.D.length c2)).setCell ⟨w.heap.size + 1, 2, none⟩ (.slice b3 Q.A.length c3)).setCell ⟨w.heap.size + 1, 3, none⟩ (.int .i64 z))) := by
          show OutS _ _ _
          repeat (first | with_reducible exact OU2.out | with_reducible refine OutS.setFar ?_ (Nat.le_refl _) _ | with_reducible refine OutS.setCell ?_ (show _ ∈ [w.heap.size, w.heap.size + 1] by simp) _)
        refine bodyPost_ret (v := .agg #[.slice b1 Q.I.length c1, .slice b2 Q.D.length c2, .slice b3 Q.A.length c3, .int .i64 z]) ?_ rfl ⟨_, _, _, by rw [HR.out], by rw [HR.out]; exact QO.now ((HO.out.outS HOU.out (fun t ht => by simp at ht; omega)).mono (by omega)), B1.out.trans (HOU.out.below (fun t ht => by simp at ht; omega) B1.out.size)⟩
        simp [results, Try.results142, go_sem, z0, z1, z2, z3]
      · have HR : Hid (passQ Q z = Q) := HR2.out (by omega)
        clear HRn HR1 HR2 HRy
        go_wp2
        have HOU : Hid (OutS [w.heap.size, w.heap.size + 1] w1 ((((w2.setCell ⟨w.heap.size + 1, 0, none⟩ (.slice b1 Q.I.length c1)).setCell ⟨w.heap.size + 1, 1, none⟩ (.slice b2 Q.D.length c2)).setCell ⟨w.heap.size + 1, 2, none⟩ (.slice b3 Q.A.length c3)).setCell ⟨w.heap.size + 1, 3, none⟩ (.int .i64 Q.now))) := by
          show OutS _ _ _
          repeat (first | with_reducible exact OU2.out | with_reducible refine OutS.setFar ?_ (Nat.le_refl _) _ | with_reducible refine OutS.setCell ?_ (show _ ∈ [w.heap.size, w.heap.size + 1] by simp) _)
        refine bodyPost_ret (v := .agg #[.slice b1 Q.I.length c1, .slice b2 Q.D.length c2, .slice b3 Q.A.length c3, .int .i64 Q.now]) ?_ rfl ⟨_, _, _, by rw [HR.out], by rw [HR.out]; exact QO.now ((HO.out.outS HOU.out (fun t ht => by simp at ht; omega)).mono (by omega)), B1.out.trans (HOU.out.below (fun t ht => by simp at ht; omega) B1.out.size)⟩
        simp [results, Try.results142, go_sem, z0, z1, z2, z3]
    · have HR : Hid (passQ Q z = Q) := HR1.out (by omega)
      clear HRn HR1 HR2 HRy
      go_wp2
      have HOU : Hid (OutS [w.heap.size, w.heap.size + 1] w1 ((((w2.setCell ⟨w.heap.size + 1, 0, none⟩ (.slice b1 Q.I.length c1)).setCell ⟨w.heap.size + 1, 1, none⟩ (.slice b2 Q.D.length c2)).setCell ⟨w.heap.size + 1, 2, none⟩ (.slice b3 Q.A.length c3)).setCell ⟨w.heap.size + 1, 3, none⟩ (.int .i64 Q.now))) := by
        show OutS _ _ _
        repeat (first | with_reducible exact OU2.out | with_reducible refine OutS.setFar ?_ (Nat.le_refl _) _ | with_reducible refine OutS.setCell ?_ (show _ ∈ [w.heap.size, w.heap.size + 1] by simp) _)
      refine bodyPost_ret (v := .agg #[.slice b1 Q.I.length c1, .slice b2 Q.D.length c2, .slice b3 Q.A.length c3, .int .i64 Q.now]) ?_ rfl ⟨_, _, _, by rw [HR.out], by rw [HR.out]; exact QO.now ((HO.out.outS HOU.out (fun t ht => by simp at ht; omega)).mono (by omega)), B1.out.trans (HOU.out.below (fun t ht => by simp at ht; omega) B1.out.size)⟩
      simp [results, Try.results142, go_sem, z0, z1, z2, z3]
set_option maxRecDepth 20000 in
set_option maxHeartbeats 1600000 in
theorem iPass_any (Q : Qu) (z : Int) (xs : List Value) (w : World) (hq : okQ Q) (hx : rdQ w Q xs) :
    Calls Try.prog 43 #[.agg xs.toArray, .int .i64 z] w fun e w' => ∃ vI vD vA, e = .returned (.agg #[vI, vD, vA, .int .i64 (passQ Q z).now]) ∧ ownQ w' w.heap.size (passQ Q z) vI vD vA ∧ Below w.heap.size w w' := by
  have hxx := hx
  obtain ⟨cI, cD, cA, rfl, hI, hD, hA⟩ := hx
  have l1 := hq.1.1
  have l2 := hq.2.1.1
  have l3 := hq.2.2.1.1
  obtain ⟨aI, pI, rfl, -, -⟩ := hI.itS
  obtain ⟨aD, pD, rfl, -, -⟩ := hD.itS
  obtain ⟨aA, pA, rfl, -, -⟩ := hA.stS
  have HX := hide hxx
  have HK := hide hq
  have HI := hide hI
  have HD := hide hD
  have HA := hide hA
  clear hI hD hA hxx hq
  have HCP : Hid (∀ wx, Below w.heap.size w wx → Calls Try.prog 90 #[.agg #[.slice aI Q.I.length pI, .slice aD Q.D.length pD, .slice aA Q.A.length pA, .int .i64 Q.now]] wx fun e w' => ∃ vI vD vA, e = .returned (.agg #[vI, vD, vA, .int .i64 Q.now]) ∧ ownQ w' wx.heap.size Q vI vD vA ∧ Below wx.heap.size wx w') := fun wx hb => copyQ_N Q _ wx HK.out (HX.out.below hb)
  have HOK : Hid (∀ wx, Below w.heap.size w wx → Calls Try.prog 36 #[.agg #[.slice aI Q.I.length pI, .slice aD Q.D.length pD, .slice aA Q.A.length pA, .int .i64 Q.now]] wx fun e w' => e = .returned (.bool (qOk Q)) ∧ Below wx.heap.size wx w') := fun wx hb => iQueueOk_any Q _ wx HK.out (HX.out.below hb)
  obtain ⟨w0, ew0⟩ : ∃ w0, w0 = ((w.alloc (.cells #[.slice aI Q.I.length pI, .slice aD Q.D.length pD, .slice aA Q.A.length pA, .int .i64 Q.now] 66)).alloc (.cells #[.slice none 0 0, .slice none 0 0, .slice none 0 0, .int .i64 0] 66)) := ⟨_, rfl⟩
  have BX : Hid (Below w.heap.size w w0) := by show Below _ _ _; rw [ew0]; exact ((Below.refl _ _).alloc (Nat.le_refl _) _).alloc (by simp) _
  have OX : Hid (objU w0 w.heap.size 66 [.slice aI Q.I.length pI, .slice aD Q.D.length pD, .slice aA Q.A.length pA, .int .i64 Q.now]) := by show objU _ _ _ _; rw [ew0]; exact (objU.new _ _ _).old _
  have OZ : Hid (objU w0 (w.heap.size + 1) 66 [.slice none 0 0, .slice none 0 0, .slice none 0 0, .int .i64 0]) := by show objU _ _ _ _; rw [ew0]; exact objU.new2 _ _ (by simp)
  have SZ : Hid (w0.heap.size = w.heap.size + 2) := by show _ = _; rw [ew0]; simp
  have EW := hide ew0
  clear ew0
  go_enter Try.func43, Try.ntmps43
  go_wp2_with fail
  refine (HCP.out _ (EW.out ▸ BX.out)).mono ?_
  rintro e w1 ⟨vI, vD, vA, rfl, ho, hb⟩
  replace ho : ownQ w1 (w.heap.size + 2) Q vI vD vA := by have h := ho; rw [← SZ.out, EW.out]; exact h
  replace hb : Below w0.heap.size w0 w1 := by have h := hb; rw [EW.out]; exact h
  have HO := hide ho
  have OX1 := hide (OX.out.below hb)
  have OZ1 := hide (OZ.out.below hb)
  have B1 : Hid (Below w.heap.size w w1) := BX.out.trans (hb.mono BX.out.size)
  have S1 : Hid (w.heap.size + 2 ≤ w1.heap.size) := by show _ ≤ _; rw [← SZ.out]; exact hb.size
  obtain ⟨b1, c1, rfl⟩ := ho.i.itS
  obtain ⟨b2, c2, rfl⟩ := ho.d.itS
  obtain ⟨b3, c3, rfl⟩ := ho.a.stS
  have x0 := OX1.out.cell 0 _ rfl
  have x1 := OX1.out.cell 1 _ rfl
  have x2 := OX1.out.cell 2 _ rfl
  have x3 := OX1.out.cell 3 _ rfl
  have hBl := OX1.out.lt
  clear ho hb OX OZ BX SZ EW HCP
  have HX1 : Hid (Below w.heap.size w (w1.alloc (.cells #[.slice b1 Q.I.length c1, .slice b2 Q.D.length c2, .slice b3 Q.A.length c3, .int .i64 Q.now] 66))) := B1.out.alloc B1.out.size _
  have HRn : Hid (qOk Q = false → passQ Q z = Q) := fun h => if_neg (fun g => by rw [h] at g; cases g.1)
  have HR1 : Hid (¬ z > Q.now → passQ Q z = Q) := fun h => if_neg (fun g => h g.2.1)
  have HR2 : Hid (¬ z ≤ 1000000 → passQ Q z = Q) := fun h => if_neg (fun g => h g.2.2)
  have HRy : Hid (qOk Q = true → z > Q.now → z ≤ 1000000 → passQ Q z = { Q with now := z }) := fun a b c => if_pos ⟨a, b, c⟩
  generalize qOk Q = ok at *
  go_wp2_with fail
  refine (HOK.out _ HX1.out).mono ?_
  rintro e w2 ⟨rfl, hb2⟩
  have OX2 := hide ((OX1.out.old _).below hb2)
  have OZ2 := hide ((OZ1.out.old _).below hb2)
  have OB2 : Hid (objU w2 w1.heap.size 66 [.slice b1 Q.I.length c1, .slice b2 Q.D.length c2, .slice b3 Q.A.length c3, .int .i64 Q.now]) := (objU.new _ _ _).below hb2
  have B2 : Hid (Below w.heap.size w w2) := HX1.out.trans (hb2.mono HX1.out.size)
  have OU2 : Hid (OutS [w.heap.size, w.heap.size + 1] w1 w2) := (OutS.of_below (below_alloc _ _)).trans (OutS.of_below hb2)
  have hn1 : ¬ (w1.heap.size = w.heap.size + 1) := by have := S1.out; omega
  have hn2 : ¬ (w1.heap.size = w.heap.size) := by have := S1.out; omega
  have hn3 : ¬ (w.heap.size + 1 = w1.heap.size) := by have := S1.out; omega
  have hn4 : ¬ (w.heap.size = w1.heap.size) := by have := S1.out; omega
  clear hb2 x0 x1 x2 x3 hBl HX1
  have y0 := OB2.out.cell 0 _ rfl
  have y1 := OB2.out.cell 1 _ rfl
  have y2 := OB2.out.cell 2 _ rfl
  have y3 := OB2.out.cell 3 _ rfl
  have z0 := OZ2.out.cell 0 _ rfl
  have z1 := OZ2.out.cell 1 _ rfl
  have z2 := OZ2.out.cell 2 _ rfl
  have z3 := OZ2.out.cell 3 _ rfl
  have g0 := OZ2.out.fz 0
  have g1 := OZ2.out.fz 1
  have g2 := OZ2.out.fz 2
  have g3 := OZ2.out.fz 3
  have x3 := OX2.out.cell 3 _ rfl
  have f3 := OB2.out.fz 3
  cases ok with
  | false =>
    have HR : Hid (passQ Q z = Q) := HRn.out (by first | rfl | trivial)
    clear HRn HR1 HR2 HRy
    go_wp2
    have HOU : Hid (OutS [w.heap.size, w.heap.size + 1] w1 ((((w2.setCell ⟨w.heap.size + 1, 0, none⟩ (.slice b1 Q.I.length c1)).setCell ⟨w.heap.size + 1, 1, none⟩ (.slice b2 Q.D.length c2)).setCell ⟨w.heap.size + 1, 2, none⟩ (.slice b3 Q.A.length c3)).setCell ⟨w.heap.size + 1, 3, none⟩ (.int .i64 Q.now))) := by
      show OutS _ _ _
      repeat (first | with_reducible exact OU2.out | with_reducible refine OutS.setFar ?_ (Nat.le_refl _) _ | with_reducible refine OutS.setCell ?_ (show _ ∈ [w.heap.size, w.heap.size + 1] by simp) _)
    refine bodyPost_ret (v := .agg #[.slice b1 Q.I.length c1, .slice b2 Q.D.length c2, .slice b3 Q.A.length c3, .int .i64 Q.now]) ?_ rfl ⟨_, _, _, by rw [HR.out], by rw [HR.out]; exact QO.now ((HO.out.outS HOU.out (fun t ht => by simp at ht; omega)).mono (by omega)), B1.out.trans (HOU.out.below (fun t ht => by simp at ht; omega) B1.out.size)⟩
    simp [results, Try.results43, go_sem, z0, z1, z2, z3]
  | true =>
    by_cases h1 : z > Q.now
    · by_cases h2 : z ≤ 1000000
      · have HR : Hid (passQ Q z = { Q with now := z }) := HRy.out (by first | rfl | trivial) h1 h2
        clear HRn HR1 HR2 HRy
        go_wp2
        have HOU : Hid (OutS [w.heap.size, w.heap.size + 1] w1 (((((w2.setCell ⟨w1.heap.size, 3, none⟩ (.int .i64 z)).setCell ⟨w.heap.size + 1, 0, none⟩ (.slice b1 Q.I.length c1)).setCell ⟨w.heap.size + 1, 1, none⟩ (.slice b2 Q.D.length c2)).setCell ⟨w.heap.size + 1, 2, none⟩ (.slice b3 Q.A.length c3)).setCell ⟨w.heap.size + 1, 3, none⟩ (.int .i64 z))) := by
          show OutS _ _ _
          repeat (first | with_reducible exact OU2.out | with_reducible refine OutS.setFar ?_ (Nat.le_refl _) _ | with_reducible refine OutS.setCell ?_ (show _ ∈ [w.heap.size, w.heap.size + 1] by simp) _)
        refine bodyPost_ret (v := .agg #[.slice b1 Q.I.length c1, .slice b2 Q.D.length c2, .slice b3 Q.A.length c3, .int .i64 z]) ?_ rfl ⟨_, _, _, by rw [HR.out], by rw [HR.out]; exact QO.now ((HO.out.outS HOU.out (fun t ht => by simp at ht; omega)).mono (by omega)), B1.out.trans (HOU.out.below (fun t ht => by simp at ht; omega) B1.out.size)⟩
        simp [results, Try.results43, go_sem, z0, z1, z2, z3]
      · have HR : Hid (passQ Q z = Q) := HR2.out (by omega)
        clear HRn HR1 HR2 HRy
        go_wp2
        have HOU : Hid (OutS [w.heap.size, w.heap.size + 1] w1 ((((w2.setCell ⟨w.heap.size + 1, 0, none⟩ (.slice b1 Q.I.length c1)).setCell ⟨w.heap.size + 1, 1, none⟩ (.slice b2 Q.D.length c2)).setCell ⟨w.heap.size + 1, 2, none⟩ (.slice b3 Q.A.length c3)).setCell ⟨w.heap.size + 1, 3, none⟩ (.int .i64 Q.now))) := by
          show OutS _ _ _
          repeat (first | with_reducible exact OU2.out | with_reducible refine OutS.setFar ?_ (Nat.le_refl _) _ | with_reducible refine OutS.setCell ?_ (show _ ∈ [w.heap.size, w.heap.size + 1] by simp) _)
        refine bodyPost_ret (v := .agg #[.slice b1 Q.I.length c1, .slice b2 Q.D.length c2, .slice b3 Q.A.length c3, .int .i64 Q.now]) ?_ rfl ⟨_, _, _, by rw [HR.out], by rw [HR.out]; exact QO.now ((HO.out.outS HOU.out (fun t ht => by simp at ht; omega)).mono (by omega)), B1.out.trans (HOU.out.below (fun t ht => by simp at ht; omega) B1.out.size)⟩
        simp [results, Try.results43, go_sem, z0, z1, z2, z3]
    · have HR : Hid (passQ Q z = Q) := HR1.out (by omega)
      clear HRn HR1 HR2 HRy
      go_wp2
      have HOU : Hid (OutS [w.heap.size, w.heap.size + 1] w1 ((((w2.setCell ⟨w.heap.size + 1, 0, none⟩ (.slice b1 Q.I.length c1)).setCell ⟨w.heap.size + 1, 1, none⟩ (.slice b2 Q.D.length c2)).setCell ⟨w.heap.size + 1, 2, none⟩ (.slice b3 Q.A.length c3)).setCell ⟨w.heap.size + 1, 3, none⟩ (.int .i64 Q.now))) := by
        show OutS _ _ _
        repeat (first | with_reducible exact OU2.out | with_reducible refine OutS.setFar ?_ (Nat.le_refl _) _ | with_reducible refine OutS.setCell ?_ (show _ ∈ [w.heap.size, w.heap.size + 1] by simp) _)
      refine bodyPost_ret (v := .agg #[.slice b1 Q.I.length c1, .slice b2 Q.D.length c2, .slice b3 Q.A.length c3, .int .i64 Q.now]) ?_ rfl ⟨_, _, _, by rw [HR.out], by rw [HR.out]; exact QO.now ((HO.out.outS HOU.out (fun t ht => by simp at ht; omega)).mono (by omega)), B1.out.trans (HOU.out.below (fun t ht => by simp at ht; omega) B1.out.size)⟩
      simp [results, Try.results43, go_sem, z0, z1, z2, z3]
end Go.Proofs.Ytpmhmcekkppbhaa
