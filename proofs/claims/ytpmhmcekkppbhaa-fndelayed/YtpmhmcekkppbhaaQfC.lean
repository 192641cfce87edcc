/- A queue copied by the program: impl.copyOfQueue. -/
import Derived.Test.YtpmhmcekkppbhaaQfA
import Derived.Test.YtpmhmcekkppbhaaGR2
import Derived.Test.YtpmhmcekkppbhaaU5
namespace Go.Proofs.Ytpmhmcekkppbhaa
open Go.RowKit Go.BigFrame
set_option linter.unusedVariables false

theorem elI : elT Try.prog 64 75 3 := elT_of (b := 32) (by kernel_rfl) (by kernel_rfl) (by decide)
theorem elS : elT Try.prog 32 9 1 := elT_of (b := 16) (by kernel_rfl) (by kernel_rfl) (by decide)
theorem ownR.itS {w : World} {base : Nat} {e : TypeId} {k : Nat} {v : Value} {L : List It} (h : ownR w base e k v (L.map encI)) : ∃ a cap, v = .slice a L.length cap := by have := h.slice; rw [List.length_map] at this; exact this
theorem ownR.stS {w : World} {base : Nat} {e : TypeId} {k : Nat} {v : Value} {L : List ByteArray} (h : ownR w base e k v (L.map encS)) : ∃ a cap, v = .slice a L.length cap := by have := h.slice; rw [List.length_map] at this; exact this
theorem oneI (L : List It) : oneR (L.map encI) := fun r hr u hu => by
  obtain ⟨x, _, rfl⟩ := List.mem_map.1 hr
  simp [encI] at hu
  rcases hu with rfl | rfl | rfl <;> rfl
theorem oneS (L : List ByteArray) : oneR (L.map encS) := fun r hr u hu => by
  obtain ⟨x, _, rfl⟩ := List.mem_map.1 hr
  simp [encS] at hu
  rw [hu]; rfl
/-- a queue of the call's own, in blocks from base on -/
def ownQ (w : World) (base : Nat) (Q : Qu) (vI vD vA : Value) : Prop := QO w base 75 9 Q vI vD vA
set_option maxRecDepth 20000 in
set_option maxHeartbeats 1600000 in
theorem copyQ_N (Q : Qu) (xs : List Value) (w : World) (hq : okQ Q) (hx : rdQ w Q xs) :
    Calls Try.prog 90 #[.agg xs.toArray] w fun e w' => ∃ vI vD vA, e = .returned (.agg #[vI, vD, vA, .int .i64 Q.now]) ∧ ownQ w' w.heap.size Q vI vD vA ∧ Below w.heap.size w w' := by
  obtain ⟨cI, cD, cA, rfl, hI, hD, hA⟩ := hx
  have l1 := hq.1.1
  have l2 := hq.2.1.1
  have l3 := hq.2.2.1.1
  obtain ⟨aI, pI, rfl, -, -⟩ := hI.itS
  obtain ⟨aD, pD, rfl, -, -⟩ := hD.itS
  obtain ⟨aA, pA, rfl, -, -⟩ := hA.stS
  have HI := hide hI
  have HD := hide hD
  have HA := hide hA
  have L1 := hide l1
  have L2 := hide l2
  have L3 := hide l3
  clear hI hD hA hq l1 l2 l3
  obtain ⟨w0, ew0⟩ : ∃ w0, w0 = ((w.alloc (.cells #[.slice aI Q.I.length pI, .slice aD Q.D.length pD, .slice aA Q.A.length pA, .int .i64 Q.now] 66)).alloc (.cells #[.slice none 0 0, .slice none 0 0, .slice none 0 0, .int .i64 0] 66)) := ⟨_, rfl⟩
  have BX : Hid (Below w.heap.size w w0) := by show Below _ _ _; rw [ew0]; exact ((Below.refl _ _).alloc (Nat.le_refl _) _).alloc (by simp) _
  have OX : Hid (objU w0 w.heap.size 66 [.slice aI Q.I.length pI, .slice aD Q.D.length pD, .slice aA Q.A.length pA, .int .i64 Q.now]) := by show objU _ _ _ _; rw [ew0]; exact (objU.new _ _ _).old _
  have OZ : Hid (objU w0 (w.heap.size + 1) 66 [.slice none 0 0, .slice none 0 0, .slice none 0 0, .int .i64 0]) := by show objU _ _ _ _; rw [ew0]; exact objU.new2 _ _ (by simp)
  have SZ : Hid (w.heap.size + 2 ≤ w0.heap.size) := by show _ ≤ _; rw [ew0]; simp
  have EW := hide ew0
  clear ew0
  have HEI := hide elI
  have HES := hide elS
  go_enter Try.func90, Try.ntmps90
  go_wp2_with (at_builtin; refine wpList_append_rd rfl _ _ 64 rfl 75 3 HEI.out (by decide) (w.heap.size + 2) (.slice none 0 0) [] rfl (ownR.nil _ _ _ _) _ _ rfl (EW.out ▸ HI.out.below BX.out) (rowsI _) (oneI _) (by have := L1.out; simp; omega) (EW.out ▸ SZ.out) ?_)
  intro v1 w1 ho1 hg1 ha1
  replace hg1 : w0.grownBy w1 none := by rw [EW.out]; exact hg1
  replace ha1 : v1.ownBlock = none ∨ v1.ownBlock = some w0.heap.size := ha1.imp (fun h => h) (fun h => by rw [EW.out]; first | exact h | (simp; exact h) | simpa using h)
  have hb := grown_below hg1
  have OX1 := hide (OX.out.below hb)
  have OZ1 := hide (OZ.out.below hb)
  have B1 : Hid (Below w.heap.size w w1) := BX.out.trans (hb.mono BX.out.size)
  have HO1 : Hid (ownR w1 (w.heap.size + 2) 75 3 v1 (Q.I.map encI)) := ho1
  obtain ⟨b1, c1, rfl⟩ := HO1.out.itS
  have x0 := OX1.out.cell 0 _ rfl
  have x1 := OX1.out.cell 1 _ rfl
  have f0 := OX1.out.fz 0
  have Z1 : Hid (w.heap.size + 2 ≤ w1.heap.size) := Nat.le_trans SZ.out hb.size
  have V1 : Hid (∀ g ∈ blkOf (.slice b1 Q.I.length c1), w.heap.size + 2 ≤ g ∧ g < w1.heap.size) := HO1.out.lt
  clear ho1 hg1 ha1 hb OX OZ BX SZ
  obtain ⟨y1, ey1⟩ : ∃ y1, y1 = w1.setCell ⟨w.heap.size, 0, none⟩ (.slice b1 Q.I.length c1) := ⟨_, rfl⟩
  have O1 : Hid (OutS [w.heap.size] w1 y1) := by show OutS _ _ _; rw [ey1]; exact OutS.setCell (OutS.refl _ _) (by simp) _
  have OX2 : Hid (objU y1 w.heap.size 66 [(.slice b1 Q.I.length c1), .slice aD Q.D.length pD, .slice aA Q.A.length pA, .int .i64 Q.now]) := by show objU _ _ _ _; rw [ey1]; exact OX1.out.set 0 (.slice b1 Q.I.length c1)
  have OZ2 : Hid (objU y1 (w.heap.size + 1) 66 [.slice none 0 0, .slice none 0 0, .slice none 0 0, .int .i64 0]) := OZ1.out.outS O1.out (by simp)
  have B2 : Hid (Below w.heap.size w y1) := B1.out.trans (O1.out.below (by simp) B1.out.size)
  have HO2 : Hid (ownR y1 (w.heap.size + 2) 75 3 (.slice b1 Q.I.length c1) (Q.I.map encI)) := HO1.out.frame (fun g hg => O1.out.block g (V1.out g hg).2 (by have := V1.out g hg; simp; omega))
  have Z2 : Hid (w.heap.size + 2 ≤ y1.heap.size) := Nat.le_trans Z1.out O1.out.size
  have EY := hide ey1
  clear ey1 OX1 OZ1 B1 HO1 Z1 V1
  go_wp2_with (at_builtin; refine wpList_append_rd rfl _ _ 64 rfl 75 3 HEI.out (by decide) (w.heap.size + 2) (.slice none 0 0) [] rfl (ownR.nil _ _ _ _) _ _ rfl (EY.out ▸ HD.out.below B2.out) (rowsI _) (oneI _) (by have := L2.out; simp; omega) (EY.out ▸ Z2.out) ?_)
  intro v2 w2 ho2 hg2 ha2
  replace hg2 : y1.grownBy w2 none := by rw [EY.out]; exact hg2
  replace ha2 : v2.ownBlock = none ∨ v2.ownBlock = some y1.heap.size := ha2.imp (fun h => h) (fun h => by rw [EY.out]; first | exact h | (simp; exact h) | simpa using h)
  have hb := grown_below hg2
  have OX3 := hide (OX2.out.below hb)
  have OZ3 := hide (OZ2.out.below hb)
  have B3 : Hid (Below w.heap.size w w2) := B2.out.trans (hb.mono B2.out.size)
  have HO3 : Hid (ownR w2 (w.heap.size + 2) 75 3 (.slice b1 Q.I.length c1) (Q.I.map encI)) := HO2.out.below hb
  have HP3 : Hid (ownR w2 (w.heap.size + 2) 75 3 v2 (Q.D.map encI)) := ho2
  obtain ⟨b2, c2, rfl⟩ := HP3.out.itS
  have N12 : Hid (∀ g ∈ blkOf (.slice b1 Q.I.length c1), g ∉ blkOf (.slice b2 Q.D.length c2)) := fun g hg hg2 => by
    have h1 := (HO2.out.lt g hg).2
    rw [blk_own] at hg2
    rcases ha2 with e | e
    · rw [e] at hg2; cases hg2
    · rw [e] at hg2; cases hg2; omega
  clear x0 x1 f0
  have x1 := OX3.out.cell 1 _ rfl
  have x2 := OX3.out.cell 2 _ rfl
  have f0 := OX3.out.fz 1
  have Z3 : Hid (w.heap.size + 2 ≤ w2.heap.size) := Nat.le_trans Z2.out hb.size
  have V3 : Hid (∀ g, g ∈ blkOf (.slice b1 Q.I.length c1) ∨ g ∈ blkOf (.slice b2 Q.D.length c2) → w.heap.size + 2 ≤ g ∧ g < w2.heap.size) := fun g hg => hg.elim (HO3.out.lt g) (HP3.out.lt g)
  clear ho2 hg2 ha2 hb OX2 OZ2 B2 Z2 HO2 EY O1
  obtain ⟨y2, ey2⟩ : ∃ y2, y2 = w2.setCell ⟨w.heap.size, 1, none⟩ (.slice b2 Q.D.length c2) := ⟨_, rfl⟩
  have O1 : Hid (OutS [w.heap.size] w2 y2) := by show OutS _ _ _; rw [ey2]; exact OutS.setCell (OutS.refl _ _) (by simp) _
  have OX4 : Hid (objU y2 w.heap.size 66 [(.slice b1 Q.I.length c1), (.slice b2 Q.D.length c2), .slice aA Q.A.length pA, .int .i64 Q.now]) := by show objU _ _ _ _; rw [ey2]; exact OX3.out.set 1 (.slice b2 Q.D.length c2)
  have OZ4 : Hid (objU y2 (w.heap.size + 1) 66 [.slice none 0 0, .slice none 0 0, .slice none 0 0, .int .i64 0]) := OZ3.out.outS O1.out (by simp)
  have B4 : Hid (Below w.heap.size w y2) := B3.out.trans (O1.out.below (by simp) B3.out.size)
  have HO4 : Hid (ownR y2 (w.heap.size + 2) 75 3 (.slice b1 Q.I.length c1) (Q.I.map encI)) := HO3.out.frame (fun g hg => O1.out.block g (V3.out g (.inl hg)).2 (by have := V3.out g (.inl hg); simp; omega))
  have HP4 : Hid (ownR y2 (w.heap.size + 2) 75 3 (.slice b2 Q.D.length c2) (Q.D.map encI)) := HP3.out.frame (fun g hg => O1.out.block g (V3.out g (.inr hg)).2 (by have := V3.out g (.inr hg); simp; omega))
  have Z4 : Hid (w.heap.size + 2 ≤ y2.heap.size) := Nat.le_trans Z3.out O1.out.size
  have EY := hide ey2
  clear ey2 OX3 OZ3 B3 HO3 HP3 Z3 V3
  go_wp2_with (at_builtin; refine wpList_append_rd rfl _ _ 32 rfl 9 1 HES.out (by decide) (w.heap.size + 2) (.slice none 0 0) [] rfl (ownR.nil _ _ _ _) _ _ rfl (EY.out ▸ HA.out.below B4.out) (rowsS _) (oneS _) (by have := L3.out; simp; omega) (EY.out ▸ Z4.out) ?_)
  intro v3 w3 ho3 hg3 ha3
  replace hg3 : y2.grownBy w3 none := by rw [EY.out]; exact hg3
  replace ha3 : v3.ownBlock = none ∨ v3.ownBlock = some y2.heap.size := ha3.imp (fun h => h) (fun h => by rw [EY.out]; first | exact h | (simp; exact h) | simpa using h)
  have hb := grown_below hg3
  have OX5 := hide (OX4.out.below hb)
  have OZ5 := hide (OZ4.out.below hb)
  have B5 : Hid (Below w.heap.size w w3) := B4.out.trans (hb.mono B4.out.size)
  have HO5 : Hid (ownR w3 (w.heap.size + 2) 75 3 (.slice b1 Q.I.length c1) (Q.I.map encI)) := HO4.out.below hb
  have HP5 : Hid (ownR w3 (w.heap.size + 2) 75 3 (.slice b2 Q.D.length c2) (Q.D.map encI)) := HP4.out.below hb
  have HQ5 : Hid (ownR w3 (w.heap.size + 2) 9 1 v3 (Q.A.map encS)) := ho3
  obtain ⟨b3, c3, rfl⟩ := HQ5.out.stS
  have N3 : Hid (∀ g, g ∈ blkOf (.slice b1 Q.I.length c1) ∨ g ∈ blkOf (.slice b2 Q.D.length c2) → g ∉ blkOf (.slice b3 Q.A.length c3)) := fun g hg hg2 => by
    have h1 : g < y2.heap.size := hg.elim (fun h => (HO4.out.lt g h).2) (fun h => (HP4.out.lt g h).2)
    rw [blk_own] at hg2
    rcases ha3 with e | e
    · rw [e] at hg2; cases hg2
    · rw [e] at hg2; cases hg2; omega
  clear x1 x2 f0
  have x0 := OX5.out.cell 0 _ rfl
  have x1 := OX5.out.cell 1 _ rfl
  have x2 := OX5.out.cell 2 _ rfl
  have x3 := OX5.out.cell 3 _ rfl
  have f2 := OX5.out.fz 2
  have y0 := OZ5.out.cell 0 _ rfl
  have y1' := OZ5.out.cell 1 _ rfl
  have y2' := OZ5.out.cell 2 _ rfl
  have y3 := OZ5.out.cell 3 _ rfl
  have g0 := OZ5.out.fz 0
  have g1 := OZ5.out.fz 1
  have g2 := OZ5.out.fz 2
  have g3 := OZ5.out.fz 3
  have QOQ : Hid (QO w3 (w.heap.size + 2) 75 9 Q (.slice b1 Q.I.length c1) (.slice b2 Q.D.length c2) (.slice b3 Q.A.length c3)) := ⟨HO5.out, HP5.out, HQ5.out, N12.out, fun g hg => N3.out g (.inl hg), fun g hg => N3.out g (.inr hg)⟩
  clear ho3 hg3 ha3 hb OX4 OZ4 B4 Z4 HO4 HP4 EY O1 HO5 HP5 HQ5 N3 N12
  go_wp2
  have HO : Hid (OutS [w.heap.size, w.heap.size + 1] w3 (((((w3.setCell ⟨w.heap.size, 2, none⟩ (.slice b3 Q.A.length c3)).setCell ⟨w.heap.size + 1, 0, none⟩ (.slice b1 Q.I.length c1)).setCell ⟨w.heap.size + 1, 1, none⟩ (.slice b2 Q.D.length c2)).setCell ⟨w.heap.size + 1, 2, none⟩ (.slice b3 Q.A.length c3)).setCell ⟨w.heap.size + 1, 3, none⟩ (.int .i64 Q.now))) := by
    show OutS _ _ _
    repeat (first | with_reducible exact OutS.refl _ _ | with_reducible refine OutS.setCell ?_ (show _ ∈ [w.heap.size, w.heap.size + 1] by simp) _)
  refine bodyPost_ret (v := .agg #[.slice b1 Q.I.length c1, .slice b2 Q.D.length c2, .slice b3 Q.A.length c3, .int .i64 Q.now]) ?_ rfl ⟨_, _, _, rfl, (QOQ.out.outS HO.out (fun t ht => by simp at ht; omega)).mono (by omega), B5.out.trans (HO.out.below (fun t ht => by simp at ht; omega) B5.out.size)⟩
  simp [results, Try.results90, go_sem, y0, y1', y2', y3]
end Go.Proofs.Ytpmhmcekkppbhaa
