/- Texts of one claim, joined: each in its own section, in build order. -/
import Derived.Test.YtddojjigijfgbaaJ5
import Derived.Test.YtddojjigijfgbaaJ4
import Derived.Test.YtddojjigijfgbaaJ1
import Derived.Laws.BitsLemmas
import Derived.Laws.Pointers
import Derived.Handy
import Derived.LoopN
/- Queues: the specification's Done. -/
namespace Go.Proofs.Ytddojjigijfgbaa
open Go.RowKit Go.BigFrame
set_option linter.unusedVariables false

theorem OutS.wide {T T' : List Nat} {a b : World} (h : OutS T a b) (hs : ∀ t ∈ T, t ∈ T') : OutS T' a b := ⟨h.os, h.tape, h.output, h.size, fun k hk hn => h.block k hk (fun hh => hn (hs k hh))⟩
theorem QB.newA {w : World} {b base : Nat} {Q : Qu} {vI vD vA : Value} (h : QB w b base Q vI vD vA) (hb : base ≤ w.heap.size) : QB ((w.setCell ⟨b, 2, none⟩ (.slice (some ⟨w.heap.size, 0, none⟩) 0 0)).alloc (.cells #[] 9)) b base { Q with A := [] } vI vD (.slice (some ⟨w.heap.size, 0, none⟩) 0 0) := by
  have hz : (w.setCell ⟨b, 2, none⟩ (.slice (some ⟨w.heap.size, 0, none⟩) 0 0)).heap.size = w.heap.size := by simp [World.setCell]
  have hL := ownR.lit (w.setCell ⟨b, 2, none⟩ (.slice (some ⟨w.heap.size, 0, none⟩) 0 0)) base 9 1 (by rw [hz]; exact hb)
  rw [hz] at hL
  have hm : ∀ g, g ∈ blkOf (.slice (some ⟨w.heap.size, 0, none⟩) 0 0) → g = w.heap.size := fun g hg => by rw [blk_own] at hg; exact (Option.some.inj hg).symm
  have hbl := h.lt
  have hnb : b ∉ blkOf (.slice (some ⟨w.heap.size, 0, none⟩) 0 0) := fun hh => by have := hm _ hh; omega
  exact ⟨(h.o.set 2 _).old _, ⟨(h.q.i.setCell _ (fun hh => h.ni (by simpa using hh)) _).below (below_alloc _ _), (h.q.d.setCell _ (fun hh => h.nd (by simpa using hh)) _).below (below_alloc _ _), hL, h.q.id, (fun g hg hh => by have := hm g hh; have := (h.q.i.lt g hg).2; omega), (fun g hg hh => by have := hm g hh; have := (h.q.d.lt g hg).2; omega)⟩, h.ni, h.nd, hnb⟩
theorem QB.away {w w' : World} {b base : Nat} {Q : Qu} {vI vD vA : Value} {t : Nat} (h : QB w b base Q vI vD vA) (hO : OutS [t] w w') (hb : b ≠ t) (h1 : t ∉ blkOf vI) (h2 : t ∉ blkOf vD) (h3 : t ∉ blkOf vA) : QB w' b base Q vI vD vA :=
  ⟨h.o.outS hO (by simpa using hb), ⟨h.q.i.apart hO (fun g hg => by simp at hg; exact hg ▸ h1), h.q.d.apart hO (fun g hg => by simp at hg; exact hg ▸ h2), h.q.a.apart hO (fun g hg => by simp at hg; exact hg ▸ h3), h.q.id, h.q.ia, h.q.da⟩, h.ni, h.nd, h.na⟩
/-- Again without s, of its first q -/
def flt (A : List ByteArray) (s : ByteArray) (q : Nat) : List ByteArray := (A.take q).filter (fun t => decide (t ≠ s))
def midD (Q : Qu) (k : Nat) (s : ByteArray) (q : Nat) : Qu := { Q with D := dropAt Q.D k, A := flt Q.A s q }
theorem flt_le (A : List ByteArray) (s : ByteArray) (q : Nat) : (flt A s q).length ≤ q := Nat.le_trans (List.length_filter_le _ _) (by rw [List.length_take]; omega)
theorem flt_succ {A : List ByteArray} {s : ByteArray} {q : Nat} (h : q < A.length) : flt A s (q + 1) = flt A s q ++ (if A[q]'h = s then [] else [A[q]'h]) := by
  unfold flt
  rw [List.take_succ_eq_append_getElem h, List.filter_append]
  congr 1
  by_cases e : A[q]'h = s <;> simp [e]
theorem midD_eq {Q : Qu} {k : Nat} {s : ByteArray} {q : Nat} (h : q < Q.A.length) (he : Q.A[q]'h = s) : midD Q k s (q + 1) = midD Q k s q := by
  unfold midD
  rw [flt_succ h, if_pos he, List.append_nil]
theorem midD_ne {Q : Qu} {k : Nat} {s : ByteArray} {q : Nat} (h : q < Q.A.length) (he : Q.A[q]'h ≠ s) : midD Q k s (q + 1) = { midD Q k s q with A := (midD Q k s q).A ++ [Q.A[q]'h] } := by
  unfold midD
  rw [flt_succ h, if_neg he]
theorem midD_zero (Q : Qu) (k : Nat) (s : ByteArray) : midD Q k s 0 = { Q with D := dropAt Q.D k, A := [] } := by unfold midD flt; simp
theorem midD_full (Q : Qu) (k : Nat) (s : ByteArray) : midD Q k s Q.A.length = outD Q k s := by unfold midD flt outD; rw [List.take_length]
/-- what the operations of region 12 yield -/
def FE12 (w0 : World) (hs b base ba oa : Nat) (nA pA q : Nat) (K : ByteArray) (M : Qu) (vI vD vA : Value) : Nat → (Nat → Nat) → Value → World → Prop
  | 0, γ, v, w => v = .pointer (some ⟨b, 2, none⟩)
  | 9, γ, v, w => v = .pointer (some ⟨b, 2, none⟩)
  | 1, γ, v, w => v = vA
  | 2, γ, v, w => v = .pointer (some ⟨hs, 2, none⟩)
  | 3, γ, v, w => v = .slice (some ⟨ba, oa, none⟩) nA pA
  | 4, γ, v, w => v = .int .i64 q
  | 5, γ, v, w => v = .pointer (some ⟨ba, oa + q, none⟩)
  | 6, γ, v, w => v = .string K
  | 7, γ, v, w => ∃ g t, v = .slice (some ⟨g, 0, none⟩) 1 1 ∧ objU w g t (encS K) ∧ g ≠ b
  | 8, γ, v, w => ownR w base 9 1 v ((M.A ++ [K]).map encS) ∧ b ∉ blkOf v ∧ (∀ g ∈ blkOf v, g ∉ blkOf vI) ∧ (∀ g ∈ blkOf v, g ∉ blkOf vD) ∧ ∀ g ∈ blkOf v, g ∈ blkOf vA ∨ w0.heap.size ≤ g
  | 10, γ, v, w => ∃ vA', QB w b base { M with A := M.A ++ [K] } vI vD vA' ∧ ∀ g ∈ blkOf vA', g ∈ blkOf vA ∨ w0.heap.size ≤ g
  | _, _, _, _ => False
/-- what the operations of region 20 yield -/
def FG20 (w0 : World) (hs b base it : Nat) (s : ByteArray) (now : Int) (F d : Nat) (M : Qu) (vI vD vA : Value) : Nat → (Nat → Nat) → Value → World → Prop
  | 0, γ, v, w => v = .pointer (some ⟨b, 0, none⟩)
  | 14, γ, v, w => v = .pointer (some ⟨b, 0, none⟩)
  | 1, γ, v, w => v = vI
  | 2, γ, v, w => v = .string s
  | 3, γ, v, w => v = .pointer (some ⟨hs, 3, none⟩)
  | 4, γ, v, w => v = .int .i64 now
  | 5, γ, v, w => v = .pointer (some ⟨it, 2, none⟩)
  | 6, γ, v, w => v = .int .i64 F
  | 7, γ, v, w => v = .int .i64 d
  | 8, γ, v, w => v = .int .i64 (now + d)
  | 9, γ, v, w => v = .pointer (some ⟨it, 2, none⟩)
  | 10, γ, v, w => v = .int .i64 F
  | 11, γ, v, w => v = .agg #[.string s, .int .i64 (now + d), .int .i64 F]
  | 12, γ, v, w => ∃ g t, v = .slice (some ⟨g, 0, none⟩) 1 1 ∧ objU w g t (encI (s, now + d, (F : Int))) ∧ g ≠ b
  | 13, γ, v, w => ownR w base 36 3 v ((M.I ++ [(s, now + d, (F : Int))]).map encI) ∧ b ∉ blkOf v ∧ (∀ g ∈ blkOf v, g ∉ blkOf vD) ∧ (∀ g ∈ blkOf v, g ∉ blkOf vA) ∧ ∀ g ∈ blkOf v, g ∈ blkOf vI ∨ w0.heap.size ≤ g
  | 15, γ, v, w => ∃ vI', QB w b base { M with I := M.I ++ [(s, now + d, (F : Int))] } vI' vD vA ∧ ∀ g ∈ blkOf vI', g ∈ blkOf vI ∨ w0.heap.size ≤ g
  | _, _, _, _ => False
set_option maxRecDepth 20000 in
set_option maxHeartbeats 6400000 in
theorem sDone_any (Q : Qu) (s : ByteArray) (well : Bool) (xs : List Value) (w : World) (hq : okQ Q) (hs : s.size ≤ maxLen) (hx : rdQ w Q xs) :
    Calls Try.prog 44 #[.agg xs.toArray, .string s, .bool well] w fun e w' => ∃ vI vD vA, e = .returned (.tuple #[.agg #[vI, vD, vA, .int .i64 (doneQ Q s well).1.now], .bool (doneQ Q s well).2]) ∧ ownQ w' w.heap.size (doneQ Q s well).1 vI vD vA ∧ Below w.heap.size w w' := by
  have hxx := hx
  obtain ⟨cI, cD, cA, rfl, hI, hD, hA⟩ := hx
  have l1 := hq.1.1
  have l2 := hq.2.1.1
  have l3 := hq.2.2.1.1
  obtain ⟨aI, pI, rfl, -, -⟩ := hI.itS
  obtain ⟨aD, pD, rfl, -, -⟩ := hD.itS
  obtain ⟨aA, pA, rfl, -, -⟩ := hA.stS
  have HX := hide hxx
  have HK := hide hq
  have HI := hide hI
  have HD := hide hD
  have HA := hide hA
  clear hI hD hA hxx hq
  have HCP : Hid (∀ wx, Below w.heap.size w wx → Calls Try.prog 19 #[.agg #[.slice aI Q.I.length pI, .slice aD Q.D.length pD, .slice aA Q.A.length pA, .int .i64 Q.now]] wx fun e w' => ∃ vI vD vA, e = .returned (.agg #[vI, vD, vA, .int .i64 Q.now]) ∧ ownQ w' wx.heap.size Q vI vD vA ∧ Below wx.heap.size wx w') := fun wx hb => l9Copy_N Q _ wx HK.out (HX.out.below hb)
  have HOK : Hid (∀ wx, Below w.heap.size w wx → Calls Try.prog 8 #[.agg #[.slice aI Q.I.length pI, .slice aD Q.D.length pD, .slice aA Q.A.length pA, .int .i64 Q.now]] wx fun e w' => e = .returned (.bool (qOk Q)) ∧ Below wx.heap.size wx w') := fun wx hb => sQueueOk_any Q _ wx HK.out (HX.out.below hb)
  obtain ⟨w0, ew0⟩ : ∃ w0, w0 = ((w.alloc (.cells #[.slice aI Q.I.length pI, .slice aD Q.D.length pD, .slice aA Q.A.length pA, .int .i64 Q.now] 27)).alloc (.cells #[.slice none 0 0, .slice none 0 0, .slice none 0 0, .int .i64 0] 27)) := ⟨_, rfl⟩
  have BX : Hid (Below w.heap.size w w0) := by show Below _ _ _; rw [ew0]; exact ((Below.refl _ _).alloc (Nat.le_refl _) _).alloc (by simp) _
  have OX : Hid (objU w0 w.heap.size 27 [.slice aI Q.I.length pI, .slice aD Q.D.length pD, .slice aA Q.A.length pA, .int .i64 Q.now]) := by show objU _ _ _ _; rw [ew0]; exact (objU.new _ _ _).old _
  have OZ : Hid (objU w0 (w.heap.size + 1) 27 [.slice none 0 0, .slice none 0 0, .slice none 0 0, .int .i64 0]) := by show objU _ _ _ _; rw [ew0]; exact objU.new2 _ _ (by simp)
  have SZ : Hid (w0.heap.size = w.heap.size + 2) := by show _ = _; rw [ew0]; simp
  have EW := hide ew0
  clear ew0
  go_enter Try.func44, Try.ntmps44
  go_wp2_with fail
  refine (HCP.out _ (EW.out ▸ BX.out)).mono ?_
  rintro e w1 ⟨vI, vD, vA, rfl, ho, hb⟩
  replace ho : ownQ w1 (w.heap.size + 2) Q vI vD vA := by have h := ho; rw [← SZ.out, EW.out]; exact h
  replace hb : Below w0.heap.size w0 w1 := by have h := hb; rw [EW.out]; exact h
  have HO := hide ho
  have OX1 := hide (OX.out.below hb)
  have OZ1 := hide (OZ.out.below hb)
  have B1 : Hid (Below w.heap.size w w1) := BX.out.trans (hb.mono BX.out.size)
  have S1 : Hid (w.heap.size + 2 ≤ w1.heap.size) := by show _ ≤ _; rw [← SZ.out]; exact hb.size
  obtain ⟨b1, c1, rfl⟩ := ho.i.itS
  obtain ⟨b2, c2, rfl⟩ := ho.d.itS
  obtain ⟨b3, c3, rfl⟩ := ho.a.stS
  have x0 := OX1.out.cell 0 _ rfl
  have x1 := OX1.out.cell 1 _ rfl
  have x2 := OX1.out.cell 2 _ rfl
  have x3 := OX1.out.cell 3 _ rfl
  have hBl := OX1.out.lt
  clear ho hb OX OZ BX SZ EW HCP
  have HX1 : Hid (Below w.heap.size w (w1.alloc (.cells #[.slice b1 Q.I.length c1, .slice b2 Q.D.length c2, .slice b3 Q.A.length c3, .int .i64 Q.now] 27))) := B1.out.alloc B1.out.size _
  have HRn : Hid (qOk Q = false → doneQ Q s well = (Q, false)) := fun h => if_neg (fun g => by rw [h] at g; cases g)
  have HRy : Hid (qOk Q = true → doneQ Q s well = doneC Q s well) := fun a => if_pos a
  have HPO : Hid (qOk Q = true → qOkP Q) := qOk_iff.1
  have HFD : Hid (∀ wx, Below w.heap.size w wx → Calls Try.prog 21 #[.slice aD Q.D.length pD, .string s] wx fun e w' => e = .returned (.int .i64 (plcI Q.D s)) ∧ w' = wx) := fun wx hb => l9Find_any Q.D s _ wx (HD.out.below hb) (by omega)
  have HAM : Hid (∀ wx, Below w.heap.size w wx → Calls Try.prog 22 #[.slice aA Q.A.length pA, .string s] wx fun e w' => e = .returned (.bool (inA Q.A s)) ∧ w' = wx) := fun wx hb => l2AmongQ_any Q.A s _ wx (HA.out.below hb) (by omega)
  have HEI := hide elI
  have HES := hide elS
  have HCD : Hid (Q.D.length ≤ pD) := by
    obtain ⟨a', c', e, h2, -, -⟩ := HD.out
    injection e with e1 e2 e3
    rw [e3]
    rw [List.length_map] at h2
    exact h2
  generalize qOk Q = ok at *
  go_wp2_with fail
  refine (HFD.out _ HX1.out).mono ?_
  rintro e wf ⟨rfl, rfl⟩
  go_wp2_with fail
  refine (HOK.out _ HX1.out).mono ?_
  rintro e w2 ⟨rfl, hb2⟩
  have OX2 := hide ((OX1.out.old _).below hb2)
  have OZ2 := hide ((OZ1.out.old _).below hb2)
  have OB2 : Hid (objU w2 w1.heap.size 27 [.slice b1 Q.I.length c1, .slice b2 Q.D.length c2, .slice b3 Q.A.length c3, .int .i64 Q.now]) := (objU.new _ _ _).below hb2
  have B2 : Hid (Below w.heap.size w w2) := HX1.out.trans (hb2.mono HX1.out.size)
  have OU2 : Hid (OutS [w.heap.size, w.heap.size + 1] w1 w2) := (OutS.of_below (below_alloc _ _)).trans (OutS.of_below hb2)
  have hn1 : ¬ (w1.heap.size = w.heap.size + 1) := by have := S1.out; omega
  have hn2 : ¬ (w1.heap.size = w.heap.size) := by have := S1.out; omega
  have hn3 : ¬ (w.heap.size + 1 = w1.heap.size) := by have := S1.out; omega
  have hn4 : ¬ (w.heap.size = w1.heap.size) := by have := S1.out; omega
  clear hb2 x0 x1 x2 x3 hBl HX1
  have HQB : Hid (QB w2 w1.heap.size (w.heap.size + 2) Q (.slice b1 Q.I.length c1) (.slice b2 Q.D.length c2) (.slice b3 Q.A.length c3)) := ⟨OB2.out, (HO.out.outS OU2.out (fun t ht => by simp at ht; omega)), (fun h => by have := (HO.out.i.lt _ h).2; omega), (fun h => by have := (HO.out.d.lt _ h).2; omega), (fun h => by have := (HO.out.a.lt _ h).2; omega)⟩
  have hS1 := S1.out
  clear HFD HO HOK
  cases ok with
  | false =>
    have HR := hide (HRn.out (by first | rfl | trivial))
    clear HRn HRy HPO
    have u0 := HQB.out.o.cell 0 _ rfl
    have u1 := HQB.out.o.cell 1 _ rfl
    have u2 := HQB.out.o.cell 2 _ rfl
    have u3 := HQB.out.o.cell 3 _ rfl
    have z0 := OZ2.out.cell 0 _ rfl
    have z1 := OZ2.out.cell 1 _ rfl
    have z2 := OZ2.out.cell 2 _ rfl
    have z3 := OZ2.out.cell 3 _ rfl
    have g0 := OZ2.out.fz 0
    have g1 := OZ2.out.fz 1
    have g2 := OZ2.out.fz 2
    have g3 := OZ2.out.fz 3
    have HOU : Hid (OutS [w.heap.size + 1] w2 ((((w2.setCell ⟨w.heap.size + 1, 0, none⟩ (.slice b1 Q.I.length c1)).setCell ⟨w.heap.size + 1, 1, none⟩ (.slice b2 Q.D.length c2)).setCell ⟨w.heap.size + 1, 2, none⟩ (.slice b3 Q.A.length c3)).setCell ⟨w.heap.size + 1, 3, none⟩ (.int .i64 Q.now))) := by
      show OutS _ _ _
      repeat (first | with_reducible exact OutS.refl _ _ | with_reducible refine OutS.setCell ?_ (show _ ∈ [w.heap.size + 1] by simp) _)
    go_wp2
    refine bodyPost_ret (v := .tuple #[.agg #[.slice b1 Q.I.length c1, .slice b2 Q.D.length c2, .slice b3 Q.A.length c3, .int .i64 Q.now], .bool false]) ?_ rfl ⟨_, _, _, by rw [HR.out], by rw [HR.out]; exact QO.mono (HQB.out.q.outS HOU.out (fun t ht => by simp at ht; omega)) (by omega), B2.out.trans (HOU.out.below (fun t ht => by simp at ht; omega) B2.out.size)⟩
    simp [results, Try.results44, go_sem, z0, z1, z2, z3]
  | true =>
    have HRR := hide (HRy.out (by first | rfl | trivial))
    have hp := HPO.out (by first | rfl | trivial)
    clear HRn HRy HPO
    by_cases hD : fndI Q.D s < Q.D.length
    · have hpl : plcI Q.D s = (fndI Q.D s : Int) := if_pos hD
      rw [hpl]
      obtain ⟨p1, p2, p3, p4, -, -, -, -⟩ := hp
      have hfl := (p4 _ (List.mem_append_right _ (List.getElem_mem hD))).2.2
      obtain ⟨F, hF⟩ : ∃ F : Nat, min ((Q.D[fndI Q.D s]'hD).2.2 + 1) 1000 = (F : Int) := ⟨(min ((Q.D[fndI Q.D s]'hD).2.2 + 1) 1000).toNat, by omega⟩
      have HDC := hide (HRR.out.trans (doneC_at well hD hF))
      have HFF := hide hF
      have HFL := hide hfl
      have HNW := hide p3
      have H60 := hide p1
      clear hpl p4 HRR hF hfl p1 p2 p3
      generalize fndI Q.D s = k at *
      have hk0 : (0 : Int) ≤ (k : Int) := Int.natCast_nonneg _
      have hki : (k : Int) < (Q.D.length : Int) := by omega
      obtain ⟨bq, oq, rfl, hbq, c0, c1', c2'⟩ := (HD.out.below B2.out).itAt hD
      generalize Q.D[k]'hD = y at *
      have OI4 : Hid (objU (w2.alloc (.cells #[.string y.1, .int .i64 y.2.1, .int .i64 y.2.2] 36)) w2.heap.size 36 [.string y.1, .int .i64 y.2.1, .int .i64 y.2.2]) := objU.new _ _ _
      have OX4 := hide (OX2.out.old (.cells #[.string y.1, .int .i64 y.2.1, .int .i64 y.2.2] 36))
      have OZ4 := hide (OZ2.out.old (.cells #[.string y.1, .int .i64 y.2.1, .int .i64 y.2.2] 36))
      have HQ4 := hide (HQB.out.below (below_alloc w2 (.cells #[.string y.1, .int .i64 y.2.1, .int .i64 y.2.2] 36)))
      have OB4 := hide HQ4.out.o
      have B4 : Hid (Below w.heap.size w (w2.alloc (.cells #[.string y.1, .int .i64 y.2.1, .int .i64 y.2.2] 36))) := B2.out.alloc B2.out.size _
      have hi4 : Hid (w1.heap.size < w2.heap.size) := OB2.out.lt
      have hS4 : Hid (w2.heap.size < (w2.alloc (.cells #[.string y.1, .int .i64 y.2.1, .int .i64 y.2.2] 36)).heap.size) := by show _ < _; simp
      have HNII : Hid (w2.heap.size ∉ blkOf (.slice b1 Q.I.length c1)) := fun hh => by have := (HQB.out.q.i.lt _ hh).2; omega
      have x0 := OX2.out.cell 0 _ rfl
      have x1 := OX2.out.cell 1 _ rfl
      have x3 := OX2.out.cell 3 _ rfl
      have hBl3 := OX2.out.lt
      clear OX2 OZ2 HQB OB2 B2 OU2
      go_wp2
      generalize w2.alloc (.cells #[.string y.1, .int .i64 y.2.1, .int .i64 y.2.2] 36) = w4 at *
      clear c0 c1' c2' x0 x1 x3
      have hkc : k ≤ pD := by have := HCD.out; omega
      have hnc : Q.D.length ≤ pD := HCD.out
      have hw : IntKind.i64.wrap ((k : Int) + 1) = (k : Int) + 1 := uwrap64 _ (by omega) (by omega)
      have hk1p : (0 : Int) ≤ (k : Int) + 1 := by omega
      have hk1q : ¬ ((Q.D.length : Int) < (k : Int) + 1) := by omega
      obtain ⟨A, hA⟩ : ∃ A : Option Addr, A = if pD = k + 1 then some ⟨bq, oq, none⟩ else some ⟨bq, oq + (k + 1) * 3, none⟩ := ⟨_, rfl⟩
      have HAA := hide hA
      clear hA
      refine wp_region_inv2 (fun i => if i = 11 then Below w4.heap.size else if i = 13 then OutS [w1.heap.size] else fun u v => Below u.heap.size u v) (fun i => if i = 0 then some 11 else if i = 5 then some 11 else none) 13 (by decide)
        (fun c wn => (c = false → Below w4.heap.size w4 wn) ∧ w4.heap.size ≤ wn.heap.size) (FC w4 w4.heap.size w.heap.size 1 w1.heap.size Q.D k (some ⟨bq, oq, none⟩) pD A (fun u => [.slice b1 Q.I.length c1, u, .slice b3 Q.A.length c3, .int .i64 Q.now])) (by kernel_rfl) (by kernel_rfl) (by kernel_rfl) ?hF6 ?hU6 ?hG6 ?hstep6 ?hend6
      case hF6 =>
        intro i j γ γ' v wa wb hij hsp hnd hsd h hfr
        have ho := hfr.out
        match j, h with
        | 0, ⟨g2, h1, h2⟩ =>
          rw [if_neg (fun e => hsp (by simp [e]))] at ho
          by_cases e : i = 13
          · rw [if_pos e] at ho
            subst e
            cases ((hsd 11 rfl).symm.trans (by kernel_rfl) : false = true)
          · rw [if_neg e] at ho
            exact ⟨g2, h1, h2.below ho⟩
        | 1, h => exact h
        | 2, h => exact h
        | 3, h => exact h
        | 4, h => exact h
        | 5, h =>
          rw [if_neg (fun e => hsp (by simp [e]))] at ho
          by_cases e : i = 13
          · rw [if_pos e] at ho
            subst e
            cases ((hsd 11 rfl).symm.trans (by kernel_rfl) : false = true)
          · rw [if_neg e] at ho
            exact h.below ho
        | 6, h => exact h
        | 7, h => exact h
        | 8, h => exact h
        | 9, h => exact h
        | 10, h => exact h
        | 11, h =>
          rw [if_neg hij] at ho
          by_cases e : i = 13
          · rw [if_pos e] at ho
            exact h.frame (fun x hx => ho.block x (h.lt x hx).2 (fun hh => by simp at hh; have := (h.lt x hx).1; have := OB4.out.lt; omega))
          · rw [if_neg e] at ho
            exact h.below ho
        | 12, h => exact h
        | 13, ⟨u, h1, h2, h3⟩ =>
          by_cases e : i = 11
          · subst e; cases (hnd.symm.trans (by kernel_rfl) : false = true)
          · rw [if_neg e, if_neg hij] at ho
            exact ⟨u, h1.below ho, h2.below ho, h3.trans (OutS.of_below ho)⟩
        | j + 14, h => exact h.elim
      case hU6 =>
        intro i o hi hd γ v wa h
        match i, hi with
        | 0, hi => (injection hi with hi; subst hi; cases hd)
        | 1, hi => (injection hi with hi; subst hi; cases hd)
        | 2, hi => (injection hi with hi; subst hi; cases hd)
        | 3, hi => (injection hi with hi; subst hi; cases hd)
        | 4, hi => (injection hi with hi; subst hi; cases hd)
        | 5, hi => (injection hi with hi; subst hi; cases hd)
        | 6, hi => (injection hi with hi; subst hi; cases hd)
        | 7, hi => (injection hi with hi; subst hi; cases hd)
        | 8, hi => (injection hi with hi; subst hi; cases hd)
        | 9, hi => (injection hi with hi; subst hi; cases hd)
        | 10, hi => (injection hi with hi; subst hi; cases hd)
        | 11, hi => (injection hi with hi; subst hi; cases hd)
        | 12, hi => (injection hi with hi; subst hi; cases hd)
        | 13, hi => exact h
        | i + 14, hi => cases hi
      case hG6 => exact ⟨fun _ => Below.drew (Below.refl _ _), Nat.le_refl _⟩
      case hstep6 =>
        intro i o hi
        match i, hi with
        | 0, hi =>
          injection hi with hi; subst hi
          intro c a wn γ hc0 hc1 hG hK hD K hk
          have hc := hc0 (.inl (by kernel_rfl))
          subst hc
          have hB := hG.1 rfl
          refine wp_val (.slice (some ⟨wn.heap.size, 0, none⟩) 0 0) ?_ (hk _ _ γ (by rw [if_neg (by decide)]; exact ⟨fun _ => hB.alloc hG.2 _, by simp; have := hG.2; omega⟩) ⟨below_alloc _ _, fun _ _ => rfl⟩ ⟨_, rfl, ownR.lit wn _ 36 3 hG.2⟩)
          simp [execOp, Act.eval, go_sem]
        | 1, hi =>
          injection hi with hi; subst hi
          intro c a wn γ hc0 hc1 hG hK hD K hk
          have e1 := hK.at 3 (by kernel_rfl)
          refine wp_pure (.pointer (some ⟨w.heap.size, 1, none⟩)) ?_ (hk _ _ γ (by rw [if_neg (by decide)]; exact hG) (Fr.same (Below.refl _ _)) rfl)
          simp [execOp, Act.eval, e1, go_sem]
        | 2, hi =>
          injection hi with hi; subst hi
          intro c a wn γ hc0 hc1 hG hK hD K hk
          have d0 := hD 0 (by decide) (by kernel_rfl) (.inl rfl)
          change a.tmps.getD 32 undef = .pointer (some ⟨w.heap.size, 1, none⟩) at d0
          have hc := hc0 (.inl (by kernel_rfl))
          subst hc
          have hB := hG.1 rfl
          have x0 := (objU.below OX4.out hB).cell 1 _ rfl
          refine wp_pure _ ?_ (hk _ _ γ (by rw [if_neg (by decide)]; exact hG) (Fr.same (Below.refl _ _)) rfl)
          simp [execOp, Act.eval, d0, x0, go_sem]
        | 3, hi =>
          injection hi with hi; subst hi
          intro c a wn γ hc0 hc1 hG hK hD K hk
          have e1 := hK.at 9 (by kernel_rfl)
          refine wp_pure (.int .i64 k) ?_ (hk _ _ γ (by rw [if_neg (by decide)]; exact hG) (Fr.same (Below.refl _ _)) rfl)
          simp [execOp, Act.eval, e1, go_sem]
        | 4, hi =>
          injection hi with hi; subst hi
          intro c a wn γ hc0 hc1 hG hK hD K hk
          have d0 := hD 0 (by decide) (by kernel_rfl) (.inl rfl)
          change a.tmps.getD 33 undef = .slice (some ⟨bq, oq, none⟩) Q.D.length pD at d0
          have d1 := hD 1 (by decide) (by kernel_rfl) (.inl rfl)
          change a.tmps.getD 34 undef = .int .i64 k at d1
          rw [Array.getD_eq_getD_getElem?] at d0 d1
          refine wp_pure (.slice (some ⟨bq, oq, none⟩) k pD) ?_ (hk _ _ γ (by rw [if_neg (by decide)]; exact hG) (Fr.same (Below.refl _ _)) rfl)
          simp [execOp, Act.eval, d0, d1, hkc, hk0, go_sem]
        | 5, hi =>
          injection hi with hi; subst hi
          intro c a wn γ hc0 hc1 hG hK hD K hk
          have d0 := hD 0 (by decide) (by kernel_rfl) (.inr (.inr ⟨11, rfl, by kernel_rfl⟩))
          change ∃ g, a.tmps.getD 31 undef = .slice (some ⟨g, 0, none⟩) 0 0 ∧ ownR wn w4.heap.size 36 3 (a.tmps.getD 31 undef) [] at d0
          have d1 := hD 1 (by decide) (by kernel_rfl) (.inl rfl)
          change a.tmps.getD 35 undef = .slice (some ⟨bq, oq, none⟩) k pD at d1
          have hc := hc0 (.inl (by kernel_rfl))
          subst hc
          have hB := hG.1 rfl
          obtain ⟨g2, g1, g3⟩ := d0
          rw [g1] at g3
          have hrd := rdR.take (HD.out.below (B4.out.trans (hB.mono B4.out.size))) (i := k) (by rw [List.length_map]; omega)
          rw [← List.map_take] at hrd
          obtain ⟨v', w', r1, r2, r3, r4⟩ := run_append_rd0 HEI.out (by decide) 24 w4.heap.size g2 g3 _ _ hrd (rowsI _) (oneI _) (by rw [List.length_map, List.length_take]; omega) hG.2
          refine wp_val v' ?_ (hk _ _ γ (by rw [if_neg (by decide)]; exact ⟨fun _ => hB.trans (r3.mono hG.2), by have := r3.size; have := hG.2; omega⟩) ⟨r3, fun _ _ => rfl⟩ r2)
          exact append_run (.tmp 31) (.tmp 35) 24 rfl g1 d1 r1
        | 6, hi =>
          injection hi with hi; subst hi
          intro c a wn γ hc0 hc1 hG hK hD K hk
          have e1 := hK.at 3 (by kernel_rfl)
          refine wp_pure (.pointer (some ⟨w.heap.size, 1, none⟩)) ?_ (hk _ _ γ (by rw [if_neg (by decide)]; exact hG) (Fr.same (Below.refl _ _)) rfl)
          simp [execOp, Act.eval, e1, go_sem]
        | 7, hi =>
          injection hi with hi; subst hi
          intro c a wn γ hc0 hc1 hG hK hD K hk
          have d0 := hD 0 (by decide) (by kernel_rfl) (.inl rfl)
          change a.tmps.getD 37 undef = .pointer (some ⟨w.heap.size, 1, none⟩) at d0
          have hc := hc0 (.inl (by kernel_rfl))
          subst hc
          have hB := hG.1 rfl
          have x0 := (objU.below OX4.out hB).cell 1 _ rfl
          refine wp_pure _ ?_ (hk _ _ γ (by rw [if_neg (by decide)]; exact hG) (Fr.same (Below.refl _ _)) rfl)
          simp [execOp, Act.eval, d0, x0, go_sem]
        | 8, hi =>
          injection hi with hi; subst hi
          intro c a wn γ hc0 hc1 hG hK hD K hk
          have e1 := hK.at 9 (by kernel_rfl)
          refine wp_pure (.int .i64 k) ?_ (hk _ _ γ (by rw [if_neg (by decide)]; exact hG) (Fr.same (Below.refl _ _)) rfl)
          simp [execOp, Act.eval, e1, go_sem]
        | 9, hi =>
          injection hi with hi; subst hi
          intro c a wn γ hc0 hc1 hG hK hD K hk
          have d0 := hD 0 (by decide) (by kernel_rfl) (.inl rfl)
          change a.tmps.getD 39 undef = .int .i64 k at d0
          refine wp_pure (.int .i64 ((k + 1 : Nat) : Int)) ?_ (hk _ _ γ (by rw [if_neg (by decide)]; exact hG) (Fr.same (Below.refl _ _)) rfl)
          simp [execOp, Act.eval, d0, hw, go_sem]
        | 10, hi =>
          injection hi with hi; subst hi
          intro c a wn γ hc0 hc1 hG hK hD K hk
          have d0 := hD 0 (by decide) (by kernel_rfl) (.inl rfl)
          change a.tmps.getD 38 undef = .slice (some ⟨bq, oq, none⟩) Q.D.length pD at d0
          have d1 := hD 1 (by decide) (by kernel_rfl) (.inl rfl)
          change a.tmps.getD 40 undef = .int .i64 ((k + 1 : Nat) : Int) at d1
          rw [Array.getD_eq_getD_getElem?] at d0 d1
          refine wp_pure (.slice A (Q.D.length - (k + 1)) (pD - (k + 1))) ?_ (hk _ _ γ (by rw [if_neg (by decide)]; exact hG) (Fr.same (Below.refl _ _)) rfl)
          simp [execOp, Act.eval, d0, d1, hk1p, hk1q, HAA.out, go_sem]
        | 11, hi =>
          injection hi with hi; subst hi
          intro c a wn γ hc0 hc1 hG hK hD K hk
          have d0 := hD 0 (by decide) (by kernel_rfl) (.inr (.inl rfl))
          change ownR wn w4.heap.size 36 3 (a.tmps.getD 36 undef) ((Q.D.take k).map encI) at d0
          have d1 := hD 1 (by decide) (by kernel_rfl) (.inl rfl)
          change a.tmps.getD 41 undef = .slice A (Q.D.length - (k + 1)) (pD - (k + 1)) at d1
          have hc := hc0 (.inl (by kernel_rfl))
          subst hc
          have hB := hG.1 rfl
          have hrd := rdR.drop (HD.out.below (B4.out.trans (hB.mono B4.out.size))) (i := k + 1) (by rw [List.length_map]; omega) HAA.out
          rw [← List.map_drop, List.length_map] at hrd
          obtain ⟨v', w', r1, r2, r3, r4⟩ := run_append_rd HEI.out (by decide) 24 w4.heap.size _ _ d0 _ _ hrd (rowsI _) (oneI _) (by rw [List.length_map, List.length_map, List.length_take, List.length_drop]; omega) hG.2
          rw [← List.map_append] at r2
          have rb : Below w4.heap.size wn w' := Below.grown (Below.refl _ _) r3 hG.2 (fun z hz => (d0.lt z (blk_own.2 hz)).1)
          refine wp_val v' ?_ (hk _ _ γ (by rw [if_neg (by decide)]; exact ⟨fun _ => hB.trans rb, by have := rb.size; have := hG.2; omega⟩) ⟨rb, fun _ _ => rfl⟩ r2)
          exact append_run (.tmp 36) (.tmp 41) 24 rfl rfl d1 r1
        | 12, hi =>
          injection hi with hi; subst hi
          intro c a wn γ hc0 hc1 hG hK hD K hk
          have e1 := hK.at 8 (by kernel_rfl)
          refine wp_pure (.pointer (some ⟨w1.heap.size, 1, none⟩)) ?_ (hk _ _ γ (by rw [if_neg (by decide)]; exact hG) (Fr.same (Below.refl _ _)) rfl)
          simp [execOp, Act.eval, e1, go_sem]
        | 13, hi =>
          injection hi with hi; subst hi
          intro c a wn γ hc0 hc1 hG hK hD K hk
          have d0 := hD 0 (by decide) (by kernel_rfl) (.inl rfl)
          change a.tmps.getD 43 undef = .pointer (some ⟨w1.heap.size, 1, none⟩) at d0
          have d1 := hD 1 (by decide) (by kernel_rfl) (.inl rfl)
          change ownR wn w4.heap.size 36 3 (a.tmps.getD 42 undef) ((dropAt Q.D k).map encI) at d1
          have hc := hc0 (.inr rfl)
          subst hc
          have hB := hG.1 rfl
          obtain ⟨a3, n3, p3, e3⟩ : ∃ aa nn pp, a.tmps.getD 42 undef = .slice aa nn pp := by obtain ⟨aa, pp, e⟩ := d1.itS; exact ⟨_, _, _, e⟩
          have h1c : (a.tmps.getD 42 undef).oneCell' = true := by rw [e3]; rfl
          have hu := objU.below OB4.out hB
          have hO : OutS [w1.heap.size] wn (wn.setCells w1.heap.size 1 [a.tmps.getD 42 undef]) := OutS.setCells _ _ _
          have hS := objU.setCells [a.tmps.getD 42 undef] [.slice b2 Q.D.length c2] [.slice b1 Q.I.length c1] [.slice b3 Q.A.length c3, .int .i64 Q.now] wn hu rfl
          have hlt := OB4.out.lt
          refine wp_skip ?_ (hk undef _ γ (by rw [if_pos rfl]; exact ⟨(fun e => by cases e), Nat.le_trans hG.2 hO.size⟩) ⟨hO, fun _ _ => rfl⟩ ⟨_, hS, d1.frame (fun x hx => hO.block x (d1.lt x hx).2 (fun hh => by simp at hh; have := (d1.lt x hx).1; omega)), (OutS.of_below hB).trans hO⟩)
          exact store_run 24 (.tmp 43) (.tmp 42) rfl d0 rfl [a.tmps.getD 42 undef] (cells_one h1c) (one1 h1c) (by kernel_rfl) (hu.there 1 1 (by simp))
        | i + 14, hi => cases hi
      case hend6 =>
        intro x w5 γ hG hx
        obtain ⟨u5, ho5, hv5, hO5⟩ := hx 13 (by decide) rfl
        simp only [putAll, Act.put, List.setIfInBounds_toArray, List.set_cons_zero, List.set_cons_succ, Nat.zero_add, Nat.reduceAdd]
        have hlO := OB4.out.lt
        have hi0 := hi4.out
        have HQ5 : Hid (QB w5 w1.heap.size (w.heap.size + 2) { Q with D := dropAt Q.D k } (.slice b1 Q.I.length c1) u5 (.slice b3 Q.A.length c3)) := HQ4.out.cutD ho5 hv5 hO5 (by omega)
        have OI5 := hide (OI4.out.outS hO5 (by simp; omega))
        have OX5 := hide (OX4.out.outS hO5 (by simp; omega))
        have OZ5 := hide (OZ4.out.outS hO5 (by simp; omega))
        have B5 : Hid (Below w.heap.size w w5) := B4.out.trans (hO5.below (fun t ht => by simp at ht; omega) B4.out.size)
        obtain ⟨a5, n5, p5, rfl⟩ : ∃ a n p, u5 = .slice a n p := by obtain ⟨a, p, e⟩ := hv5.itS; exact ⟨_, _, _, e⟩
        have HNDD : Hid (w2.heap.size ∉ blkOf (.slice a5 n5 p5)) := fun hh => by have := (hv5.lt _ hh).1; have := hS4.out; omega
        clear ho5 hv5 hO5 hx hG OI4 OZ4 HQ4 OB4 B4 OX4
        have HQ6 : Hid (QB ((w5.setCell ⟨w1.heap.size, 2, none⟩ (.slice (some ⟨w5.heap.size, 0, none⟩) 0 0)).alloc (.cells #[] 9)) w1.heap.size (w.heap.size + 2) (midD Q k s 0) (.slice b1 Q.I.length c1) (.slice a5 n5 p5) (.slice (some ⟨w5.heap.size, 0, none⟩) 0 0)) := by show QB _ _ _ _ _ _ _; rw [midD_zero]; exact HQ5.out.newA (by have := HQ5.out.lt; omega)
        have hO6 : OutS [w1.heap.size] w5 ((w5.setCell ⟨w1.heap.size, 2, none⟩ (.slice (some ⟨w5.heap.size, 0, none⟩) 0 0)).alloc (.cells #[] 9)) := (OutS.setCells [.slice (some ⟨w5.heap.size, 0, none⟩) 0 0] 2 w5 (b := w1.heap.size)).trans (OutS.of_below (below_alloc _ _))
        have OI6 := hide (OI5.out.outS hO6 (by simp; omega))
        have OX6 := hide (OX5.out.outS hO6 (by simp; omega))
        have OZ6 := hide (OZ5.out.outS hO6 (by simp; omega))
        have B6 : Hid (Below w.heap.size w ((w5.setCell ⟨w1.heap.size, 2, none⟩ (.slice (some ⟨w5.heap.size, 0, none⟩) 0 0)).alloc (.cells #[] 9))) := B5.out.trans (hO6.below (fun t ht => by simp at ht; omega) B5.out.size)
        have HN6 : Hid (w2.heap.size ∉ blkOf (.slice (some ⟨w5.heap.size, 0, none⟩) 0 0)) := fun hh => by
          rw [blk_own] at hh
          have h5 : w5.heap.size = w2.heap.size := Option.some.inj hh
          have : w2.heap.size < w5.heap.size := OI5.out.lt
          omega
        have y2 := HQ5.out.o.cell 2 _ rfl
        have f2 := HQ5.out.o.fz 2
        have hlB := HQ5.out.o.lt
        clear hO6
        go_wp2
        generalize ((w5.setCell ⟨w1.heap.size, 2, none⟩ (.slice (some ⟨w5.heap.size, 0, none⟩) 0 0)).alloc (.cells #[] 9)) = w6 at *
        clear HQ5 OI5 OX5 OZ5 B5 y2 f2 hlB
        go_loopw [11] (fun i wr => ∃ (q : Nat), q ≤ Q.A.length ∧ i = .int .i64 q ∧ ∃ vA', Hid (QB wr w1.heap.size (w.heap.size + 2) (midD Q k s q) (.slice b1 Q.I.length c1) (.slice a5 n5 p5) vA') ∧ Hid (w2.heap.size ∉ blkOf vA') ∧ Hid (objU wr w.heap.size 27 [.slice aI Q.I.length pI, .slice (some ⟨bq, oq, none⟩) Q.D.length pD, .slice aA Q.A.length pA, .int .i64 Q.now]) ∧ Hid (objU wr (w.heap.size + 1) 27 [.slice none 0 0, .slice none 0 0, .slice none 0 0, .int .i64 0]) ∧ Hid (objU wr w2.heap.size 36 [.string y.1, .int .i64 y.2.1, .int .i64 y.2.2]) ∧ Hid (Below w.heap.size w wr)) (fun i _ => Q.A.length - (intOf i).toNat)
        case atStart => exact ⟨0, Nat.zero_le _, rfl, _, HQ6, HN6, OX6, OZ6, OI6, B6⟩
        case round =>
          clear HQ6 HN6 OX6 OZ6 OI6 B6
          obtain ⟨q, hq, rfl, vA', HQs, HNI, OXs, OZs, OIs, Bs⟩ := hrel
          have hq0 : (0 : Int) ≤ (q : Int) := Int.natCast_nonneg _
          obtain ⟨a7, n7, p7, rfl⟩ : ∃ a n p, vA' = .slice a n p := by obtain ⟨a, p, e⟩ := HQs.out.q.a.stS; exact ⟨_, _, _, e⟩
          have x0 := OXs.out.cell 0 _ rfl
          have x2 := OXs.out.cell 2 _ rfl
          have x3 := OXs.out.cell 3 _ rfl
          by_cases hlt : q < Q.A.length
          · have hqi : (q : Int) < (Q.A.length : Int) := by omega
            have hML : (midD Q k s q).A.length ≤ q := flt_le _ _ _
            have HNX : Hid (w.heap.size ∉ w1.heap.size :: blkOf (.slice a7 n7 p7)) := fun hh => by rcases List.mem_cons.1 hh with h | h; omega; (have := (HQs.out.q.a.lt _ h).1; omega)
            have HNZ : Hid (w.heap.size + 1 ∉ w1.heap.size :: blkOf (.slice a7 n7 p7)) := fun hh => by rcases List.mem_cons.1 hh with h | h; omega; (have := (HQs.out.q.a.lt _ h).1; omega)
            have HNI9 : Hid (w2.heap.size ∉ w1.heap.size :: blkOf (.slice a7 n7 p7)) := fun hh => by rcases List.mem_cons.1 hh with h | h; (have := hi4.out; omega); exact HNI.out h
            have HTW : Hid (∀ t ∈ w1.heap.size :: blkOf (.slice a7 n7 p7), w.heap.size ≤ t) := fun t hh => by rcases List.mem_cons.1 hh with h | h; omega; (have := (HQs.out.q.a.lt _ h).1; omega)
            obtain ⟨ba, oa, rfl, hba, c0⟩ := (HA.out.below Bs.out).stAt hlt
            obtain ⟨kn, hK⟩ : ∃ kn, Q.A[q]'hlt = kn := ⟨_, rfl⟩
            have HKK := hide hK
            have he := beq_str kn s
            rw [hK] at c0
            by_cases hKs : kn = s
            · have HEQ := hide (midD_eq (k := k) hlt (hK.trans hKs))
              rw [decide_eq_true hKs] at he
              have HQ9 : Hid (QB wr w1.heap.size (w.heap.size + 2) (midD Q k s (q + 1)) (.slice b1 Q.I.length c1) (.slice a5 n5 p5) (.slice a7 n7 p7)) := by show QB _ _ _ _ _ _ _; rw [HEQ.out]; exact HQs.out
              clear hKs hK HEQ
              go_wp2
              go_roundw
              case rel => exact ⟨q + 1, by omega, by go_num, _, HQ9, HNI, OXs, OZs, OIs, Bs⟩
              case measure => simp [intOf]; omega
            · have HNE : Hid (midD Q k s (q + 1) = { midD Q k s q with A := (midD Q k s q).A ++ [kn] }) := by
                have h := midD_ne (k := k) hlt (fun e => hKs (hK.symm.trans e))
                rw [hK] at h
                exact h
              rw [decide_eq_false hKs] at he
              clear hKs hK
              go_wp2
              refine wp_region_inv2 (fun i => if i = 8 then OutS (blkOf (.slice a7 n7 p7)) else if i = 10 then OutS [w1.heap.size] else fun u v => Below u.heap.size u v) (fun i => if i = 7 then some 8 else none) 8 (by decide)
                (fun c wn => (c = false → Below wr.heap.size wr wn) ∧ OutS (w1.heap.size :: blkOf (.slice a7 n7 p7)) wr wn ∧ ∃ u, objU wn w1.heap.size 27 [.slice b1 Q.I.length c1, .slice a5 n5 p5, u, .int .i64 (midD Q k s q).now]) (FE12 wr w.heap.size w1.heap.size (w.heap.size + 2) ba oa Q.A.length pA q kn (midD Q k s q) (.slice b1 Q.I.length c1) (.slice a5 n5 p5) (.slice a7 n7 p7)) (by kernel_rfl) (by kernel_rfl) (by kernel_rfl) ?hF12 ?hU12 ?hG12 ?hstep12 ?hend12
              case hF12 =>
                intro i j γ γ' v wa wb hij hsp hnd hsd h hfr
                have ho := hfr.out
                match j, h with
                | 0, h => exact h
                | 1, h => exact h
                | 2, h => exact h
                | 3, h => exact h
                | 4, h => exact h
                | 5, h => exact h
                | 6, h => exact h
                | 7, ⟨g2, t, h1, h2, h3⟩ =>
                  rw [if_neg (fun e => hsp (by simp [e]))] at ho
                  by_cases e : i = 10
                  · rw [if_pos e] at ho
                    exact ⟨g2, t, h1, h2.outS ho (by simpa using h3), h3⟩
                  · rw [if_neg e] at ho
                    exact ⟨g2, t, h1, h2.below ho, h3⟩
                | 8, ⟨h1, h2⟩ =>
                  rw [if_neg hij] at ho
                  by_cases e : i = 10
                  · rw [if_pos e] at ho
                    exact ⟨h1.frame (fun z hz => ho.block z (h1.lt z hz).2 (fun hh => h2.1 (by simp at hh; exact hh ▸ hz))), h2⟩
                  · rw [if_neg e] at ho
                    exact ⟨h1.below ho, h2⟩
                | 9, h => exact h
                | 10, ⟨v', h⟩ =>
                  by_cases e : i = 8
                  · subst e; cases (hnd.symm.trans (by kernel_rfl) : false = true)
                  · rw [if_neg e, if_neg hij] at ho
                    exact ⟨v', h.1.below ho, h.2⟩
                | j + 11, h => exact h.elim
              case hU12 =>
                intro i o hi hd γ v wa h
                match i, hi with
                | 0, hi => (injection hi with hi; subst hi; cases hd)
                | 1, hi => (injection hi with hi; subst hi; cases hd)
                | 2, hi => (injection hi with hi; subst hi; cases hd)
                | 3, hi => (injection hi with hi; subst hi; cases hd)
                | 4, hi => (injection hi with hi; subst hi; cases hd)
                | 5, hi => (injection hi with hi; subst hi; cases hd)
                | 6, hi => (injection hi with hi; subst hi; cases hd)
                | 7, hi => (injection hi with hi; subst hi; cases hd)
                | 8, hi => (injection hi with hi; subst hi; cases hd)
                | 9, hi => (injection hi with hi; subst hi; cases hd)
                | 10, hi => exact h
                | i + 11, hi => cases hi
              case hG12 => exact ⟨fun _ => Below.drew (Below.refl _ _), OutS.of_below (Below.drew (Below.refl _ _)), _, objU.dr9 HQs.out.o⟩
              case hstep12 =>
                intro i o hi
                match i, hi with
                | 0, hi =>
                  injection hi with hi; subst hi
                  intro c a wn γ hc0 hc1 hG hK hD K hk
                  have e1 := hK.at 8 (by kernel_rfl)
                  refine wp_pure (.pointer (some ⟨w1.heap.size, 2, none⟩)) ?_ (hk _ _ γ hG (Fr.same (Below.refl _ _)) rfl)
                  simp [execOp, Act.eval, e1, go_sem]
                | 1, hi =>
                  injection hi with hi; subst hi
                  intro c a wn γ hc0 hc1 hG hK hD K hk
                  have d0 := hD 0 (by decide) (by kernel_rfl) (.inl rfl)
                  change a.tmps.getD 60 undef = .pointer (some ⟨w1.heap.size, 2, none⟩) at d0
                  have hB := hG.1 (hc0 (.inl (by kernel_rfl)))
                  have x0 := (HQs.out.below hB).o.cell 2 _ rfl
                  refine wp_pure (.slice a7 n7 p7) ?_ (hk _ _ γ hG (Fr.same (Below.refl _ _)) rfl)
                  simp [execOp, Act.eval, d0, x0, go_sem]
                | 2, hi =>
                  injection hi with hi; subst hi
                  intro c a wn γ hc0 hc1 hG hK hD K hk
                  have e1 := hK.at 3 (by kernel_rfl)
                  refine wp_pure (.pointer (some ⟨w.heap.size, 2, none⟩)) ?_ (hk _ _ γ hG (Fr.same (Below.refl _ _)) rfl)
                  simp [execOp, Act.eval, e1, go_sem]
                | 3, hi =>
                  injection hi with hi; subst hi
                  intro c a wn γ hc0 hc1 hG hK hD K hk
                  have d0 := hD 0 (by decide) (by kernel_rfl) (.inl rfl)
                  change a.tmps.getD 62 undef = .pointer (some ⟨w.heap.size, 2, none⟩) at d0
                  have x0 := (OXs.out.outS hG.2.1 HNX.out).cell 2 _ rfl
                  refine wp_pure (.slice (some ⟨ba, oa, none⟩) Q.A.length pA) ?_ (hk _ _ γ hG (Fr.same (Below.refl _ _)) rfl)
                  simp [execOp, Act.eval, d0, x0, go_sem]
                | 4, hi =>
                  injection hi with hi; subst hi
                  intro c a wn γ hc0 hc1 hG hK hD K hk
                  have e1 := hK.at 11 (by kernel_rfl)
                  refine wp_pure (.int .i64 q) ?_ (hk _ _ γ hG (Fr.same (Below.refl _ _)) rfl)
                  simp [execOp, Act.eval, e1, go_sem]
                | 5, hi =>
                  injection hi with hi; subst hi
                  intro c a wn γ hc0 hc1 hG hK hD K hk
                  have d0 := hD 0 (by decide) (by kernel_rfl) (.inl rfl)
                  change a.tmps.getD 63 undef = .slice (some ⟨ba, oa, none⟩) Q.A.length pA at d0
                  have d1 := hD 1 (by decide) (by kernel_rfl) (.inl rfl)
                  change a.tmps.getD 64 undef = .int .i64 q at d1
                  rw [Array.getD_eq_getD_getElem?] at d0 d1
                  refine wp_pure (.pointer (some ⟨ba, oa + q, none⟩)) ?_ (hk _ _ γ hG (Fr.same (Below.refl _ _)) rfl)
                  simp [execOp, Act.eval, d0, d1, hqi, hq0, go_sem]
                | 6, hi =>
                  injection hi with hi; subst hi
                  intro c a wn γ hc0 hc1 hG hK hD K hk
                  have d0 := hD 0 (by decide) (by kernel_rfl) (.inl rfl)
                  change a.tmps.getD 65 undef = .pointer (some ⟨ba, oa + q, none⟩) at d0
                  have hb6 : Below w.heap.size w wn := Bs.out.trans (hG.2.1.below HTW.out Bs.out.size)
                  obtain ⟨ba', oa', e6, -, c6⟩ := (HA.out.below hb6).stAt hlt
                  cases e6
                  rw [HKK.out] at c6
                  refine wp_pure (.string kn) ?_ (hk _ _ γ hG (Fr.same (Below.refl _ _)) rfl)
                  simp [execOp, Act.eval, d0, c6, go_sem]
                | 7, hi =>
                  injection hi with hi; subst hi
                  intro c a wn γ hc0 hc1 hG hK hD K hk
                  have d0 := hD 0 (by decide) (by kernel_rfl) (.inl rfl)
                  change a.tmps.getD 66 undef = .string kn at d0
                  refine wp_val (w' := wn.alloc (.cells #[.string kn] 9)) (.slice (some ⟨wn.heap.size, 0, none⟩) 1 1) ?_ (hk _ _ γ (by rw [if_neg (by decide)]; exact ⟨fun e => (hG.1 e).trans ((below_alloc _ _).mono (hG.1 e).size), hG.2.1.trans (OutS.of_below (below_alloc _ _)), by obtain ⟨u, hu⟩ := hG.2.2; exact ⟨u, hu.old _⟩⟩) ⟨below_alloc _ _, fun _ _ => rfl⟩ ⟨_, _, rfl, objU.new _ _ _, by have := hG.2.1.size; have := HQs.out.lt; omega⟩)
                  rw [Array.getD_eq_getD_getElem?] at d0
                  simp [execOp, Act.eval, d0, go_sem]
                | 8, hi =>
                  injection hi with hi; subst hi
                  intro c a wn γ hc0 hc1 hG hK hD K hk
                  have d0 := hD 0 (by decide) (by kernel_rfl) (.inl rfl)
                  change a.tmps.getD 61 undef = .slice a7 n7 p7 at d0
                  have d1 := hD 1 (by decide) (by kernel_rfl) (.inr (.inl rfl))
                  change ∃ g t, a.tmps.getD 67 undef = .slice (some ⟨g, 0, none⟩) 1 1 ∧ objU wn g t (encS kn) ∧ g ≠ w1.heap.size at d1
                  obtain ⟨g, t, g1, g2, g3⟩ := d1
                  have hc := hc0 (.inr rfl)
                  have hB := hG.1 hc
                  have hq1 := HQs.out.below hB
                  obtain ⟨v', w', r1, r2, r3, r4⟩ := run_append_rd HES.out (by decide) 25 (w.heap.size + 2) _ _ hq1.q.a _ _ (rdR.one g2) (rowsS [kn]) (oneS [kn]) (by simp; omega) (by have := hq1.lt; omega)
                  have hO := grown_outS r3
                  have hne := new_not r4 hq1.na hq1.lt
                  have hnw : ∀ z ∈ blkOf v', z ∈ blkOf (.slice a7 n7 p7) ∨ wr.heap.size ≤ z := fun z hz => by
                    rw [blk_own] at hz
                    rcases r4 with e | e
                    · rw [e] at hz; exact .inl (blk_own.2 hz)
                    · rw [e] at hz; cases hz; exact .inr hB.size
                  refine wp_val v' ?_ (hk _ _ γ (by rw [if_pos rfl]; exact ⟨(fun e => by cases e), hG.2.1.trans (hO.wide (fun z hz => List.mem_cons_of_mem _ hz)), _, hq1.o.outS hO hq1.na⟩) ⟨hO, fun _ _ => rfl⟩ ⟨by rw [List.map_append]; exact r2, hne, new_apart r4 hq1.q.i (fun z hz hh => hq1.q.ia z hh hz), new_apart r4 hq1.q.d (fun z hz hh => hq1.q.da z hh hz), hnw⟩)
                  exact append_run (.tmp 61) (.tmp 67) 25 rfl d0 g1 r1
                | 9, hi =>
                  injection hi with hi; subst hi
                  intro c a wn γ hc0 hc1 hG hK hD K hk
                  have e1 := hK.at 8 (by kernel_rfl)
                  refine wp_pure (.pointer (some ⟨w1.heap.size, 2, none⟩)) ?_ (hk _ _ γ hG (Fr.same (Below.refl _ _)) rfl)
                  simp [execOp, Act.eval, e1, go_sem]
                | 10, hi =>
                  injection hi with hi; subst hi
                  intro c a wn γ hc0 hc1 hG hK hD K hk
                  have d0 := hD 0 (by decide) (by kernel_rfl) (.inl rfl)
                  change a.tmps.getD 69 undef = .pointer (some ⟨w1.heap.size, 2, none⟩) at d0
                  have d1 := hD 1 (by decide) (by kernel_rfl) (.inl rfl)
                  change ownR wn (w.heap.size + 2) 9 1 (a.tmps.getD 68 undef) (((midD Q k s q).A ++ [kn]).map encS) ∧ w1.heap.size ∉ blkOf (a.tmps.getD 68 undef) ∧ (∀ g ∈ blkOf (a.tmps.getD 68 undef), g ∉ blkOf (.slice b1 Q.I.length c1)) ∧ (∀ g ∈ blkOf (a.tmps.getD 68 undef), g ∉ blkOf (.slice a5 n5 p5)) ∧ ∀ g ∈ blkOf (a.tmps.getD 68 undef), g ∈ blkOf (.slice a7 n7 p7) ∨ wr.heap.size ≤ g at d1
                  obtain ⟨k1, k2, k3, k4, k5⟩ := d1
                  have hc := hc1 (by kernel_rfl)
                  obtain ⟨-, hOG, u, hu⟩ := hG
                  obtain ⟨a3, p3, e3⟩ := k1.stS
                  have h1c : (a.tmps.getD 68 undef).oneCell' = true := by rw [e3]; rfl
                  have hO : OutS [w1.heap.size] wn (wn.setCells w1.heap.size 2 [a.tmps.getD 68 undef]) := OutS.setCells _ _ _
                  have hS := objU.setCells [a.tmps.getD 68 undef] [u] [.slice b1 Q.I.length c1, .slice a5 n5 p5] [.int .i64 (midD Q k s q).now] wn hu rfl
                  have hfr : ∀ (v : Value) (e : TypeId) (k : Nat) (R : List (List Value)), ownR wr (w.heap.size + 2) e k v R → w1.heap.size ∉ blkOf v → (∀ g ∈ blkOf (.slice a7 n7 p7), g ∉ blkOf v) → ownR (wn.setCells w1.heap.size 2 [a.tmps.getD 68 undef]) (w.heap.size + 2) e k v R := fun v e k R hv hn hd => (hv.apart hOG (fun g hg => by rcases List.mem_cons.1 hg with rfl | hg; exact hn; exact hd g hg)).apart hO (fun g hg hh => hn (by simp at hg; exact hg ▸ hh))
                  refine wp_skip ?_ (hk undef _ γ (by rw [if_neg (by decide)]; exact ⟨(fun e => by rw [hc] at e; cases e), hOG.trans (hO.wide (fun z hz => by simp at hz; simp [hz])), _, hS⟩) ⟨hO, fun _ _ => rfl⟩ ⟨_, ⟨hS, ⟨hfr _ _ _ _ HQs.out.q.i HQs.out.ni (fun g hg hh => HQs.out.q.ia g hh hg), hfr _ _ _ _ HQs.out.q.d HQs.out.nd (fun g hg hh => HQs.out.q.da g hh hg), k1.frame (fun g hg => hO.block g (k1.lt g hg).2 (fun hh => k2 (by simp at hh; exact hh ▸ hg))), HQs.out.q.id, (fun g hg hh => k3 g hh hg), (fun g hg hh => k4 g hh hg)⟩, HQs.out.ni, HQs.out.nd, k2⟩, k5⟩)
                  exact store_run 25 (.tmp 69) (.tmp 68) rfl d0 rfl [a.tmps.getD 68 undef] (cells_one h1c) (one1 h1c) (by kernel_rfl) (hu.there 2 1 (by simp))
                | i + 11, hi => cases hi
              case hend12 =>
                intro x w9 γ hG hx
                obtain ⟨v9, hQ9, hn9⟩ := hx 10 (by decide) rfl
                have hO9 := hG.2.1
                clear hG hx
                simp only [putAll, Act.put, List.setIfInBounds_toArray, List.set_cons_zero, List.set_cons_succ, Nat.zero_add, Nat.reduceAdd]
                have OX9 := hide (OXs.out.outS hO9 HNX.out)
                have OZ9 := hide (OZs.out.outS hO9 HNZ.out)
                have OI9 := hide (OIs.out.outS hO9 HNI9.out)
                have B9 : Hid (Below w.heap.size w w9) := Bs.out.trans (hO9.below HTW.out Bs.out.size)
                have HN9 : Hid (w2.heap.size ∉ blkOf v9) := fun hh => by rcases hn9 _ hh with h | h; exact HNI.out h; (have := OIs.out.lt; omega)
                have HQ9 : Hid (QB w9 w1.heap.size (w.heap.size + 2) (midD Q k s (q + 1)) (.slice b1 Q.I.length c1) (.slice a5 n5 p5) v9) := by show QB _ _ _ _ _ _ _; rw [HNE.out]; exact hQ9
                clear hQ9 hn9 hO9
                go_wp2
                go_roundw
                case rel => exact ⟨q + 1, by omega, by go_num, _, HQ9, HN9, OX9, OZ9, OI9, B9⟩
                case measure => simp [intOf]; omega
          · have e : q = Q.A.length := by omega
            subst e
            have HQR : Hid (QB wr w1.heap.size (w.heap.size + 2) (outD Q k s) (.slice b1 Q.I.length c1) (.slice a5 n5 p5) (.slice a7 n7 p7)) := by show QB _ _ _ _ _ _ _; rw [← midD_full]; exact HQs.out
            have HAMr := hide (HAM.out wr Bs.out)
            have hIR : (outD Q k s).I = Q.I := rfl
            have hNR : (outD Q k s).now = Q.now := rfl
            have HIR := hide hIR
            have HNR := hide hNR
            clear hIR hNR HQs HAM
            generalize outD Q k s = R at *
            generalize inA Q.A s = ia at *
            have hlR : R.I.length ≤ 60 := by rw [HIR.out]; exact H60.out
            by_cases h60 : Q.I.length = 60
            · have h60R : R.I.length = 60 := by rw [HIR.out]; exact h60
              have hi60 : ((Q.I.length : Int) == 60) = true := by rw [beq_iff_eq]; omega
              have HR : Hid (doneQ Q s well = (R, true)) := by
                have h := HDC.out
                unfold addQ at h
                rw [if_pos h60R, if_pos h60R] at h
                show _ = _
                rw [h]
                cases well <;> cases ia <;> rfl
              clear HDC h60
              cases well with
              | true =>
                go_wp2_with fail
                refine HAMr.out.mono ?_
                rintro e wf ⟨rfl, hwf⟩
                obtain rfl : wr = wf := hwf.symm
                clear HAMr
                cases ia with
                | true =>
                  have OBR := hide HQR.out.o
                  have z0 := OZs.out.cell 0 _ rfl
                  have z1 := OZs.out.cell 1 _ rfl
                  have z2 := OZs.out.cell 2 _ rfl
                  have z3 := OZs.out.cell 3 _ rfl
                  have g0 := OZs.out.fz 0
                  have g1 := OZs.out.fz 1
                  have g2 := OZs.out.fz 2
                  have g3 := OZs.out.fz 3
                  have u0 := OBR.out.cell 0 _ rfl
                  have u1 := OBR.out.cell 1 _ rfl
                  have u2 := OBR.out.cell 2 _ rfl
                  have u3 := OBR.out.cell 3 _ rfl
                  have HOU : Hid (OutS [w.heap.size + 1] wr ((((wr.setCell ⟨w.heap.size + 1, 0, none⟩ (.slice b1 Q.I.length c1)).setCell ⟨w.heap.size + 1, 1, none⟩ (.slice a5 n5 p5)).setCell ⟨w.heap.size + 1, 2, none⟩ (.slice a7 n7 p7)).setCell ⟨w.heap.size + 1, 3, none⟩ (.int .i64 R.now))) := by
                    show OutS _ _ _
                    repeat (first | with_reducible exact OutS.refl _ _ | with_reducible refine OutS.setCell ?_ (show _ ∈ [w.heap.size + 1] by simp) _)
                  go_wp2
                  refine bodyPost_ret (v := .tuple #[.agg #[.slice b1 Q.I.length c1, .slice a5 n5 p5, .slice a7 n7 p7, .int .i64 R.now], .bool true]) ?_ rfl ⟨_, _, _, by rw [HR.out], by rw [HR.out]; exact QO.mono (HQR.out.q.outS HOU.out (fun t ht => by simp at ht; omega)) (by omega), Bs.out.trans (HOU.out.below (fun t ht => by simp at ht; omega) Bs.out.size)⟩
                  simp [results, Try.results44, go_sem, z0, z1, z2, z3]
                | false =>
                  have OBR := hide HQR.out.o
                  have z0 := OZs.out.cell 0 _ rfl
                  have z1 := OZs.out.cell 1 _ rfl
                  have z2 := OZs.out.cell 2 _ rfl
                  have z3 := OZs.out.cell 3 _ rfl
                  have g0 := OZs.out.fz 0
                  have g1 := OZs.out.fz 1
                  have g2 := OZs.out.fz 2
                  have g3 := OZs.out.fz 3
                  have u0 := OBR.out.cell 0 _ rfl
                  have u1 := OBR.out.cell 1 _ rfl
                  have u2 := OBR.out.cell 2 _ rfl
                  have u3 := OBR.out.cell 3 _ rfl
                  have HOU : Hid (OutS [w.heap.size + 1] wr ((((wr.setCell ⟨w.heap.size + 1, 0, none⟩ (.slice b1 Q.I.length c1)).setCell ⟨w.heap.size + 1, 1, none⟩ (.slice a5 n5 p5)).setCell ⟨w.heap.size + 1, 2, none⟩ (.slice a7 n7 p7)).setCell ⟨w.heap.size + 1, 3, none⟩ (.int .i64 R.now))) := by
                    show OutS _ _ _
                    repeat (first | with_reducible exact OutS.refl _ _ | with_reducible refine OutS.setCell ?_ (show _ ∈ [w.heap.size + 1] by simp) _)
                  go_wp2
                  refine bodyPost_ret (v := .tuple #[.agg #[.slice b1 Q.I.length c1, .slice a5 n5 p5, .slice a7 n7 p7, .int .i64 R.now], .bool true]) ?_ rfl ⟨_, _, _, by rw [HR.out], by rw [HR.out]; exact QO.mono (HQR.out.q.outS HOU.out (fun t ht => by simp at ht; omega)) (by omega), Bs.out.trans (HOU.out.below (fun t ht => by simp at ht; omega) Bs.out.size)⟩
                  simp [results, Try.results44, go_sem, z0, z1, z2, z3]
              | false =>
                clear HAMr
                have OBR := hide HQR.out.o
                have z0 := OZs.out.cell 0 _ rfl
                have z1 := OZs.out.cell 1 _ rfl
                have z2 := OZs.out.cell 2 _ rfl
                have z3 := OZs.out.cell 3 _ rfl
                have g0 := OZs.out.fz 0
                have g1 := OZs.out.fz 1
                have g2 := OZs.out.fz 2
                have g3 := OZs.out.fz 3
                have u0 := OBR.out.cell 0 _ rfl
                have u1 := OBR.out.cell 1 _ rfl
                have u2 := OBR.out.cell 2 _ rfl
                have u3 := OBR.out.cell 3 _ rfl
                have HOU : Hid (OutS [w.heap.size + 1] wr ((((wr.setCell ⟨w.heap.size + 1, 0, none⟩ (.slice b1 Q.I.length c1)).setCell ⟨w.heap.size + 1, 1, none⟩ (.slice a5 n5 p5)).setCell ⟨w.heap.size + 1, 2, none⟩ (.slice a7 n7 p7)).setCell ⟨w.heap.size + 1, 3, none⟩ (.int .i64 R.now))) := by
                  show OutS _ _ _
                  repeat (first | with_reducible exact OutS.refl _ _ | with_reducible refine OutS.setCell ?_ (show _ ∈ [w.heap.size + 1] by simp) _)
                go_wp2
                refine bodyPost_ret (v := .tuple #[.agg #[.slice b1 Q.I.length c1, .slice a5 n5 p5, .slice a7 n7 p7, .int .i64 R.now], .bool true]) ?_ rfl ⟨_, _, _, by rw [HR.out], by rw [HR.out]; exact QO.mono (HQR.out.q.outS HOU.out (fun t ht => by simp at ht; omega)) (by omega), Bs.out.trans (HOU.out.below (fun t ht => by simp at ht; omega) Bs.out.size)⟩
                simp [results, Try.results44, go_sem, z0, z1, z2, z3]
            · have h60R : ¬ R.I.length = 60 := by rw [HIR.out]; exact h60
              have hi60 : ((Q.I.length : Int) == 60) = false := by rw [beq_eq_false_iff_ne]; omega
              cases well with
              | true =>
                go_wp2_with fail
                refine HAMr.out.mono ?_
                rintro e wf ⟨rfl, hwf⟩
                obtain rfl : wr = wf := hwf.symm
                clear HAMr
                cases ia with
                | false =>
                  have HR : Hid (doneQ Q s true = (R, true)) := HDC.out
                  clear HDC
                  have OBR := hide HQR.out.o
                  have z0 := OZs.out.cell 0 _ rfl
                  have z1 := OZs.out.cell 1 _ rfl
                  have z2 := OZs.out.cell 2 _ rfl
                  have z3 := OZs.out.cell 3 _ rfl
                  have g0 := OZs.out.fz 0
                  have g1 := OZs.out.fz 1
                  have g2 := OZs.out.fz 2
                  have g3 := OZs.out.fz 3
                  have u0 := OBR.out.cell 0 _ rfl
                  have u1 := OBR.out.cell 1 _ rfl
                  have u2 := OBR.out.cell 2 _ rfl
                  have u3 := OBR.out.cell 3 _ rfl
                  have HOU : Hid (OutS [w.heap.size + 1] wr ((((wr.setCell ⟨w.heap.size + 1, 0, none⟩ (.slice b1 Q.I.length c1)).setCell ⟨w.heap.size + 1, 1, none⟩ (.slice a5 n5 p5)).setCell ⟨w.heap.size + 1, 2, none⟩ (.slice a7 n7 p7)).setCell ⟨w.heap.size + 1, 3, none⟩ (.int .i64 R.now))) := by
                    show OutS _ _ _
                    repeat (first | with_reducible exact OutS.refl _ _ | with_reducible refine OutS.setCell ?_ (show _ ∈ [w.heap.size + 1] by simp) _)
                  go_wp2
                  refine bodyPost_ret (v := .tuple #[.agg #[.slice b1 Q.I.length c1, .slice a5 n5 p5, .slice a7 n7 p7, .int .i64 R.now], .bool true]) ?_ rfl ⟨_, _, _, by rw [HR.out], by rw [HR.out]; exact QO.mono (HQR.out.q.outS HOU.out (fun t ht => by simp at ht; omega)) (by omega), Bs.out.trans (HOU.out.below (fun t ht => by simp at ht; omega) Bs.out.size)⟩
                  simp [results, Try.results44, go_sem, z0, z1, z2, z3]
                | true =>
                  have HR : Hid (doneQ Q s true = ({ R with I := R.I ++ [(s, Q.now, 0)] }, true)) := by
                    have h := HDC.out
                    unfold addQ at h
                    rw [if_neg h60R] at h
                    exact h
                  clear HDC
                  have H2 : Hid (QB (wr.alloc (.cells #[.string s, .int .i64 Q.now, .int .i64 0] 36)) w1.heap.size (w.heap.size + 2) R (.slice b1 Q.I.length c1) (.slice a5 n5 p5) (.slice a7 n7 p7)) := HQR.out.below (below_alloc _ _)
                  have O2 : Hid (objU (wr.alloc (.cells #[.string s, .int .i64 Q.now, .int .i64 0] 36)) wr.heap.size 36 (encI (s, Q.now, 0))) := objU.new _ _ _
                  have OZ2' : Hid (objU (wr.alloc (.cells #[.string s, .int .i64 Q.now, .int .i64 0] 36)) (w.heap.size + 1) 27 [.slice none 0 0, .slice none 0 0, .slice none 0 0, .int .i64 0]) := OZs.out.old _
                  have y0 := HQR.out.o.cell 0 _ rfl
                  go_wp2_with (at_builtin; refine wpList_append_rd rfl _ _ 24 rfl 36 3 HEI.out (by decide) (w.heap.size + 2) _ _ rfl H2.out.q.i _ _ rfl (rdR.one O2.out) (rowsI [(s, Q.now, 0)]) (oneI [(s, Q.now, 0)]) (by simp; omega) (by have := H2.out.lt; omega) ?_)
                  intro v3 w3 ho3 hg3 ha3
                  rw [show (R.I.map encI) ++ [encI (s, Q.now, 0)] = (R.I ++ [(s, Q.now, 0)]).map encI by simp] at ho3
                  have HQ3 : Hid (QB (w3.setCell ⟨w1.heap.size, 0, none⟩ v3) w1.heap.size (w.heap.size + 2) { R with I := R.I ++ [(s, Q.now, 0)] } v3 (.slice a5 n5 p5) (.slice a7 n7 p7)) := H2.out.appI ho3 hg3 (by simpa using ha3)
                  have HB3 : Hid (Below w.heap.size w (w3.setCell ⟨w1.heap.size, 0, none⟩ v3)) := Bs.out.trans (((below_alloc _ _).mono Bs.out.size).trans ((H2.out.grown H2.out.q.i hg3 (by omega) 0).mono (by omega)))
                  have OB3 := hide (H2.out.o.outS (grown_outS hg3) H2.out.ni)
                  have OZ3 : Hid (objU w3 (w.heap.size + 1) 27 [.slice none 0 0, .slice none 0 0, .slice none 0 0, .int .i64 0]) := OZ2'.out.outS (grown_outS hg3) (fun hh => by have := H2.out.q.i.lt _ hh; omega)
                  obtain ⟨a3, n3, p3, rfl⟩ : ∃ a n p, v3 = .slice a n p := by obtain ⟨a, p, e⟩ := ho3.itS; exact ⟨_, _, _, e⟩
                  clear ho3 hg3 ha3 y0 H2 O2 OZ2'
                  have z0 := OZ3.out.cell 0 _ rfl
                  have z1 := OZ3.out.cell 1 _ rfl
                  have z2 := OZ3.out.cell 2 _ rfl
                  have z3 := OZ3.out.cell 3 _ rfl
                  have g0 := OZ3.out.fz 0
                  have g1 := OZ3.out.fz 1
                  have g2 := OZ3.out.fz 2
                  have g3 := OZ3.out.fz 3
                  have u0 := OB3.out.cell 0 _ rfl
                  have u1 := OB3.out.cell 1 _ rfl
                  have u2 := OB3.out.cell 2 _ rfl
                  have u3 := OB3.out.cell 3 _ rfl
                  have fu0 := OB3.out.fz 0
                  have HOU : Hid (OutS [w.heap.size + 1] (w3.setCell ⟨w1.heap.size, 0, none⟩ (.slice a3 n3 p3)) (((((w3.setCell ⟨w1.heap.size, 0, none⟩ (.slice a3 n3 p3)).setCell ⟨w.heap.size + 1, 0, none⟩ (.slice a3 n3 p3)).setCell ⟨w.heap.size + 1, 1, none⟩ (.slice a5 n5 p5)).setCell ⟨w.heap.size + 1, 2, none⟩ (.slice a7 n7 p7)).setCell ⟨w.heap.size + 1, 3, none⟩ (.int .i64 R.now))) := by
                    show OutS _ _ _
                    repeat (first | with_reducible exact OutS.refl _ _ | with_reducible refine OutS.setCell ?_ (show _ ∈ [w.heap.size + 1] by simp) _)
                  go_wp2
                  refine bodyPost_ret (v := .tuple #[.agg #[.slice a3 n3 p3, .slice a5 n5 p5, .slice a7 n7 p7, .int .i64 R.now], .bool true]) ?_ rfl ⟨_, _, _, by rw [HR.out], by rw [HR.out]; exact QO.mono (HQ3.out.q.outS HOU.out (fun t ht => by simp at ht; omega)) (by omega), HB3.out.trans (HOU.out.below (fun t ht => by simp at ht; omega) HB3.out.size)⟩
                  simp [results, Try.results44, go_sem, z0, z1, z2, z3]
              | false =>
                clear HAMr
                have HR : Hid (doneQ Q s false = ({ R with I := R.I ++ [(s, Q.now + (dlyN F : Nat), (F : Int))] }, true)) := by
                  have h := HDC.out
                  unfold addQ at h
                  rw [if_neg h60R, if_neg h60R] at h
                  exact h
                have hF1 : 1 ≤ F := by have := HFF.out; have := HFL.out; omega
                have hF2 : F ≤ 1000 := by have := HFF.out; omega
                have hdl : dlyN F ≤ 64 := Nat.min_le_right _ _
                have HDY := hide (fun wx => sdelay_any F wx hF1 hF2)
                have hnw := HNW.out
                have hwd : IntKind.i64.wrap (Q.now + (dlyN F : Nat)) = Q.now + (dlyN F : Nat) := uwrap64 _ (by omega) (by omega)
                generalize dlyN F = d at *
                have i2 := OIs.out.cell 2 _ rfl
                have fi2 := OIs.out.fz 2
                have HNX : Hid (w.heap.size ∉ w1.heap.size :: blkOf (.slice b1 Q.I.length c1)) := fun hh => by rcases List.mem_cons.1 hh with h | h; omega; (have := (HQR.out.q.i.lt _ h).1; omega)
                have HNZ : Hid (w.heap.size + 1 ∉ w1.heap.size :: blkOf (.slice b1 Q.I.length c1)) := fun hh => by rcases List.mem_cons.1 hh with h | h; omega; (have := (HQR.out.q.i.lt _ h).1; omega)
                have HNI9 : Hid (w2.heap.size ∉ w1.heap.size :: blkOf (.slice b1 Q.I.length c1)) := fun hh => by rcases List.mem_cons.1 hh with h | h; (have := hi4.out; omega); exact HNII.out h
                have HTW : Hid (∀ t ∈ w1.heap.size :: blkOf (.slice b1 Q.I.length c1), w.heap.size ≤ t) := fun t hh => by rcases List.mem_cons.1 hh with h | h; omega; (have := (HQR.out.q.i.lt _ h).1; omega)
                by_cases hlf : y.2.2 < 1000
                · have hFe : y.2.2 + 1 = (F : Int) := by have := HFF.out; omega
                  have hwF : IntKind.i64.wrap (y.2.2 + 1) = (F : Int) := by rw [hFe]; exact uwrap64 _ (by omega) (by omega)
                  have OI8 : Hid (objU (wr.setCell ⟨w2.heap.size, 2, none⟩ (.int .i64 F)) w2.heap.size 36 [.string y.1, .int .i64 y.2.1, .int .i64 F]) := OIs.out.set 2 _
                  have hO8 : OutS [w2.heap.size] wr (wr.setCell ⟨w2.heap.size, 2, none⟩ (.int .i64 F)) := OutS.setCells [.int .i64 F] 2 wr (b := w2.heap.size)
                  have OX8 := hide (OXs.out.outS hO8 (by simp; have := hi4.out; omega))
                  have OZ8 := hide (OZs.out.outS hO8 (by simp; have := hi4.out; omega))
                  have B8 : Hid (Below w.heap.size w (wr.setCell ⟨w2.heap.size, 2, none⟩ (.int .i64 F))) := Bs.out.trans (hO8.below (fun t ht => by simp at ht; have := hi4.out; omega) Bs.out.size)
                  have HQ8 : Hid (QB (wr.setCell ⟨w2.heap.size, 2, none⟩ (.int .i64 F)) w1.heap.size (w.heap.size + 2) R (.slice b1 Q.I.length c1) (.slice a5 n5 p5) (.slice a7 n7 p7)) := HQR.out.away hO8 (fun e => by have := hi4.out; omega) HNII.out HNDD.out HNI.out
                  clear hO8 hFe
                  go_wp2
                  generalize wr.setCell ⟨w2.heap.size, 2, none⟩ (.int .i64 F) = w8 at *
                  refine wp_region_inv2 (fun i => if i = 13 then OutS (blkOf (.slice b1 Q.I.length c1)) else if i = 15 then OutS [w1.heap.size] else fun u v => Below u.heap.size u v) (fun i => if i = 12 then some 13 else none) 13 (by decide)
                    (fun c wn => (c = false → Below w8.heap.size w8 wn) ∧ OutS (w1.heap.size :: blkOf (.slice b1 Q.I.length c1)) w8 wn ∧ ∃ u, objU wn w1.heap.size 27 [u, .slice a5 n5 p5, .slice a7 n7 p7, .int .i64 R.now]) (FG20 w8 w.heap.size w1.heap.size (w.heap.size + 2) w2.heap.size s Q.now F d R (.slice b1 Q.I.length c1) (.slice a5 n5 p5) (.slice a7 n7 p7)) (by kernel_rfl) (by kernel_rfl) (by kernel_rfl) ?hF20 ?hU20 ?hG20 ?hstep20 ?hend20
                  case hF20 =>
                    intro i j γ γ' v wa wb hij hsp hnd hsd h hfr
                    have ho := hfr.out
                    match j, h with
                    | 0, h => exact h
                    | 1, h => exact h
                    | 2, h => exact h
                    | 3, h => exact h
                    | 4, h => exact h
                    | 5, h => exact h
                    | 6, h => exact h
                    | 7, h => exact h
                    | 8, h => exact h
                    | 9, h => exact h
                    | 10, h => exact h
                    | 11, h => exact h
                    | 12, ⟨g2, t, h1, h2, h3⟩ =>
                      rw [if_neg (fun e => hsp (by simp [e]))] at ho
                      by_cases e : i = 15
                      · rw [if_pos e] at ho
                        exact ⟨g2, t, h1, h2.outS ho (by simpa using h3), h3⟩
                      · rw [if_neg e] at ho
                        exact ⟨g2, t, h1, h2.below ho, h3⟩
                    | 13, ⟨h1, h2⟩ =>
                      rw [if_neg hij] at ho
                      by_cases e : i = 15
                      · rw [if_pos e] at ho
                        exact ⟨h1.frame (fun z hz => ho.block z (h1.lt z hz).2 (fun hh => h2.1 (by simp at hh; exact hh ▸ hz))), h2⟩
                      · rw [if_neg e] at ho
                        exact ⟨h1.below ho, h2⟩
                    | 14, h => exact h
                    | 15, ⟨v', h⟩ =>
                      by_cases e : i = 13
                      · subst e; cases (hnd.symm.trans (by kernel_rfl) : false = true)
                      · rw [if_neg e, if_neg hij] at ho
                        exact ⟨v', h.1.below ho, h.2⟩
                    | j + 16, h => exact h.elim
                  case hU20 =>
                    intro i o hi hd γ v wa h
                    match i, hi with
                    | 0, hi => (injection hi with hi; subst hi; cases hd)
                    | 1, hi => (injection hi with hi; subst hi; cases hd)
                    | 2, hi => (injection hi with hi; subst hi; cases hd)
                    | 3, hi => (injection hi with hi; subst hi; cases hd)
                    | 4, hi => (injection hi with hi; subst hi; cases hd)
                    | 5, hi => (injection hi with hi; subst hi; cases hd)
                    | 6, hi => (injection hi with hi; subst hi; cases hd)
                    | 7, hi => (injection hi with hi; subst hi; cases hd)
                    | 8, hi => (injection hi with hi; subst hi; cases hd)
                    | 9, hi => (injection hi with hi; subst hi; cases hd)
                    | 10, hi => (injection hi with hi; subst hi; cases hd)
                    | 11, hi => (injection hi with hi; subst hi; cases hd)
                    | 12, hi => (injection hi with hi; subst hi; cases hd)
                    | 13, hi => (injection hi with hi; subst hi; cases hd)
                    | 14, hi => (injection hi with hi; subst hi; cases hd)
                    | 15, hi => exact h
                    | i + 16, hi => cases hi
                  case hG20 => exact ⟨fun _ => Below.drew (Below.refl _ _), OutS.of_below (Below.drew (Below.refl _ _)), _, objU.dr9 HQ8.out.o⟩
                  case hstep20 =>
                    intro i o hi
                    match i, hi with
                    | 0, hi =>
                      injection hi with hi; subst hi
                      intro c a wn γ hc0 hc1 hG hK hD K hk
                      have e1 := hK.at 8 (by kernel_rfl)
                      refine wp_pure (.pointer (some ⟨w1.heap.size, 0, none⟩)) ?_ (hk _ _ γ hG (Fr.same (Below.refl _ _)) rfl)
                      simp [execOp, Act.eval, e1, go_sem]
                    | 1, hi =>
                      injection hi with hi; subst hi
                      intro c a wn γ hc0 hc1 hG hK hD K hk
                      have d0 := hD 0 (by decide) (by kernel_rfl) (.inl rfl)
                      change a.tmps.getD 103 undef = .pointer (some ⟨w1.heap.size, 0, none⟩) at d0
                      have hB := hG.1 (hc0 (.inl (by kernel_rfl)))
                      have x0 := (HQ8.out.below hB).o.cell 0 _ rfl
                      refine wp_pure (.slice b1 Q.I.length c1) ?_ (hk _ _ γ hG (Fr.same (Below.refl _ _)) rfl)
                      simp [execOp, Act.eval, d0, x0, go_sem]
                    | 2, hi =>
                      injection hi with hi; subst hi
                      intro c a wn γ hc0 hc1 hG hK hD K hk
                      have e1 := hK.at 1 (by kernel_rfl)
                      refine wp_pure (.string s) ?_ (hk _ _ γ hG (Fr.same (Below.refl _ _)) rfl)
                      simp [execOp, Act.eval, e1, go_sem]
                    | 3, hi =>
                      injection hi with hi; subst hi
                      intro c a wn γ hc0 hc1 hG hK hD K hk
                      have e1 := hK.at 3 (by kernel_rfl)
                      refine wp_pure (.pointer (some ⟨w.heap.size, 3, none⟩)) ?_ (hk _ _ γ hG (Fr.same (Below.refl _ _)) rfl)
                      simp [execOp, Act.eval, e1, go_sem]
                    | 4, hi =>
                      injection hi with hi; subst hi
                      intro c a wn γ hc0 hc1 hG hK hD K hk
                      have d0 := hD 0 (by decide) (by kernel_rfl) (.inl rfl)
                      change a.tmps.getD 106 undef = .pointer (some ⟨w.heap.size, 3, none⟩) at d0
                      have x0 := (OX8.out.outS hG.2.1 HNX.out).cell 3 _ rfl
                      refine wp_pure (.int .i64 Q.now) ?_ (hk _ _ γ hG (Fr.same (Below.refl _ _)) rfl)
                      simp [execOp, Act.eval, d0, x0, go_sem]
                    | 5, hi =>
                      injection hi with hi; subst hi
                      intro c a wn γ hc0 hc1 hG hK hD K hk
                      have e1 := hK.at 10 (by kernel_rfl)
                      refine wp_pure (.pointer (some ⟨w2.heap.size, 2, none⟩)) ?_ (hk _ _ γ hG (Fr.same (Below.refl _ _)) rfl)
                      simp [execOp, Act.eval, e1, go_sem]
                    | 6, hi =>
                      injection hi with hi; subst hi
                      intro c a wn γ hc0 hc1 hG hK hD K hk
                      have d0 := hD 0 (by decide) (by kernel_rfl) (.inl rfl)
                      change a.tmps.getD 108 undef = .pointer (some ⟨w2.heap.size, 2, none⟩) at d0
                      have x0 := (OI8.out.outS hG.2.1 HNI9.out).cell 2 _ rfl
                      refine wp_pure (.int .i64 F) ?_ (hk _ _ γ hG (Fr.same (Below.refl _ _)) rfl)
                      simp [execOp, Act.eval, d0, x0, go_sem]
                    | 7, hi =>
                      injection hi with hi; subst hi
                      intro c a wn γ hc0 hc1 hG hK hD K hk
                      have d0 := hD 0 (by decide) (by kernel_rfl) (.inl rfl)
                      change a.tmps.getD 109 undef = .int .i64 F at d0
                      refine wp_call 51 #[.tmp 109] _ rfl (callFunc_enter Try.func51 (by kernel_rfl) (by kernel_rfl)) #[.int .i64 F] (by simp only [List.map_toArray, List.map_cons, List.map_nil]; show #[a.tmps.getD 109 undef] = _; rw [d0]) (HDY.out wn) ?_
                      rintro e w' ⟨rfl, hw⟩
                      obtain rfl : wn = w' := hw.symm
                      exact ⟨_, rfl, hk _ _ γ hG (Fr.same (Below.refl _ _)) rfl⟩
                    | 8, hi =>
                      injection hi with hi; subst hi
                      intro c a wn γ hc0 hc1 hG hK hD K hk
                      have d0 := hD 0 (by decide) (by kernel_rfl) (.inl rfl)
                      change a.tmps.getD 107 undef = .int .i64 Q.now at d0
                      have d1 := hD 1 (by decide) (by kernel_rfl) (.inl rfl)
                      change a.tmps.getD 110 undef = .int .i64 d at d1
                      refine wp_pure (.int .i64 (Q.now + (d : Nat))) ?_ (hk _ _ γ hG (Fr.same (Below.refl _ _)) rfl)
                      simp [execOp, Act.eval, d0, d1, hwd, go_sem]
                    | 9, hi =>
                      injection hi with hi; subst hi
                      intro c a wn γ hc0 hc1 hG hK hD K hk
                      have e1 := hK.at 10 (by kernel_rfl)
                      refine wp_pure (.pointer (some ⟨w2.heap.size, 2, none⟩)) ?_ (hk _ _ γ hG (Fr.same (Below.refl _ _)) rfl)
                      simp [execOp, Act.eval, e1, go_sem]
                    | 10, hi =>
                      injection hi with hi; subst hi
                      intro c a wn γ hc0 hc1 hG hK hD K hk
                      have d0 := hD 0 (by decide) (by kernel_rfl) (.inl rfl)
                      change a.tmps.getD 112 undef = .pointer (some ⟨w2.heap.size, 2, none⟩) at d0
                      have x0 := (OI8.out.outS hG.2.1 HNI9.out).cell 2 _ rfl
                      refine wp_pure (.int .i64 F) ?_ (hk _ _ γ hG (Fr.same (Below.refl _ _)) rfl)
                      simp [execOp, Act.eval, d0, x0, go_sem]
                    | 11, hi =>
                      injection hi with hi; subst hi
                      intro c a wn γ hc0 hc1 hG hK hD K hk
                      have d0 := hD 0 (by decide) (by kernel_rfl) (.inl rfl)
                      change a.tmps.getD 105 undef = .string s at d0
                      have d1 := hD 1 (by decide) (by kernel_rfl) (.inl rfl)
                      change a.tmps.getD 111 undef = .int .i64 (Q.now + (d : Nat)) at d1
                      have d2 := hD 2 (by decide) (by kernel_rfl) (.inl rfl)
                      change a.tmps.getD 113 undef = .int .i64 F at d2
                      rw [Array.getD_eq_getD_getElem?] at d0 d1 d2
                      refine wp_pure (.agg #[.string s, .int .i64 (Q.now + (d : Nat)), .int .i64 F]) ?_ (hk _ _ γ hG (Fr.same (Below.refl _ _)) rfl)
                      simp [execOp, Act.eval, d0, d1, d2, go_sem]
                    | 12, hi =>
                      injection hi with hi; subst hi
                      intro c a wn γ hc0 hc1 hG hK hD K hk
                      have d0 := hD 0 (by decide) (by kernel_rfl) (.inl rfl)
                      change a.tmps.getD 114 undef = .agg #[.string s, .int .i64 (Q.now + (d : Nat)), .int .i64 F] at d0
                      refine wp_val (w' := wn.alloc (.cells #[.string s, .int .i64 (Q.now + (d : Nat)), .int .i64 F] 36)) (.slice (some ⟨wn.heap.size, 0, none⟩) 1 1) ?_ (hk _ _ γ (by rw [if_neg (by decide)]; exact ⟨fun e => (hG.1 e).trans ((below_alloc _ _).mono (hG.1 e).size), hG.2.1.trans (OutS.of_below (below_alloc _ _)), by obtain ⟨u, hu⟩ := hG.2.2; exact ⟨u, hu.old _⟩⟩) ⟨below_alloc _ _, fun _ _ => rfl⟩ ⟨_, _, rfl, objU.new _ _ _, by have := hG.2.1.size; have := HQ8.out.lt; omega⟩)
                      rw [Array.getD_eq_getD_getElem?] at d0
                      simp [execOp, Act.eval, d0, go_sem]
                    | 13, hi =>
                      injection hi with hi; subst hi
                      intro c a wn γ hc0 hc1 hG hK hD K hk
                      have d0 := hD 0 (by decide) (by kernel_rfl) (.inl rfl)
                      change a.tmps.getD 104 undef = .slice b1 Q.I.length c1 at d0
                      have d1 := hD 1 (by decide) (by kernel_rfl) (.inr (.inl rfl))
                      change ∃ g t, a.tmps.getD 115 undef = .slice (some ⟨g, 0, none⟩) 1 1 ∧ objU wn g t (encI (s, Q.now + (d : Nat), (F : Int))) ∧ g ≠ w1.heap.size at d1
                      obtain ⟨g, t, g1, g2, g3⟩ := d1
                      have hc := hc0 (.inr rfl)
                      have hB := hG.1 hc
                      have hq1 := HQ8.out.below hB
                      obtain ⟨v', w', r1, r2, r3, r4⟩ := run_append_rd HEI.out (by decide) 24 (w.heap.size + 2) _ _ hq1.q.i _ _ (rdR.one g2) (rowsI [(s, Q.now + (d : Nat), (F : Int))]) (oneI [(s, Q.now + (d : Nat), (F : Int))]) (by simp; omega) (by have := hq1.lt; omega)
                      have hO := grown_outS r3
                      have hne := new_not r4 hq1.ni hq1.lt
                      have hnw : ∀ z ∈ blkOf v', z ∈ blkOf (.slice b1 Q.I.length c1) ∨ w8.heap.size ≤ z := fun z hz => by
                        rw [blk_own] at hz
                        rcases r4 with e | e
                        · rw [e] at hz; exact .inl (blk_own.2 hz)
                        · rw [e] at hz; cases hz; exact .inr hB.size
                      refine wp_val v' ?_ (hk _ _ γ (by rw [if_pos rfl]; exact ⟨(fun e => by cases e), hG.2.1.trans (hO.wide (fun z hz => List.mem_cons_of_mem _ hz)), _, hq1.o.outS hO hq1.ni⟩) ⟨hO, fun _ _ => rfl⟩ ⟨by rw [List.map_append]; exact r2, hne, new_apart r4 hq1.q.d (fun z hz hh => hq1.q.id z hz hh), new_apart r4 hq1.q.a (fun z hz hh => hq1.q.ia z hz hh), hnw⟩)
                      exact append_run (.tmp 104) (.tmp 115) 24 rfl d0 g1 r1
                    | 14, hi =>
                      injection hi with hi; subst hi
                      intro c a wn γ hc0 hc1 hG hK hD K hk
                      have e1 := hK.at 8 (by kernel_rfl)
                      refine wp_pure (.pointer (some ⟨w1.heap.size, 0, none⟩)) ?_ (hk _ _ γ hG (Fr.same (Below.refl _ _)) rfl)
                      simp [execOp, Act.eval, e1, go_sem]
                    | 15, hi =>
                      injection hi with hi; subst hi
                      intro c a wn γ hc0 hc1 hG hK hD K hk
                      have d0 := hD 0 (by decide) (by kernel_rfl) (.inl rfl)
                      change a.tmps.getD 117 undef = .pointer (some ⟨w1.heap.size, 0, none⟩) at d0
                      have d1 := hD 1 (by decide) (by kernel_rfl) (.inl rfl)
                      change ownR wn (w.heap.size + 2) 36 3 (a.tmps.getD 116 undef) ((R.I ++ [(s, Q.now + (d : Nat), (F : Int))]).map encI) ∧ w1.heap.size ∉ blkOf (a.tmps.getD 116 undef) ∧ (∀ g ∈ blkOf (a.tmps.getD 116 undef), g ∉ blkOf (.slice a5 n5 p5)) ∧ (∀ g ∈ blkOf (a.tmps.getD 116 undef), g ∉ blkOf (.slice a7 n7 p7)) ∧ ∀ g ∈ blkOf (a.tmps.getD 116 undef), g ∈ blkOf (.slice b1 Q.I.length c1) ∨ w8.heap.size ≤ g at d1
                      obtain ⟨k1, k2, k3, k4, k5⟩ := d1
                      have hc := hc1 (by kernel_rfl)
                      obtain ⟨-, hOG, u, hu⟩ := hG
                      obtain ⟨a3, p3, e3⟩ := k1.itS
                      have h1c : (a.tmps.getD 116 undef).oneCell' = true := by rw [e3]; rfl
                      have hO : OutS [w1.heap.size] wn (wn.setCells w1.heap.size 0 [a.tmps.getD 116 undef]) := OutS.setCells _ _ _
                      have hS := objU.setCells [a.tmps.getD 116 undef] [u] [] [.slice a5 n5 p5, .slice a7 n7 p7, .int .i64 R.now] wn hu rfl
                      have hfr : ∀ (v : Value) (e : TypeId) (k : Nat) (R : List (List Value)), ownR w8 (w.heap.size + 2) e k v R → w1.heap.size ∉ blkOf v → (∀ g ∈ blkOf (.slice b1 Q.I.length c1), g ∉ blkOf v) → ownR (wn.setCells w1.heap.size 0 [a.tmps.getD 116 undef]) (w.heap.size + 2) e k v R := fun v e k R hv hn hd => (hv.apart hOG (fun g hg => by rcases List.mem_cons.1 hg with rfl | hg; exact hn; exact hd g hg)).apart hO (fun g hg hh => hn (by simp at hg; exact hg ▸ hh))
                      refine wp_skip ?_ (hk undef _ γ (by rw [if_neg (by decide)]; exact ⟨(fun e => by rw [hc] at e; cases e), hOG.trans (hO.wide (fun z hz => by simp at hz; simp [hz])), _, hS⟩) ⟨hO, fun _ _ => rfl⟩ ⟨_, ⟨hS, ⟨k1.frame (fun g hg => hO.block g (k1.lt g hg).2 (fun hh => k2 (by simp at hh; exact hh ▸ hg))), hfr _ _ _ _ HQ8.out.q.d HQ8.out.nd (fun g hg hh => HQ8.out.q.id g hg hh), hfr _ _ _ _ HQ8.out.q.a HQ8.out.na (fun g hg hh => HQ8.out.q.ia g hg hh), (fun g hg hh => k3 g hg hh), (fun g hg hh => k4 g hg hh), HQ8.out.q.da⟩, k2, HQ8.out.nd, HQ8.out.na⟩, k5⟩)
                      exact store_run 24 (.tmp 117) (.tmp 116) rfl d0 rfl [a.tmps.getD 116 undef] (cells_one h1c) (one1 h1c) (by kernel_rfl) (hu.there 0 1 (by simp))
                    | i + 16, hi => cases hi
                  case hend20 =>
                    intro x w9 γ hG hx
                    obtain ⟨v9, hQ9, hn9⟩ := hx 15 (by decide) rfl
                    have hO9 := hG.2.1
                    clear hG hx
                    simp only [putAll, Act.put, List.setIfInBounds_toArray, List.set_cons_zero, List.set_cons_succ, Nat.zero_add, Nat.reduceAdd]
                    have OZ9 := hide (OZ8.out.outS hO9 HNZ.out)
                    have B9 : Hid (Below w.heap.size w w9) := B8.out.trans (hO9.below HTW.out B8.out.size)
                    have HQ9 := hide hQ9
                    clear hQ9 hn9 hO9
                    obtain ⟨R1, hR1⟩ : ∃ R1 : Qu, R1 = { R with I := R.I ++ [(s, Q.now + (d : Nat), (F : Int))] } := ⟨_, rfl⟩
                    rw [← hR1] at HQ9 HR
                    have hN1 : R1.now = R.now := by rw [hR1]
                    clear hR1
                    obtain ⟨a9, n9, p9, rfl⟩ : ∃ a n p, v9 = .slice a n p := by obtain ⟨a, p, e⟩ := HQ9.out.q.i.itS; exact ⟨_, _, _, e⟩
                    have OB9 := hide HQ9.out.o
                    clear hN1
                    have z0 := OZ9.out.cell 0 _ rfl
                    have z1 := OZ9.out.cell 1 _ rfl
                    have z2 := OZ9.out.cell 2 _ rfl
                    have z3 := OZ9.out.cell 3 _ rfl
                    have g0 := OZ9.out.fz 0
                    have g1 := OZ9.out.fz 1
                    have g2 := OZ9.out.fz 2
                    have g3 := OZ9.out.fz 3
                    have u0 := OB9.out.cell 0 _ rfl
                    have u1 := OB9.out.cell 1 _ rfl
                    have u2 := OB9.out.cell 2 _ rfl
                    have u3 := OB9.out.cell 3 _ rfl
                    have HOU : Hid (OutS [w.heap.size + 1] w9 ((((w9.setCell ⟨w.heap.size + 1, 0, none⟩ (.slice a9 n9 p9)).setCell ⟨w.heap.size + 1, 1, none⟩ (.slice a5 n5 p5)).setCell ⟨w.heap.size + 1, 2, none⟩ (.slice a7 n7 p7)).setCell ⟨w.heap.size + 1, 3, none⟩ (.int .i64 R1.now))) := by
                      show OutS _ _ _
                      repeat (first | with_reducible exact OutS.refl _ _ | with_reducible refine OutS.setCell ?_ (show _ ∈ [w.heap.size + 1] by simp) _)
                    go_wp2
                    refine bodyPost_ret (v := .tuple #[.agg #[.slice a9 n9 p9, .slice a5 n5 p5, .slice a7 n7 p7, .int .i64 R1.now], .bool true]) ?_ rfl ⟨_, _, _, by rw [HR.out], by rw [HR.out]; exact QO.mono (HQ9.out.q.outS HOU.out (fun t ht => by simp at ht; omega)) (by omega), B9.out.trans (HOU.out.below (fun t ht => by simp at ht; omega) B9.out.size)⟩
                    simp [results, Try.results44, go_sem, z0, z1, z2, z3]
                · have hFe : y.2.2 = (F : Int) := by have := HFF.out; have := HFL.out; omega
                  have OI8 : Hid (objU wr w2.heap.size 36 [.string y.1, .int .i64 y.2.1, .int .i64 F]) := by rw [← hFe]; exact OIs.out
                  clear hFe
                  go_wp2
                  refine wp_region_inv2 (fun i => if i = 13 then OutS (blkOf (.slice b1 Q.I.length c1)) else if i = 15 then OutS [w1.heap.size] else fun u v => Below u.heap.size u v) (fun i => if i = 12 then some 13 else none) 13 (by decide)
                    (fun c wn => (c = false → Below wr.heap.size wr wn) ∧ OutS (w1.heap.size :: blkOf (.slice b1 Q.I.length c1)) wr wn ∧ ∃ u, objU wn w1.heap.size 27 [u, .slice a5 n5 p5, .slice a7 n7 p7, .int .i64 R.now]) (FG20 wr w.heap.size w1.heap.size (w.heap.size + 2) w2.heap.size s Q.now F d R (.slice b1 Q.I.length c1) (.slice a5 n5 p5) (.slice a7 n7 p7)) (by kernel_rfl) (by kernel_rfl) (by kernel_rfl) ?hF20 ?hU20 ?hG20 ?hstep20 ?hend20
                  case hF20 =>
                    intro i j γ γ' v wa wb hij hsp hnd hsd h hfr
                    have ho := hfr.out
                    match j, h with
                    | 0, h => exact h
                    | 1, h => exact h
                    | 2, h => exact h
                    | 3, h => exact h
                    | 4, h => exact h
                    | 5, h => exact h
                    | 6, h => exact h
                    | 7, h => exact h
                    | 8, h => exact h
                    | 9, h => exact h
                    | 10, h => exact h
                    | 11, h => exact h
                    | 12, ⟨g2, t, h1, h2, h3⟩ =>
                      rw [if_neg (fun e => hsp (by simp [e]))] at ho
                      by_cases e : i = 15
                      · rw [if_pos e] at ho
                        exact ⟨g2, t, h1, h2.outS ho (by simpa using h3), h3⟩
                      · rw [if_neg e] at ho
                        exact ⟨g2, t, h1, h2.below ho, h3⟩
                    | 13, ⟨h1, h2⟩ =>
                      rw [if_neg hij] at ho
                      by_cases e : i = 15
                      · rw [if_pos e] at ho
                        exact ⟨h1.frame (fun z hz => ho.block z (h1.lt z hz).2 (fun hh => h2.1 (by simp at hh; exact hh ▸ hz))), h2⟩
                      · rw [if_neg e] at ho
                        exact ⟨h1.below ho, h2⟩
                    | 14, h => exact h
                    | 15, ⟨v', h⟩ =>
                      by_cases e : i = 13
                      · subst e; cases (hnd.symm.trans (by kernel_rfl) : false = true)
                      · rw [if_neg e, if_neg hij] at ho
                        exact ⟨v', h.1.below ho, h.2⟩
                    | j + 16, h => exact h.elim
                  case hU20 =>
                    intro i o hi hd γ v wa h
                    match i, hi with
                    | 0, hi => (injection hi with hi; subst hi; cases hd)
                    | 1, hi => (injection hi with hi; subst hi; cases hd)
                    | 2, hi => (injection hi with hi; subst hi; cases hd)
                    | 3, hi => (injection hi with hi; subst hi; cases hd)
                    | 4, hi => (injection hi with hi; subst hi; cases hd)
                    | 5, hi => (injection hi with hi; subst hi; cases hd)
                    | 6, hi => (injection hi with hi; subst hi; cases hd)
                    | 7, hi => (injection hi with hi; subst hi; cases hd)
                    | 8, hi => (injection hi with hi; subst hi; cases hd)
                    | 9, hi => (injection hi with hi; subst hi; cases hd)
                    | 10, hi => (injection hi with hi; subst hi; cases hd)
                    | 11, hi => (injection hi with hi; subst hi; cases hd)
                    | 12, hi => (injection hi with hi; subst hi; cases hd)
                    | 13, hi => (injection hi with hi; subst hi; cases hd)
                    | 14, hi => (injection hi with hi; subst hi; cases hd)
                    | 15, hi => exact h
                    | i + 16, hi => cases hi
                  case hG20 => exact ⟨fun _ => Below.drew (Below.refl _ _), OutS.of_below (Below.drew (Below.refl _ _)), _, objU.dr9 HQR.out.o⟩
                  case hstep20 =>
                    intro i o hi
                    match i, hi with
                    | 0, hi =>
                      injection hi with hi; subst hi
                      intro c a wn γ hc0 hc1 hG hK hD K hk
                      have e1 := hK.at 8 (by kernel_rfl)
                      refine wp_pure (.pointer (some ⟨w1.heap.size, 0, none⟩)) ?_ (hk _ _ γ hG (Fr.same (Below.refl _ _)) rfl)
                      simp [execOp, Act.eval, e1, go_sem]
                    | 1, hi =>
                      injection hi with hi; subst hi
                      intro c a wn γ hc0 hc1 hG hK hD K hk
                      have d0 := hD 0 (by decide) (by kernel_rfl) (.inl rfl)
                      change a.tmps.getD 103 undef = .pointer (some ⟨w1.heap.size, 0, none⟩) at d0
                      have hB := hG.1 (hc0 (.inl (by kernel_rfl)))
                      have x0 := (HQR.out.below hB).o.cell 0 _ rfl
                      refine wp_pure (.slice b1 Q.I.length c1) ?_ (hk _ _ γ hG (Fr.same (Below.refl _ _)) rfl)
                      simp [execOp, Act.eval, d0, x0, go_sem]
                    | 2, hi =>
                      injection hi with hi; subst hi
                      intro c a wn γ hc0 hc1 hG hK hD K hk
                      have e1 := hK.at 1 (by kernel_rfl)
                      refine wp_pure (.string s) ?_ (hk _ _ γ hG (Fr.same (Below.refl _ _)) rfl)
                      simp [execOp, Act.eval, e1, go_sem]
                    | 3, hi =>
                      injection hi with hi; subst hi
                      intro c a wn γ hc0 hc1 hG hK hD K hk
                      have e1 := hK.at 3 (by kernel_rfl)
                      refine wp_pure (.pointer (some ⟨w.heap.size, 3, none⟩)) ?_ (hk _ _ γ hG (Fr.same (Below.refl _ _)) rfl)
                      simp [execOp, Act.eval, e1, go_sem]
                    | 4, hi =>
                      injection hi with hi; subst hi
                      intro c a wn γ hc0 hc1 hG hK hD K hk
                      have d0 := hD 0 (by decide) (by kernel_rfl) (.inl rfl)
                      change a.tmps.getD 106 undef = .pointer (some ⟨w.heap.size, 3, none⟩) at d0
                      have x0 := (OXs.out.outS hG.2.1 HNX.out).cell 3 _ rfl
                      refine wp_pure (.int .i64 Q.now) ?_ (hk _ _ γ hG (Fr.same (Below.refl _ _)) rfl)
                      simp [execOp, Act.eval, d0, x0, go_sem]
                    | 5, hi =>
                      injection hi with hi; subst hi
                      intro c a wn γ hc0 hc1 hG hK hD K hk
                      have e1 := hK.at 10 (by kernel_rfl)
                      refine wp_pure (.pointer (some ⟨w2.heap.size, 2, none⟩)) ?_ (hk _ _ γ hG (Fr.same (Below.refl _ _)) rfl)
                      simp [execOp, Act.eval, e1, go_sem]
                    | 6, hi =>
                      injection hi with hi; subst hi
                      intro c a wn γ hc0 hc1 hG hK hD K hk
                      have d0 := hD 0 (by decide) (by kernel_rfl) (.inl rfl)
                      change a.tmps.getD 108 undef = .pointer (some ⟨w2.heap.size, 2, none⟩) at d0
                      have x0 := (OI8.out.outS hG.2.1 HNI9.out).cell 2 _ rfl
                      refine wp_pure (.int .i64 F) ?_ (hk _ _ γ hG (Fr.same (Below.refl _ _)) rfl)
                      simp [execOp, Act.eval, d0, x0, go_sem]
                    | 7, hi =>
                      injection hi with hi; subst hi
                      intro c a wn γ hc0 hc1 hG hK hD K hk
                      have d0 := hD 0 (by decide) (by kernel_rfl) (.inl rfl)
                      change a.tmps.getD 109 undef = .int .i64 F at d0
                      refine wp_call 51 #[.tmp 109] _ rfl (callFunc_enter Try.func51 (by kernel_rfl) (by kernel_rfl)) #[.int .i64 F] (by simp only [List.map_toArray, List.map_cons, List.map_nil]; show #[a.tmps.getD 109 undef] = _; rw [d0]) (HDY.out wn) ?_
                      rintro e w' ⟨rfl, hw⟩
                      obtain rfl : wn = w' := hw.symm
                      exact ⟨_, rfl, hk _ _ γ hG (Fr.same (Below.refl _ _)) rfl⟩
                    | 8, hi =>
                      injection hi with hi; subst hi
                      intro c a wn γ hc0 hc1 hG hK hD K hk
                      have d0 := hD 0 (by decide) (by kernel_rfl) (.inl rfl)
                      change a.tmps.getD 107 undef = .int .i64 Q.now at d0
                      have d1 := hD 1 (by decide) (by kernel_rfl) (.inl rfl)
                      change a.tmps.getD 110 undef = .int .i64 d at d1
                      refine wp_pure (.int .i64 (Q.now + (d : Nat))) ?_ (hk _ _ γ hG (Fr.same (Below.refl _ _)) rfl)
                      simp [execOp, Act.eval, d0, d1, hwd, go_sem]
                    | 9, hi =>
                      injection hi with hi; subst hi
                      intro c a wn γ hc0 hc1 hG hK hD K hk
                      have e1 := hK.at 10 (by kernel_rfl)
                      refine wp_pure (.pointer (some ⟨w2.heap.size, 2, none⟩)) ?_ (hk _ _ γ hG (Fr.same (Below.refl _ _)) rfl)
                      simp [execOp, Act.eval, e1, go_sem]
                    | 10, hi =>
                      injection hi with hi; subst hi
                      intro c a wn γ hc0 hc1 hG hK hD K hk
                      have d0 := hD 0 (by decide) (by kernel_rfl) (.inl rfl)
                      change a.tmps.getD 112 undef = .pointer (some ⟨w2.heap.size, 2, none⟩) at d0
                      have x0 := (OI8.out.outS hG.2.1 HNI9.out).cell 2 _ rfl
                      refine wp_pure (.int .i64 F) ?_ (hk _ _ γ hG (Fr.same (Below.refl _ _)) rfl)
                      simp [execOp, Act.eval, d0, x0, go_sem]
                    | 11, hi =>
                      injection hi with hi; subst hi
                      intro c a wn γ hc0 hc1 hG hK hD K hk
                      have d0 := hD 0 (by decide) (by kernel_rfl) (.inl rfl)
                      change a.tmps.getD 105 undef = .string s at d0
                      have d1 := hD 1 (by decide) (by kernel_rfl) (.inl rfl)
                      change a.tmps.getD 111 undef = .int .i64 (Q.now + (d : Nat)) at d1
                      have d2 := hD 2 (by decide) (by kernel_rfl) (.inl rfl)
                      change a.tmps.getD 113 undef = .int .i64 F at d2
                      rw [Array.getD_eq_getD_getElem?] at d0 d1 d2
                      refine wp_pure (.agg #[.string s, .int .i64 (Q.now + (d : Nat)), .int .i64 F]) ?_ (hk _ _ γ hG (Fr.same (Below.refl _ _)) rfl)
                      simp [execOp, Act.eval, d0, d1, d2, go_sem]
                    | 12, hi =>
                      injection hi with hi; subst hi
                      intro c a wn γ hc0 hc1 hG hK hD K hk
                      have d0 := hD 0 (by decide) (by kernel_rfl) (.inl rfl)
                      change a.tmps.getD 114 undef = .agg #[.string s, .int .i64 (Q.now + (d : Nat)), .int .i64 F] at d0
                      refine wp_val (w' := wn.alloc (.cells #[.string s, .int .i64 (Q.now + (d : Nat)), .int .i64 F] 36)) (.slice (some ⟨wn.heap.size, 0, none⟩) 1 1) ?_ (hk _ _ γ (by rw [if_neg (by decide)]; exact ⟨fun e => (hG.1 e).trans ((below_alloc _ _).mono (hG.1 e).size), hG.2.1.trans (OutS.of_below (below_alloc _ _)), by obtain ⟨u, hu⟩ := hG.2.2; exact ⟨u, hu.old _⟩⟩) ⟨below_alloc _ _, fun _ _ => rfl⟩ ⟨_, _, rfl, objU.new _ _ _, by have := hG.2.1.size; have := HQR.out.lt; omega⟩)
                      rw [Array.getD_eq_getD_getElem?] at d0
                      simp [execOp, Act.eval, d0, go_sem]
                    | 13, hi =>
                      injection hi with hi; subst hi
                      intro c a wn γ hc0 hc1 hG hK hD K hk
                      have d0 := hD 0 (by decide) (by kernel_rfl) (.inl rfl)
                      change a.tmps.getD 104 undef = .slice b1 Q.I.length c1 at d0
                      have d1 := hD 1 (by decide) (by kernel_rfl) (.inr (.inl rfl))
                      change ∃ g t, a.tmps.getD 115 undef = .slice (some ⟨g, 0, none⟩) 1 1 ∧ objU wn g t (encI (s, Q.now + (d : Nat), (F : Int))) ∧ g ≠ w1.heap.size at d1
                      obtain ⟨g, t, g1, g2, g3⟩ := d1
                      have hc := hc0 (.inr rfl)
                      have hB := hG.1 hc
                      have hq1 := HQR.out.below hB
                      obtain ⟨v', w', r1, r2, r3, r4⟩ := run_append_rd HEI.out (by decide) 24 (w.heap.size + 2) _ _ hq1.q.i _ _ (rdR.one g2) (rowsI [(s, Q.now + (d : Nat), (F : Int))]) (oneI [(s, Q.now + (d : Nat), (F : Int))]) (by simp; omega) (by have := hq1.lt; omega)
                      have hO := grown_outS r3
                      have hne := new_not r4 hq1.ni hq1.lt
                      have hnw : ∀ z ∈ blkOf v', z ∈ blkOf (.slice b1 Q.I.length c1) ∨ wr.heap.size ≤ z := fun z hz => by
                        rw [blk_own] at hz
                        rcases r4 with e | e
                        · rw [e] at hz; exact .inl (blk_own.2 hz)
                        · rw [e] at hz; cases hz; exact .inr hB.size
                      refine wp_val v' ?_ (hk _ _ γ (by rw [if_pos rfl]; exact ⟨(fun e => by cases e), hG.2.1.trans (hO.wide (fun z hz => List.mem_cons_of_mem _ hz)), _, hq1.o.outS hO hq1.ni⟩) ⟨hO, fun _ _ => rfl⟩ ⟨by rw [List.map_append]; exact r2, hne, new_apart r4 hq1.q.d (fun z hz hh => hq1.q.id z hz hh), new_apart r4 hq1.q.a (fun z hz hh => hq1.q.ia z hz hh), hnw⟩)
                      exact append_run (.tmp 104) (.tmp 115) 24 rfl d0 g1 r1
                    | 14, hi =>
                      injection hi with hi; subst hi
                      intro c a wn γ hc0 hc1 hG hK hD K hk
                      have e1 := hK.at 8 (by kernel_rfl)
                      refine wp_pure (.pointer (some ⟨w1.heap.size, 0, none⟩)) ?_ (hk _ _ γ hG (Fr.same (Below.refl _ _)) rfl)
                      simp [execOp, Act.eval, e1, go_sem]
                    | 15, hi =>
                      injection hi with hi; subst hi
                      intro c a wn γ hc0 hc1 hG hK hD K hk
                      have d0 := hD 0 (by decide) (by kernel_rfl) (.inl rfl)
                      change a.tmps.getD 117 undef = .pointer (some ⟨w1.heap.size, 0, none⟩) at d0
                      have d1 := hD 1 (by decide) (by kernel_rfl) (.inl rfl)
                      change ownR wn (w.heap.size + 2) 36 3 (a.tmps.getD 116 undef) ((R.I ++ [(s, Q.now + (d : Nat), (F : Int))]).map encI) ∧ w1.heap.size ∉ blkOf (a.tmps.getD 116 undef) ∧ (∀ g ∈ blkOf (a.tmps.getD 116 undef), g ∉ blkOf (.slice a5 n5 p5)) ∧ (∀ g ∈ blkOf (a.tmps.getD 116 undef), g ∉ blkOf (.slice a7 n7 p7)) ∧ ∀ g ∈ blkOf (a.tmps.getD 116 undef), g ∈ blkOf (.slice b1 Q.I.length c1) ∨ wr.heap.size ≤ g at d1
                      obtain ⟨k1, k2, k3, k4, k5⟩ := d1
                      have hc := hc1 (by kernel_rfl)
                      obtain ⟨-, hOG, u, hu⟩ := hG
                      obtain ⟨a3, p3, e3⟩ := k1.itS
                      have h1c : (a.tmps.getD 116 undef).oneCell' = true := by rw [e3]; rfl
                      have hO : OutS [w1.heap.size] wn (wn.setCells w1.heap.size 0 [a.tmps.getD 116 undef]) := OutS.setCells _ _ _
                      have hS := objU.setCells [a.tmps.getD 116 undef] [u] [] [.slice a5 n5 p5, .slice a7 n7 p7, .int .i64 R.now] wn hu rfl
                      have hfr : ∀ (v : Value) (e : TypeId) (k : Nat) (R : List (List Value)), ownR wr (w.heap.size + 2) e k v R → w1.heap.size ∉ blkOf v → (∀ g ∈ blkOf (.slice b1 Q.I.length c1), g ∉ blkOf v) → ownR (wn.setCells w1.heap.size 0 [a.tmps.getD 116 undef]) (w.heap.size + 2) e k v R := fun v e k R hv hn hd => (hv.apart hOG (fun g hg => by rcases List.mem_cons.1 hg with rfl | hg; exact hn; exact hd g hg)).apart hO (fun g hg hh => hn (by simp at hg; exact hg ▸ hh))
                      refine wp_skip ?_ (hk undef _ γ (by rw [if_neg (by decide)]; exact ⟨(fun e => by rw [hc] at e; cases e), hOG.trans (hO.wide (fun z hz => by simp at hz; simp [hz])), _, hS⟩) ⟨hO, fun _ _ => rfl⟩ ⟨_, ⟨hS, ⟨k1.frame (fun g hg => hO.block g (k1.lt g hg).2 (fun hh => k2 (by simp at hh; exact hh ▸ hg))), hfr _ _ _ _ HQR.out.q.d HQR.out.nd (fun g hg hh => HQR.out.q.id g hg hh), hfr _ _ _ _ HQR.out.q.a HQR.out.na (fun g hg hh => HQR.out.q.ia g hg hh), (fun g hg hh => k3 g hg hh), (fun g hg hh => k4 g hg hh), HQR.out.q.da⟩, k2, HQR.out.nd, HQR.out.na⟩, k5⟩)
                      exact store_run 24 (.tmp 117) (.tmp 116) rfl d0 rfl [a.tmps.getD 116 undef] (cells_one h1c) (one1 h1c) (by kernel_rfl) (hu.there 0 1 (by simp))
                    | i + 16, hi => cases hi
                  case hend20 =>
                    intro x w9 γ hG hx
                    obtain ⟨v9, hQ9, hn9⟩ := hx 15 (by decide) rfl
                    have hO9 := hG.2.1
                    clear hG hx
                    simp only [putAll, Act.put, List.setIfInBounds_toArray, List.set_cons_zero, List.set_cons_succ, Nat.zero_add, Nat.reduceAdd]
                    have OZ9 := hide (OZs.out.outS hO9 HNZ.out)
                    have B9 : Hid (Below w.heap.size w w9) := Bs.out.trans (hO9.below HTW.out Bs.out.size)
                    have HQ9 := hide hQ9
                    clear hQ9 hn9 hO9
                    obtain ⟨R1, hR1⟩ : ∃ R1 : Qu, R1 = { R with I := R.I ++ [(s, Q.now + (d : Nat), (F : Int))] } := ⟨_, rfl⟩
                    rw [← hR1] at HQ9 HR
                    have hN1 : R1.now = R.now := by rw [hR1]
                    clear hR1
                    obtain ⟨a9, n9, p9, rfl⟩ : ∃ a n p, v9 = .slice a n p := by obtain ⟨a, p, e⟩ := HQ9.out.q.i.itS; exact ⟨_, _, _, e⟩
                    have OB9 := hide HQ9.out.o
                    clear hN1
                    have z0 := OZ9.out.cell 0 _ rfl
                    have z1 := OZ9.out.cell 1 _ rfl
                    have z2 := OZ9.out.cell 2 _ rfl
                    have z3 := OZ9.out.cell 3 _ rfl
                    have g0 := OZ9.out.fz 0
                    have g1 := OZ9.out.fz 1
                    have g2 := OZ9.out.fz 2
                    have g3 := OZ9.out.fz 3
                    have u0 := OB9.out.cell 0 _ rfl
                    have u1 := OB9.out.cell 1 _ rfl
                    have u2 := OB9.out.cell 2 _ rfl
                    have u3 := OB9.out.cell 3 _ rfl
                    have HOU : Hid (OutS [w.heap.size + 1] w9 ((((w9.setCell ⟨w.heap.size + 1, 0, none⟩ (.slice a9 n9 p9)).setCell ⟨w.heap.size + 1, 1, none⟩ (.slice a5 n5 p5)).setCell ⟨w.heap.size + 1, 2, none⟩ (.slice a7 n7 p7)).setCell ⟨w.heap.size + 1, 3, none⟩ (.int .i64 R1.now))) := by
                      show OutS _ _ _
                      repeat (first | with_reducible exact OutS.refl _ _ | with_reducible refine OutS.setCell ?_ (show _ ∈ [w.heap.size + 1] by simp) _)
                    go_wp2
                    refine bodyPost_ret (v := .tuple #[.agg #[.slice a9 n9 p9, .slice a5 n5 p5, .slice a7 n7 p7, .int .i64 R1.now], .bool true]) ?_ rfl ⟨_, _, _, by rw [HR.out], by rw [HR.out]; exact QO.mono (HQ9.out.q.outS HOU.out (fun t ht => by simp at ht; omega)) (by omega), B9.out.trans (HOU.out.below (fun t ht => by simp at ht; omega) B9.out.size)⟩
                    simp [results, Try.results44, go_sem, z0, z1, z2, z3]
    · have hpl : plcI Q.D s = -1 := if_neg hD
      rw [hpl]
      have HR : Hid (doneQ Q s well = (Q, false)) := HRR.out.trans (doneC_no well hD)
      clear hpl hp HRR
      have u0 := HQB.out.o.cell 0 _ rfl
      have u1 := HQB.out.o.cell 1 _ rfl
      have u2 := HQB.out.o.cell 2 _ rfl
      have u3 := HQB.out.o.cell 3 _ rfl
      have z0 := OZ2.out.cell 0 _ rfl
      have z1 := OZ2.out.cell 1 _ rfl
      have z2 := OZ2.out.cell 2 _ rfl
      have z3 := OZ2.out.cell 3 _ rfl
      have g0 := OZ2.out.fz 0
      have g1 := OZ2.out.fz 1
      have g2 := OZ2.out.fz 2
      have g3 := OZ2.out.fz 3
      have HOU : Hid (OutS [w.heap.size + 1] w2 ((((w2.setCell ⟨w.heap.size + 1, 0, none⟩ (.slice b1 Q.I.length c1)).setCell ⟨w.heap.size + 1, 1, none⟩ (.slice b2 Q.D.length c2)).setCell ⟨w.heap.size + 1, 2, none⟩ (.slice b3 Q.A.length c3)).setCell ⟨w.heap.size + 1, 3, none⟩ (.int .i64 Q.now))) := by
        show OutS _ _ _
        repeat (first | with_reducible exact OutS.refl _ _ | with_reducible refine OutS.setCell ?_ (show _ ∈ [w.heap.size + 1] by simp) _)
      go_wp2
      refine bodyPost_ret (v := .tuple #[.agg #[.slice b1 Q.I.length c1, .slice b2 Q.D.length c2, .slice b3 Q.A.length c3, .int .i64 Q.now], .bool false]) ?_ rfl ⟨_, _, _, by rw [HR.out], by rw [HR.out]; exact QO.mono (HQB.out.q.outS HOU.out (fun t ht => by simp at ht; omega)) (by omega), B2.out.trans (HOU.out.below (fun t ht => by simp at ht; omega) B2.out.size)⟩
      simp [results, Try.results44, go_sem, z0, z1, z2, z3]
end Go.Proofs.Ytddojjigijfgbaa
/- Rows of strings: where a slice of strings leads; the three helpers of the laws over them. -/
namespace Go.Proofs.Ytddojjigijfgbaa
open Go.RowKit
set_option linter.unusedVariables false

/-- rows of strings: one cell each -/
def strAt (w : World) (b off : Nat) (ss : List ByteArray) : Prop := ∀ i (h : i < ss.length), w.cell? ⟨b, off + i, none⟩ = some (.string (ss[i]'h))
def strOf (w : World) (a : Option Addr) (ss : List ByteArray) : Prop := 0 < ss.length → ∃ b off, a = some ⟨b, off, none⟩ ∧ strAt w b off ss
theorem strAt.below {w w' : World} {b off : Nat} {ss : List ByteArray} (h : strAt w b off ss) (hb : Below w.heap.size w w') : strAt w' b off ss := fun i hi => by
  have h0 := h i hi
  exact (hb.cell (p := ⟨b, off + i, none⟩) (World.block_lt_of_cell? _ _ h0)).trans h0
theorem strOf.below {w w' : World} {a : Option Addr} {ss : List ByteArray} (h : strOf w a ss) (hb : Below w.heap.size w w') : strOf w' a ss := by
  intro hl
  obtain ⟨b, off, e, h⟩ := h hl
  exact ⟨b, off, e, h.below hb⟩
theorem strOf.below' {w w1 w' : World} {a : Option Addr} {ss : List ByteArray} (h : strOf w a ss) (hb : Below w.heap.size w1 w') (h1 : Below w.heap.size w w1) : strOf w' a ss := h.below (h1.trans hb)

def szStrs : List ByteArray → Int → Int
  | [], l => l
  | s :: r, l => if l - s.size < 0 then -1 else szStrs r (l - s.size)
def szSS (ss : List ByteArray) (left : Int) : Int := if left - ss.length < 0 then -1 else szStrs ss (left - ss.length)
theorem szStrs_drop (ss : List ByteArray) (k : Nat) (h : k < ss.length) (l : Int) : szStrs (ss.drop k) l = if l - (ss[k]'h).size < 0 then -1 else szStrs (ss.drop (k + 1)) (l - (ss[k]'h).size) := by
  rw [List.drop_eq_getElem_cons h]; rfl
def okStrs (ss : List ByteArray) : Prop := ∀ s ∈ ss, s.size ≤ maxLen


theorem Try.infoStr : (Try.prog.info? 9).map (fun i => (i.zero, i.size, i.bytes)) = some (some (.string ByteArray.empty), 1, 16) := by kernel_rfl
def strVs (ss : List ByteArray) : List Value := ss.map fun s => .string s
theorem strVs_length (ss : List ByteArray) : (strVs ss).length = ss.length := by simp [strVs]
theorem strVs_get {ss : List ByteArray} {k : Nat} (h : k < ss.length) : (strVs ss)[k]? = some (.string ss[k]) := by
  unfold strVs; rw [List.getElem?_map, List.getElem?_eq_getElem h]; rfl
theorem strOf_owns {w : World} {base g n cap : Nat} {e : TypeId} {ss : List ByteArray} (h : w.ownsRow base e 1 (.slice (some ⟨g, 0, none⟩) n cap) n (strVs ss)) : strOf w (some ⟨g, 0, none⟩) ss := by
  intro _
  refine ⟨g, 0, rfl, fun i hi => ?_⟩
  have hn : n * 1 = ss.length := by rw [← strVs_length, h.1]
  rw [← strVs_get hi, Nat.zero_add]
  exact h.cellAt _ (by omega)


end Go.Proofs.Ytddojjigijfgbaa
/- Rows of one's own: kept below a mark, out of a range of blocks. -/
namespace Go.Proofs.Ytddojjigijfgbaa
open Go.RowKit Go.BigFrame
set_option linter.unusedVariables false
theorem owns_below_any {w w' : World} {base n : Nat} {v : Value} {e : TypeId} {size : Nat} {xs : List Value} (h : w.ownsRow base e size v n xs) (hb : Below w.heap.size w w') : w'.ownsRow base e size v n xs := by
  obtain ⟨h1, h2⟩ := h
  refine ⟨h1, ?_⟩
  rcases h2 with h | ⟨g', cap', cur, h, hg, hh, r⟩
  · exact .inl h
  · exact .inr ⟨g', cap', cur, h, hg, by rw [hb.block g' (Array.getElem?_eq_some_iff.1 hh).1]; exact hh, r⟩
theorem cell_one_at1 (w : World) (n : Nat) (h : w.heap.size = n) (a : Value) (t : TypeId) : ∀ j u, [a][j]? = some u → (w.alloc (.cells #[a] t)).cell? ((⟨n, 0, none⟩ : Addr).add j) = some u := by
  subst h
  intro j u hj
  match j, hj with
  | 0, hj => simp at hj; subst hj; simp [Addr.add]
  | j + 1, hj => simp at hj
theorem owns_mono {w : World} {B B' : Nat} {e : TypeId} {size : Nat} {v : Value} {n : Nat} {xs : List Value} (h : w.ownsRow B e size v n xs) (hB : B' ≤ B) : w.ownsRow B' e size v n xs := by
  obtain ⟨h1, h2⟩ := h
  refine ⟨h1, ?_⟩
  rcases h2 with h2 | ⟨g, cap, cur, hv, hg, r⟩
  · exact .inl h2
  · exact .inr ⟨g, cap, cur, hv, by omega, r⟩
structure Out (lo hi : Nat) (w w' : World) : Prop where
  os : w'.os = w.os
  tape : w'.tape = w.tape
  output : w'.output = w.output
  size : w.heap.size ≤ w'.heap.size
  block : ∀ k, k < w.heap.size → (k < lo ∨ hi ≤ k) → w'.heap[k]? = w.heap[k]?
theorem Out.refl (lo hi : Nat) (w : World) : Out lo hi w w := ⟨rfl, rfl, rfl, Nat.le_refl _, fun _ _ _ => rfl⟩
theorem Out.trans {lo hi : Nat} {a b c : World} (h : Out lo hi a b) (k : Out lo hi b c) : Out lo hi a c :=
  ⟨k.os.trans h.os, k.tape.trans h.tape, k.output.trans h.output, Nat.le_trans h.size k.size, fun i hi' hr => (k.block i (Nat.lt_of_lt_of_le hi' h.size) hr).trans (h.block i hi' hr)⟩
theorem Out.mono {lo hi lo' hi' : Nat} {a b : World} (h : Out lo hi a b) (h1 : lo' ≤ lo) (h2 : hi ≤ hi') : Out lo' hi' a b := ⟨h.os, h.tape, h.output, h.size, fun i hi hr => h.block i hi (by omega)⟩
theorem Out.of_below {lo hi : Nat} {a b : World} (h : Below a.heap.size a b) : Out lo hi a b := ⟨h.os, h.tape, h.output, h.size, fun i hi _ => h.block i hi⟩
theorem Out.setCell {lo hi : Nat} {a w : World} (h : Out lo hi a w) {p : Addr} (h1 : lo ≤ p.block) (h2 : p.block < hi) (u : Value) : Out lo hi a (w.setCell p u) :=
  h.trans (by
    refine ⟨?_, ?_, ?_, ?_, fun k hk hr => Below.heap_setCell _ _ _ _ (by omega)⟩
    all_goals first | rfl | skip
    simp [World.setCell])
theorem Out.below {lo hi : Nat} {a b : World} (h : Out lo hi a b) {B : Nat} (hB : B ≤ lo) (hs : B ≤ a.heap.size) : Below B a b := ⟨h.os, h.tape, h.output, h.size, fun k hk => h.block k (by omega) (by omega)⟩
theorem Out.cell {lo hi : Nat} {a b : World} (h : Out lo hi a b) {p : Addr} (hp : p.block < a.heap.size) (hr : p.block < lo ∨ hi ≤ p.block) : b.cell? p = a.cell? p := World.cell?_of_block (w := a) (h.block p.block hp hr)
theorem owns_out {w w' : World} {lo hi B n : Nat} {v : Value} {e : TypeId} {size : Nat} {xs : List Value} (h : w.ownsRow B e size v n xs) (hb : Out lo hi w w') (hv : ∀ g, v.ownBlock = some g → g < lo ∨ hi ≤ g) : w'.ownsRow B e size v n xs := by
  obtain ⟨h1, h2⟩ := h
  refine ⟨h1, ?_⟩
  rcases h2 with h | ⟨g, cap, cur, h, hg, hh, r⟩
  · exact .inl h
  · refine .inr ⟨g, cap, cur, h, hg, ?_, r⟩
    rw [hb.block g (Array.getElem?_eq_some_iff.1 hh).1 (hv g (by rw [h]; rfl))]
    exact hh
theorem owns_blk {w : World} {B n : Nat} {v : Value} {e : TypeId} {size : Nat} {xs : List Value} (h : w.ownsRow B e size v n xs) {g : Nat} (hg : v.ownBlock = some g) : B ≤ g ∧ g < w.heap.size := by
  rcases h.2 with ⟨h, _⟩ | ⟨g', cap, cur, h, hb, hh, _⟩
  · rw [h] at hg; cases hg
  · rw [h] at hg; cases hg; exact ⟨hb, (Array.getElem?_eq_some_iff.1 hh).1⟩
/-- a row of strings, wherever the call's own slice leads (nil too) -/
theorem strOf_own {w : World} {B n : Nat} {v : Value} {e : TypeId} {ss : List ByteArray} (h : w.ownsRow B e 1 v n (strVs ss)) (hn : n = ss.length) : ∃ a cap, v = .slice a n cap ∧ strOf w a ss ∧ n ≤ cap ∧ (a = none → cap = 0) := by
  rcases h.2 with ⟨hv, h0⟩ | ⟨g, cap, cur, hv, hb, hh, hc, _⟩
  · subst h0
    exact ⟨none, 0, hv, fun hl => by omega, Nat.le_refl _, fun _ => rfl⟩
  · subst hv
    exact ⟨some ⟨g, 0, none⟩, cap, rfl, strOf_owns h, hc, fun h => by cases h⟩

end Go.Proofs.Ytddojjigijfgbaa
namespace Go.Proofs.Ytddojjigijfgbaa
open Go.RowKit Go.BigFrame
set_option linter.unusedVariables false
/-! the draws: a cursor -/
theorem i64_and255 (n : Int) : bits .and .i64 n 255 = n % 256 := by
  have h255 : (BitVec.ofInt 64 255).toNat = 2 ^ 8 - 1 := by decide
  have key : (BitVec.ofInt 64 n &&& BitVec.ofInt 64 255).toNat = (n % ((2 ^ 64 : Nat) : Int)).toNat % 2 ^ 8 := by
    rw [BitVec.toNat_and, BitVec.toNat_ofInt, h255, Nat.and_two_pow_sub_one_eq_mod]
  show IntKind.i64.wrap ((BitVec.ofInt 64 n &&& BitVec.ofInt 64 255).toNat : Nat) = n % 256
  rw [key, IntKind.wrap_i64]
  omega
/-- the bytes of a code -/
def codeAt (w : World) (a : Option Addr) (n d : Nat) : Prop := ∀ j, j < n → ∃ b off x, a = some ⟨b, off, none⟩ ∧ b ≠ d ∧ w.cell? ⟨b, off + j, none⟩ = some (.int .u8 x) ∧ 0 ≤ x ∧ x < 256
/-- a cursor in the block d -/
structure CurAt (w : World) (d : Nat) (a : Option Addr) (n cap : Nat) (i : Nat) (h : Int) : Prop where
  le : i ≤ n
  c0 : w.cell? ⟨d, 0, none⟩ = some (.slice a n cap)
  c1 : w.cell? ⟨d, 1, none⟩ = some (.int .i64 i)
  c2 : w.cell? ⟨d, 2, none⟩ = some (.int .i64 h)
  f1 : w.frozen? ⟨d, 1, none⟩ = false
  f2 : w.frozen? ⟨d, 2, none⟩ = false
  code : codeAt w a n d
theorem CurAt.put2 {w : World} {d : Nat} {a : Option Addr} {n cap i : Nat} {h : Int} (c : CurAt w d a n cap i h) (H : Int) : CurAt (w.setCell ⟨d, 2, none⟩ (.int .i64 H)) d a n cap i H := by
  refine ⟨c.le, ?_, ?_, World.cell?_setCell_same _ _ _ c.c2, ?_, ?_, ?_⟩
  · rw [World.cell?_setCell_other _ _ _ _ (by simp)]; exact c.c0
  · rw [World.cell?_setCell_other _ _ _ _ (by simp)]; exact c.c1
  · rw [World.frozen?_setCell _ _ _ _]; exact c.f1
  · rw [World.frozen?_setCell _ _ _ _]; exact c.f2
  · intro j hj
    obtain ⟨b, off, x, h1, h2, h3, h4⟩ := c.code j hj
    exact ⟨b, off, x, h1, h2, by rw [World.cell?_setCell_other _ _ _ _ (by intro e; injection e with e1; exact h2 e1.symm)]; exact h3, h4⟩
theorem CurAt.put1 {w : World} {d : Nat} {a : Option Addr} {n cap i : Nat} {h : Int} (c : CurAt w d a n cap i h) (k : Nat) (hk : k ≤ n) : CurAt (w.setCell ⟨d, 1, none⟩ (.int .i64 k)) d a n cap k h := by
  refine ⟨hk, ?_, World.cell?_setCell_same _ _ _ c.c1, ?_, ?_, ?_, ?_⟩
  · rw [World.cell?_setCell_other _ _ _ _ (by simp)]; exact c.c0
  · rw [World.cell?_setCell_other _ _ _ _ (by simp)]; exact c.c2
  · rw [World.frozen?_setCell _ _ _ _]; exact c.f1
  · rw [World.frozen?_setCell _ _ _ _]; exact c.f2
  · intro j hj
    obtain ⟨b, off, x, h1, h2, h3, h4⟩ := c.code j hj
    exact ⟨b, off, x, h1, h2, by rw [World.cell?_setCell_other _ _ _ _ (by intro e; injection e with e1; exact h2 e1.symm)]; exact h3, h4⟩
theorem CurAt.drew {w : World} {d : Nat} {a : Option Addr} {n cap i : Nat} {h : Int} (c : CurAt w d a n cap i h) : CurAt w.drew d a n cap i h := ⟨c.le, c.c0, c.c1, c.c2, c.f1, c.f2, c.code⟩
theorem CurAt.lt {w : World} {d : Nat} {a : Option Addr} {n cap i : Nat} {h : Int} (c : CurAt w d a n cap i h) : d < w.heap.size := World.block_lt_of_cell? _ _ c.c0
/-- in a later world whose block d is as it was -/
theorem CurAt.later {w w' : World} {d : Nat} {a : Option Addr} {n cap i : Nat} {h : Int} (c : CurAt w d a n cap i h) (hb : Below w.heap.size w w') : CurAt w' d a n cap i h :=
  ⟨c.le, (hb.cell (p := ⟨d, 0, none⟩) c.lt).trans c.c0, (hb.cell (p := ⟨d, 1, none⟩) c.lt).trans c.c1, (hb.cell (p := ⟨d, 2, none⟩) c.lt).trans c.c2,
    (World.frozen?_of_block (w := w) (a := ⟨d, 1, none⟩) (hb.block d c.lt)).trans c.f1, (World.frozen?_of_block (w := w) (a := ⟨d, 2, none⟩) (hb.block d c.lt)).trans c.f2,
    fun j hj => by
      obtain ⟨b, off, x, h1, h2, h3, h4⟩ := c.code j hj
      exact ⟨b, off, x, h1, h2, (hb.cell (p := ⟨b, off + j, none⟩) (World.block_lt_of_cell? _ _ h3)).trans h3, h4⟩⟩
theorem Out.drew {lo hi : Nat} {a w : World} (h : Out lo hi a w) : Out lo hi a w.drew := h.trans ⟨rfl, rfl, rfl, Nat.le_refl _, fun _ _ _ => rfl⟩
set_option maxHeartbeats 800000 in
theorem l1Byte_any (d n cap i : Nat) (h : Int) (a : Option Addr) (w : World) (hn : n ≤ 1048576) (hc : CurAt w d a n cap i h) :
    Calls Try.prog 47 #[.pointer (some ⟨d, 0, none⟩)] w fun e w' => ∃ (x i' : Nat) (h' : Int), x < 256 ∧ e = .returned (.int .i64 x) ∧ CurAt w' d a n cap i' h' ∧ Out d (d + 1) w w' := by
  have Hcur := hide hc
  obtain ⟨hle, c0, c1, c2, f1, f2, hcode⟩ := hc
  have Hc := hide hcode
  clear hcode
  go_enter Try.func47, Try.ntmps47
  go_wp2
  go_region
  have hX : ∃ k : Nat, k < 256 ∧ bits BinOp.and IntKind.i64 (bits BinOp.xor IntKind.i64 (wrap64 (wrap64 (h * 6364136223846793005) + 1442695040888963407) / 8589934592) (wrap64 (wrap64 (h * 6364136223846793005) + 1442695040888963407) / 140737488355328)) 255 = (k : Int) := ⟨(bits BinOp.xor IntKind.i64 (wrap64 (wrap64 (h * 6364136223846793005) + 1442695040888963407) / 8589934592) (wrap64 (wrap64 (h * 6364136223846793005) + 1442695040888963407) / 140737488355328) % 256).toNat, by omega, by rw [i64_and255]; omega⟩
  obtain ⟨X, hX1, hX2⟩ := hX
  rw [hX2]
  clear hX2
  generalize wrap64 (wrap64 (h * 6364136223846793005) + 1442695040888963407) = H at *
  go_wp2
  go_region
  by_cases hlt : i < n
  · obtain ⟨b, off, x, rfl, hbd, hx, hx0, hx1⟩ := Hc.out i hlt
    go_wp2
    go_region
    go_wp2
    go_ret
    refine ⟨((X + x) % 256).toNat, i + 1, H, by omega, ?_, ((Hcur.out.put2 H).put1 (i + 1) (by omega)).drew.drew.drew, ((((Out.refl d (d + 1) w).setCell (p := ⟨d, 2, none⟩) (Nat.le_refl _) (Nat.lt_succ_self _) _).setCell (p := ⟨d, 1, none⟩) (Nat.le_refl _) (Nat.lt_succ_self _) _).drew.drew.drew)⟩
    show Ending.returned (Value.int .i64 (bits BinOp.and IntKind.i64 (X + x) 255)) = _
    rw [i64_and255]
    exact ret_int (by omega)
  · go_wp2
    go_ret
    exact ⟨X, i, H, hX1, rfl, (Hcur.out.put2 H).drew.drew, ((Out.refl d (d + 1) w).setCell (p := ⟨d, 2, none⟩) (Nat.le_refl _) (Nat.lt_succ_self _) _).drew.drew⟩
def CurIn (w : World) (d : Nat) (a : Option Addr) (n cap : Nat) : Prop := ∃ (i : Nat) (h : Int), CurAt w d a n cap i h
theorem CurIn.later {w w' : World} {d : Nat} {a : Option Addr} {n cap : Nat} (c : CurIn w d a n cap) (hb : Below w.heap.size w w') : CurIn w' d a n cap := by
  obtain ⟨i, h, c⟩ := c
  exact ⟨i, h, c.later hb⟩
theorem CurIn.drew {w : World} {d : Nat} {a : Option Addr} {n cap : Nat} (c : CurIn w d a n cap) : CurIn w.drew d a n cap := by
  obtain ⟨i, h, c⟩ := c
  exact ⟨i, h, c.drew⟩
theorem l1Byte_in (d n cap : Nat) (a : Option Addr) (w : World) (hn : n ≤ 1048576) (hc : CurIn w d a n cap) :
    Calls Try.prog 47 #[.pointer (some ⟨d, 0, none⟩)] w fun e w' => ∃ x : Nat, x < 256 ∧ e = .returned (.int .i64 x) ∧ Hid (CurIn w' d a n cap) ∧ Out d (d + 1) w w' := by
  obtain ⟨i, h, hc⟩ := hc
  exact (l1Byte_any d n cap i h a w hn hc).mono fun e w' ⟨x, i', h', h1, h2, h3, h4⟩ => ⟨x, h1, h2, hide ⟨i', h', h3⟩, h4⟩
set_option maxHeartbeats 800000 in
theorem l1Below_any (d n cap m : Nat) (a : Option Addr) (w : World) (hn : n ≤ 1048576) (hm : m ≤ 1048576) (hc : CurIn w d a n cap) :
    Calls Try.prog 33 #[.pointer (some ⟨d, 0, none⟩), .int .i64 m] w fun e w' => ∃ x : Nat, (0 < m → x < m) ∧ e = .returned (.int .i64 x) ∧ Hid (CurIn w' d a n cap) ∧ Out d (d + 1) w w' := by
  have Hc := hide hc
  clear hc
  go_enter Try.func33, Try.ntmps33
  by_cases h0 : m = 0
  · subst h0
    go_wp2
    go_ret
    exact ⟨0, by omega, rfl, Hc, Out.refl _ _ _⟩
  · by_cases h1 : m ≤ 256
    · go_wp2_with (go_at_call 47; refine (l1Byte_in d n cap a _ hn Hc.out).mono ?_; rintro e w2 ⟨x, hx, rfl, hc2, ho2⟩)
      go_wp2
      go_ret
      refine ⟨x % m, fun _ => Nat.mod_lt _ (by omega), ?_, hc2, ho2⟩
      exact ret_int (by omega)
    · go_wp2_with (go_at_call 47; refine (l1Byte_in d n cap a _ hn Hc.out).mono ?_; rintro e w2 ⟨x, hx, rfl, hc2, ho2⟩)
      go_wp2_with (go_at_call 47; refine (l1Byte_in d n cap a _ hn hc2.out).mono ?_; rintro e w3 ⟨y, hy, rfl, hc3, ho3⟩)
      go_wp2_with (go_at_call 47; refine (l1Byte_in d n cap a _ hn hc3.out).mono ?_; rintro e w4 ⟨z, hz, rfl, hc4, ho4⟩)
      go_wp2
      go_ret
      refine ⟨(x * 65536 + y * 256 + z) % m, fun _ => Nat.mod_lt _ (by omega), ?_, hc4, (ho2.trans ho3).trans ho4⟩
      exact ret_int (by simp only [Int.natCast_emod, Int.natCast_add, Int.natCast_mul]; rfl)
theorem l1Once_any (d n cap m : Nat) (a : Option Addr) (w : World) (hn : n ≤ 1048576) (hm : m ≤ 1048576) (hc : CurIn w d a n cap) :
    Calls Try.prog 31 #[.pointer (some ⟨d, 0, none⟩), .int .i64 m] w fun e w' => ∃ o : Bool, e = .returned (.bool o) ∧ Hid (CurIn w' d a n cap) ∧ Out d (d + 1) w w' := by
  have Hc := hide hc
  clear hc
  go_enter Try.func31, Try.ntmps31
  go_wp2_with (go_at_call 33; refine (l1Below_any d n cap m a _ hn hm Hc.out).mono ?_; rintro e w2 ⟨x, hx, rfl, hc2, ho2⟩)
  go_wp2
  go_ret
  exact ⟨_, rfl, hc2, ho2⟩
set_option maxHeartbeats 800000 in
theorem l1Str_any (d n cap b off sc : Nat) (a : Option Addr) (ss : List ByteArray) (w : World) (hn : n ≤ 1048576) (hl : ss.length ≤ 1048576) (h0 : 0 < ss.length) (hc : CurIn w d a n cap) (hs : strAt w b off ss) (hbd : b ≠ d) :
    Calls Try.prog 15 #[.pointer (some ⟨d, 0, none⟩), .slice (some ⟨b, off, none⟩) ss.length sc] w fun e w' => ∃ s, s ∈ ss ∧ e = .returned (.string s) ∧ Hid (CurIn w' d a n cap) ∧ Out d (d + 1) w w' := by
  have Hc := hide hc
  have Hs := hide hs
  clear hc hs
  go_enter Try.func15, Try.ntmps15
  go_wp2_with (go_at_call 33; refine (l1Below_any d n cap ss.length a _ hn hl (by first | exact Hc.out | exact Hc.out.drew)).mono ?_; rintro e w2 ⟨x, hx, rfl, hc2, ho2⟩; have hx' := hx h0; have hq := (ho2.cell (p := ⟨b, off + x, none⟩) (World.block_lt_of_cell? _ _ (Hs.out x hx')) (by show b < d ∨ d + 1 ≤ b; omega)).trans (Hs.out x hx'))
  go_wp2
  go_ret
  exact ⟨_, List.getElem_mem _, rfl, hc2, ho2⟩
end Go.Proofs.Ytddojjigijfgbaa
namespace Go.Proofs.Ytddojjigijfgbaa
open Go.RowKit Go.BigFrame
set_option linter.unusedVariables false
/-- the names that are drawn -/
def drawnNames : List ByteArray := [⟨#[97]⟩, ⟨#[98]⟩, ⟨#[99]⟩, ⟨#[122, 111, 110, 101]⟩, ⟨#[116, 105, 101, 114]⟩, ⟨#[103, 111, 108, 100]⟩, ⟨#[101, 97, 115, 116]⟩, ⟨#[120, 45, 49]⟩, ⟨#[97, 98, 99, 100, 101, 102, 103, 104, 105, 106, 107, 108, 109, 110, 111, 112, 113, 114, 115, 116]⟩]
def drawnOdd : List ByteArray := [⟨#[]⟩, ⟨#[45, 97]⟩, ⟨#[97, 45]⟩, ⟨#[65]⟩, ⟨#[97, 32, 98]⟩, ⟨#[97, 98, 99, 100, 101, 102, 103, 104, 105, 106, 107, 108, 109, 110, 111, 112, 113, 114, 115, 116, 117]⟩, ⟨#[255]⟩, ⟨#[97, 61, 98]⟩]
theorem strAt_lit (w : World) (t : TypeId) (ss : List ByteArray) : strAt (w.alloc (.cells (ss.map Value.string).toArray t)) w.heap.size 0 ss := by
  intro i hi
  refine (World.cell?_alloc_at _ _ _ _ rfl).trans ?_
  simp [hi]
theorem l1Str_lit (d n cap : Nat) (a : Option Addr) (ss : List ByteArray) (w : World) (hn : n ≤ 1048576) (hl : ss.length ≤ 1048576) (h0 : 0 < ss.length) (hd : d < w.heap.size) (hc : CurIn w d a n cap) :
    Calls Try.prog 15 #[.pointer (some ⟨d, 0, none⟩), .slice (some ⟨w.heap.size, 0, none⟩) ss.length ss.length] (w.alloc (.cells (ss.map Value.string).toArray 9)) fun e w' => ∃ s, s ∈ ss ∧ e = .returned (.string s) ∧ Hid (CurIn w' d a n cap) ∧ Out d (d + 1) w w' :=
  (l1Str_any d n cap w.heap.size 0 ss.length a ss _ hn hl h0 (hc.later ((Below.refl _ _).alloc (Nat.le_refl _) _)) (strAt_lit w 9 ss) (by omega)).mono fun e w' ⟨s, h1, h2, h3, h4⟩ => ⟨s, h1, h2, h3, (Out.of_below ((Below.refl _ _).alloc (Nat.le_refl _) _)).trans h4⟩
theorem CurIn.lt {w : World} {d : Nat} {a : Option Addr} {n cap : Nat} (c : CurIn w d a n cap) : d < w.heap.size := by
  obtain ⟨i, h, c⟩ := c
  exact c.lt
end Go.Proofs.Ytddojjigijfgbaa
namespace Go.Proofs.Ytddojjigijfgbaa
open Go.RowKit Go.BigFrame
set_option linter.unusedVariables false
set_option maxRecDepth 40000
theorem frozen_new (wr : World) (c : Array Value) (t : TypeId) (i : Nat) : (wr.alloc (.cells c t)).frozen? ⟨wr.heap.size, i, none⟩ = false := by
  have e : (wr.alloc (.cells c t)).heap[wr.heap.size]? = some (.cells c t) := Array.getElem?_push_size
  unfold World.frozen?
  simp only [e]
  simp
theorem curNew {w wr : World} {n cap : Nat} {a : Option Addr} (H : Int) (t : TypeId) (hc : codeAt w a n w.heap.size) (hb : Below w.heap.size w wr) : CurIn (wr.alloc (.cells #[.slice a n cap, .int .i64 0, .int .i64 H] t)) wr.heap.size a n cap := by
  refine ⟨0, H, Nat.zero_le _, (World.cell?_alloc_at _ _ _ _ rfl).trans rfl, (World.cell?_alloc_at _ _ _ _ rfl).trans rfl, (World.cell?_alloc_at _ _ _ _ rfl).trans rfl, ?_, ?_, ?_⟩
  · exact frozen_new _ _ _ _
  · exact frozen_new _ _ _ _
  · intro j hj
    obtain ⟨b, off, x, h1, h2, h3, h4⟩ := hc j hj
    have hlt := World.block_lt_of_cell? _ _ h3
    have hs := hb.size
    exact ⟨b, off, x, h1, by simp only at hlt; omega, ((hb.alloc hb.size _).cell (p := ⟨b, off + j, none⟩) hlt).trans h3, h4⟩
set_option maxHeartbeats 800000 in
theorem l1New_any (n cap : Nat) (a : Option Addr) (w : World) (hn : n ≤ 1048576) (hc : codeAt w a n w.heap.size) :
    Calls Try.prog 12 #[.slice a n cap] w fun e w' => ∃ d, w.heap.size ≤ d ∧ e = .returned (.pointer (some ⟨d, 0, none⟩)) ∧ Hid (CurIn w' d a n cap) ∧ Below w.heap.size w w' := by
  have Hc := hide hc
  clear hc
  go_enter Try.func12, Try.ntmps12
  go_wp2
  go_loopw [3, 4] (fun h i wr => ∃ (k : Nat) (H : Int), k ≤ n ∧ i = .int .i64 k ∧ h = .int .i64 H ∧ Below w.heap.size w wr) (fun _ i _ => n - (intOf i).toNat)
  case atStart => exact ⟨0, _, Nat.zero_le _, rfl, rfl, Below.refl _ _⟩
  case round =>
    obtain ⟨k, H, hk, rfl, rfl, hbw⟩ := hrel
    by_cases hlt : k < n ∧ k < 4000
    · obtain ⟨hlt, h4⟩ := hlt
      obtain ⟨b, off, x, rfl, hbd, hx, hx0, hx1⟩ := Hc.out k hlt
      have hx' := (hbw.cell (p := ⟨b, off + k, none⟩) (World.block_lt_of_cell? _ _ hx)).trans hx
      go_wp2
      go_roundw
      case rel => exact ⟨k + 1, _, by omega, by go_num, rfl, by repeat (first | exact hbw | refine Below.drew ?_ | refine below_drewN ?_ _)⟩
      case measure => simp [intOf]; omega
    · have e : k = n ∨ 4000 ≤ k := by omega
      go_wp2
      all_goals (
        go_ret
        exact ⟨_, hbw.size, rfl, hide (curNew H _ Hc.out hbw), hbw.alloc hbw.size _⟩)
end Go.Proofs.Ytddojjigijfgbaa
namespace Go.Proofs.Ytddojjigijfgbaa
open Go.RowKit Go.BigFrame
set_option linter.unusedVariables false
/-! numbers that are drawn -/
def numAt (w : World) (b n : Nat) : Prop := ∀ j, j < n → ∃ x : Int, w.cell? ⟨b, j, none⟩ = some (.int .i64 x)
set_option maxHeartbeats 800000 in
theorem l1Int_any (d n cap b k sc : Nat) (a : Option Addr) (w : World) (hn : n ≤ 1048576) (hl : k ≤ 1048576) (h0 : 0 < k) (hc : CurIn w d a n cap) (hs : numAt w b k) (hbd : b ≠ d) :
    Calls Try.prog 46 #[.pointer (some ⟨d, 0, none⟩), .slice (some ⟨b, 0, none⟩) k sc] w fun e w' => ∃ x : Int, e = .returned (.int .i64 x) ∧ Hid (CurIn w' d a n cap) ∧ Out d (d + 1) w w' := by
  have Hc := hide hc
  have Hs := hide hs
  clear hc hs
  go_enter Try.func46, Try.ntmps46
  go_wp2_with (go_at_call 33; refine (l1Below_any d n cap k a _ hn hl (by first | exact Hc.out | exact Hc.out.drew)).mono ?_; rintro e w2 ⟨x, hx, rfl, hc2, ho2⟩; have hx' := hx h0; obtain ⟨v, hv⟩ := Hs.out x hx'; have hq := (ho2.cell (p := ⟨b, x, none⟩) (World.block_lt_of_cell? _ _ hv) (by show b < d ∨ d + 1 ≤ b; omega)).trans hv)
  go_wp2
  go_ret
  exact ⟨_, rfl, hc2, ho2⟩
theorem numNew (w : World) (cs : Array Value) (t : TypeId) (h : ∀ v ∈ cs.toList, ∃ x : Int, v = .int .i64 x) : numAt (w.alloc (.cells cs t)) w.heap.size cs.size := by
  intro j hj
  have h' : j < cs.toList.length := by simpa using hj
  obtain ⟨x, hx⟩ := h (cs.toList[j]'h') (List.getElem_mem h')
  refine ⟨x, (World.cell?_alloc_at _ _ _ _ rfl).trans ?_⟩
  rw [Array.getElem?_eq_getElem hj]
  exact congrArg some hx
theorem l1Int_new (d n cap : Nat) (a : Option Addr) (cs : Array Value) (t : TypeId) (w : World) (hn : n ≤ 1048576) (hl : cs.size ≤ 1048576) (h0 : 0 < cs.size) (h : ∀ v ∈ cs.toList, ∃ x : Int, v = .int .i64 x) (hc : CurIn w d a n cap) :
    Calls Try.prog 46 #[.pointer (some ⟨d, 0, none⟩), .slice (some ⟨w.heap.size, 0, none⟩) cs.size cs.size] (w.alloc (.cells cs t)) fun e w' => ∃ x : Int, e = .returned (.int .i64 x) ∧ Hid (CurIn w' d a n cap) ∧ Out d (d + 1) w w' :=
  (l1Int_any d n cap w.heap.size cs.size cs.size a _ hn hl h0 (hc.later ((Below.refl _ _).alloc (Nat.le_refl _) _)) (numNew w cs t h) (by have := hc.lt; omega)).mono fun e w' ⟨x, h1, h2, h3⟩ => ⟨x, h1, h2, (Out.of_below ((Below.refl _ _).alloc (Nat.le_refl _) _)).trans h3⟩
end Go.Proofs.Ytddojjigijfgbaa
