/- Queues: the specification's Take. -/
import Derived.Test.YtpmhmcekkppbhaaQfU
import Derived.Test.YtpmhmcekkppbhaaQfW
namespace Go.Proofs.Ytpmhmcekkppbhaa
open Go.RowKit Go.BigFrame
set_option linter.unusedVariables false

theorem takeQ_none {Q : Qu} (h : ∀ j (hj : j < Q.I.length), Q.now < (Q.I[j]'hj).2.1) : takeQ Q = (Q, ⟨#[]⟩, false) := by
  have := rdy_none (fun j hj => Int.not_le.2 (h j hj))
  unfold takeQ takeC
  split
  · rw [dif_neg (by omega)]
  · rfl
theorem takeQ_bad {Q : Qu} (h : qOk Q = false) : takeQ Q = (Q, ⟨#[]⟩, false) := if_neg (fun g => by rw [h] at g; cases g)
theorem takeQ_full {Q : Qu} (h : ¬ Q.D.length < 60) : takeQ Q = (Q, ⟨#[]⟩, false) := by
  unfold takeQ takeC
  split
  · rename_i hq
    have := (qOk_iff.1 hq).2.1
    split
    · rw [if_pos (by omega)]
    · rfl
  · rfl
theorem takeQ_hit {Q : Qu} {q : Nat} (h : q < Q.I.length) (ho : qOk Q = true) (hd : Q.D.length < 60) (hr : (Q.I[q]'h).2.1 ≤ Q.now) (hn : ∀ j (hj : j < Q.I.length), j < q → Q.now < (Q.I[j]'hj).2.1) : takeQ Q = ({ Q with I := dropAt Q.I q, D := Q.D ++ [((Q.I[q]'h).1, 0, (Q.I[q]'h).2.2)] }, (Q.I[q]'h).1, true) := by
  have e : rdyN Q.I Q.now = q := (rdy_at h).2 ⟨hr, fun j hj => Int.not_le.2 (hn j (by omega) hj)⟩
  subst e
  unfold takeQ
  rw [if_pos ho]
  unfold takeC
  rw [dif_pos h, if_neg (by omega)]
theorem QB.cutI {w0 w' : World} {b base : Nat} {Q : Qu} {L : List It} {v vI vD vA : Value} (h : QB w0 b base Q vI vD vA) (ho : objU w' b 66 [v, vD, vA, .int .i64 Q.now]) (hv : ownR w' w0.heap.size 75 3 v (L.map encI)) (hO : OutS [b] w0 w') (hbs : base ≤ w0.heap.size) : QB w' b base { Q with I := L } v vD vA :=
  ⟨ho, ⟨hv.mono hbs, h.q.d.apart hO (fun g hg hh => h.nd (by simp at hg; exact hg ▸ hh)), h.q.a.apart hO (fun g hg hh => h.na (by simp at hg; exact hg ▸ hh)), fun g hg hh => by have := (hv.lt g hg).1; have := (h.q.d.lt g hh).2; omega, fun g hg hh => by have := (hv.lt g hg).1; have := (h.q.a.lt g hh).2; omega, h.q.da⟩, fun hh => by have := (hv.lt _ hh).1; have := h.lt; omega, h.nd, h.na⟩
theorem QB.cutD {w0 w' : World} {b base : Nat} {Q : Qu} {L : List It} {v vI vD vA : Value} (h : QB w0 b base Q vI vD vA) (ho : objU w' b 66 [vI, v, vA, .int .i64 Q.now]) (hv : ownR w' w0.heap.size 75 3 v (L.map encI)) (hO : OutS [b] w0 w') (hbs : base ≤ w0.heap.size) : QB w' b base { Q with D := L } vI v vA :=
  ⟨ho, ⟨h.q.i.apart hO (fun g hg hh => h.ni (by simp at hg; exact hg ▸ hh)), hv.mono hbs, h.q.a.apart hO (fun g hg hh => h.na (by simp at hg; exact hg ▸ hh)), fun g hg hh => by have := (hv.lt g hh).1; have := (h.q.i.lt g hg).2; omega, h.q.ia, fun g hg hh => by have := (hv.lt g hg).1; have := (h.q.a.lt g hh).2; omega⟩, h.ni, fun hh => by have := (hv.lt _ hh).1; have := h.lt; omega, h.na⟩
/-- what the operations yield: N the start's size, box and out the blocks, c the slice that came in, L its items -/
def FC (w0 : World) (N box j : Nat) (b : Nat) (L : List It) (k : Nat) (a : Option Addr) (cap : Nat) (A : Option Addr) (CS : Value → List Value) : Nat → (Nat → Nat) → Value → World → Prop
  | 0, γ, v, w => ∃ g, v = .slice (some ⟨g, 0, none⟩) 0 0 ∧ ownR w N 75 3 v []
  | 1, γ, v, w => v = .pointer (some ⟨box, j, none⟩)
  | 6, γ, v, w => v = .pointer (some ⟨box, j, none⟩)
  | 2, γ, v, w => v = .slice a L.length cap
  | 7, γ, v, w => v = .slice a L.length cap
  | 3, γ, v, w => v = .int .i64 k
  | 8, γ, v, w => v = .int .i64 k
  | 9, γ, v, w => v = .int .i64 ((k + 1 : Nat) : Int)
  | 4, γ, v, w => v = .slice a k cap
  | 10, γ, v, w => v = .slice A (L.length - (k + 1)) (cap - (k + 1))
  | 5, γ, v, w => ownR w N 75 3 v ((L.take k).map encI)
  | 11, γ, v, w => ownR w N 75 3 v ((dropAt L k).map encI)
  | 12, γ, v, w => v = .pointer (some ⟨b, j, none⟩)
  | 13, γ, v, w => ∃ u, objU w b 66 (CS u) ∧ ownR w N 75 3 u ((dropAt L k).map encI) ∧ OutS [b] w0 w
  | _, _, _, _ => False
def FR9 (hs ib : Nat) (C : List Value) (s : ByteArray) : Nat → (Nat → Nat) → Value → World → Prop
  | 0, γ, v, w => v = .agg C.toArray
  | 1, γ, v, w => v = .pointer (some ⟨ib, 0, none⟩)
  | 2, γ, v, w => v = .string s
  | 3, γ, v, w => objU w (hs + 1) 66 C
  | 4, γ, v, w => v = .string s
  | 5, γ, v, w => v = .bool true
  | _, _, _, _ => False
set_option maxRecDepth 20000 in
set_option maxHeartbeats 3200000 in
theorem sTake_any (Q : Qu) (xs : List Value) (w : World) (hq : okQ Q) (hx : rdQ w Q xs) :
    Calls Try.prog 40 #[.agg xs.toArray] w fun e w' => ∃ vI vD vA, e = .returned (.tuple #[.agg #[vI, vD, vA, .int .i64 (takeQ Q).1.now], .string (takeQ Q).2.1, .bool (takeQ Q).2.2]) ∧ ownQ w' w.heap.size (takeQ Q).1 vI vD vA ∧ Below w.heap.size w w' := by
  have hxx := hx
  obtain ⟨cI, cD, cA, rfl, hI, hD, hA⟩ := hx
  have l1 := hq.1.1
  have l2 := hq.2.1.1
  have l3 := hq.2.2.1.1
  obtain ⟨aI, pI, rfl, -, -⟩ := hI.itS
  obtain ⟨aD, pD, rfl, -, -⟩ := hD.itS
  obtain ⟨aA, pA, rfl, -, -⟩ := hA.stS
  have HX := hide hxx
  have HK := hide hq
  have HI := hide hI
  have HD := hide hD
  have HA := hide hA
  clear hI hD hA hxx hq
  have HCP : Hid (∀ wx, Below w.heap.size w wx → Calls Try.prog 92 #[.agg #[.slice aI Q.I.length pI, .slice aD Q.D.length pD, .slice aA Q.A.length pA, .int .i64 Q.now]] wx fun e w' => ∃ vI vD vA, e = .returned (.agg #[vI, vD, vA, .int .i64 Q.now]) ∧ ownQ w' wx.heap.size Q vI vD vA ∧ Below wx.heap.size wx w') := fun wx hb => l9Copy_N Q _ wx HK.out (HX.out.below hb)
  have HOK : Hid (∀ wx, Below w.heap.size w wx → Calls Try.prog 35 #[.agg #[.slice aI Q.I.length pI, .slice aD Q.D.length pD, .slice aA Q.A.length pA, .int .i64 Q.now]] wx fun e w' => e = .returned (.bool (qOk Q)) ∧ Below wx.heap.size wx w') := fun wx hb => sQueueOk_any Q _ wx HK.out (HX.out.below hb)
  obtain ⟨w0, ew0⟩ : ∃ w0, w0 = ((w.alloc (.cells #[.slice aI Q.I.length pI, .slice aD Q.D.length pD, .slice aA Q.A.length pA, .int .i64 Q.now] 66)).alloc (.cells #[.slice none 0 0, .slice none 0 0, .slice none 0 0, .int .i64 0] 66)) := ⟨_, rfl⟩
  have BX : Hid (Below w.heap.size w w0) := by show Below _ _ _; rw [ew0]; exact ((Below.refl _ _).alloc (Nat.le_refl _) _).alloc (by simp) _
  have OX : Hid (objU w0 w.heap.size 66 [.slice aI Q.I.length pI, .slice aD Q.D.length pD, .slice aA Q.A.length pA, .int .i64 Q.now]) := by show objU _ _ _ _; rw [ew0]; exact (objU.new _ _ _).old _
  have OZ : Hid (objU w0 (w.heap.size + 1) 66 [.slice none 0 0, .slice none 0 0, .slice none 0 0, .int .i64 0]) := by show objU _ _ _ _; rw [ew0]; exact objU.new2 _ _ (by simp)
  have SZ : Hid (w0.heap.size = w.heap.size + 2) := by show _ = _; rw [ew0]; simp
  have EW := hide ew0
  clear ew0
  go_enter Try.func40, Try.ntmps40
  go_wp2_with fail
  refine (HCP.out _ (EW.out ▸ BX.out)).mono ?_
  rintro e w1 ⟨vI, vD, vA, rfl, ho, hb⟩
  replace ho : ownQ w1 (w.heap.size + 2) Q vI vD vA := by have h := ho; rw [← SZ.out, EW.out]; exact h
  replace hb : Below w0.heap.size w0 w1 := by have h := hb; rw [EW.out]; exact h
  have HO := hide ho
  have OX1 := hide (OX.out.below hb)
  have OZ1 := hide (OZ.out.below hb)
  have B1 : Hid (Below w.heap.size w w1) := BX.out.trans (hb.mono BX.out.size)
  have S1 : Hid (w.heap.size + 2 ≤ w1.heap.size) := by show _ ≤ _; rw [← SZ.out]; exact hb.size
  obtain ⟨b1, c1, rfl⟩ := ho.i.itS
  obtain ⟨b2, c2, rfl⟩ := ho.d.itS
  obtain ⟨b3, c3, rfl⟩ := ho.a.stS
  have x0 := OX1.out.cell 0 _ rfl
  have x1 := OX1.out.cell 1 _ rfl
  have x2 := OX1.out.cell 2 _ rfl
  have x3 := OX1.out.cell 3 _ rfl
  have hBl := OX1.out.lt
  clear ho hb OX OZ BX SZ EW HCP x0 x1 x2 x3 hBl
  have HX1 : Hid (Below w.heap.size w (w1.alloc (.cells #[.slice b1 Q.I.length c1, .slice b2 Q.D.length c2, .slice b3 Q.A.length c3, .int .i64 Q.now] 66))) := B1.out.alloc B1.out.size _
  have OXB := hide (OX1.out.old (.cells #[.slice b1 Q.I.length c1, .slice b2 Q.D.length c2, .slice b3 Q.A.length c3, .int .i64 Q.now] 66))
  have OZB := hide (OZ1.out.old (.cells #[.slice b1 Q.I.length c1, .slice b2 Q.D.length c2, .slice b3 Q.A.length c3, .int .i64 Q.now] 66))
  have HQB : Hid (QB (w1.alloc (.cells #[.slice b1 Q.I.length c1, .slice b2 Q.D.length c2, .slice b3 Q.A.length c3, .int .i64 Q.now] 66)) w1.heap.size (w.heap.size + 2) Q (.slice b1 Q.I.length c1) (.slice b2 Q.D.length c2) (.slice b3 Q.A.length c3)) := ⟨objU.new _ _ _, HO.out.below (below_alloc _ _), (fun h => by have := (HO.out.i.lt _ h).2; omega), (fun h => by have := (HO.out.d.lt _ h).2; omega), (fun h => by have := (HO.out.a.lt _ h).2; omega)⟩
  have hS1 := S1.out
  have HBD := hide (@takeQ_bad Q)
  have HHT := hide (fun q h => @takeQ_hit Q q h)
  have HEI := hide elI
  have HCI : Hid (Q.I.length ≤ pI) := by
    obtain ⟨a', c', e, h2, -, -⟩ := HI.out
    injection e with e1 e2 e3
    rw [e3]
    rw [List.length_map] at h2
    exact h2
  generalize qOk Q = ok at *
  go_wp2
  generalize (w1.alloc (.cells #[.slice b1 Q.I.length c1, .slice b2 Q.D.length c2, .slice b3 Q.A.length c3, .int .i64 Q.now] 66)) = wB at *
  clear OX1 OZ1 B1 HO
  go_loopw [6] (fun i wr => ∃ (q : Nat), q ≤ Q.I.length ∧ i = .int .i64 q ∧ Hid (∀ j (h : j < Q.I.length), j < q → Q.now < (Q.I[j]'h).2.1) ∧ Hid (Below wB.heap.size wB wr)) (fun i _ => Q.I.length - (intOf i).toNat)
  case atStart => exact ⟨0, Nat.zero_le _, rfl, (fun j _ h => by omega), Below.refl _ _⟩
  case round =>
    obtain ⟨q, hq, rfl, Ho, Hb⟩ := hrel
    have hq0 : (0 : Int) ≤ (q : Int) := Int.natCast_nonneg _
    have OXr := hide (OXB.out.below Hb.out)
    have OZr := hide (OZB.out.below Hb.out)
    have HQr := hide (HQB.out.below Hb.out)
    have Br : Hid (Below w.heap.size w wr) := HX1.out.trans (Hb.out.mono HX1.out.size)
    have x0 := OXr.out.cell 0 _ rfl
    have x1 := OXr.out.cell 1 _ rfl
    have x2 := OXr.out.cell 2 _ rfl
    have x3 := OXr.out.cell 3 _ rfl
    by_cases hlt : q < Q.I.length
    · have hlt' : (q : Int) < (Q.I.length : Int) := by omega
      go_wp2_with fail
      refine (HOK.out _ Br.out).mono ?_
      rintro e w3 ⟨rfl, hb3⟩
      clear x0 x1 x2 x3
      have OX3 := hide (OXr.out.below hb3)
      have OZ3 := hide (OZr.out.below hb3)
      have HQ3 := hide (HQr.out.below hb3)
      have B3 : Hid (Below w.heap.size w w3) := Br.out.trans (hb3.mono Br.out.size)
      have Hb3 : Hid (Below wB.heap.size wB w3) := Hb.out.trans (hb3.mono Hb.out.size)
      have OB3 := hide HQ3.out.o
      have x0 := OX3.out.cell 0 _ rfl
      have x1 := OX3.out.cell 1 _ rfl
      have x3 := OX3.out.cell 3 _ rfl
      clear hb3 OXr OZr HQr Br Hb HOK
      cases ok with
      | false =>
        have HR := hide (HBD.out (by first | rfl | trivial))
        clear HBD HHT Ho
        have u0 := HQ3.out.o.cell 0 _ rfl
        have u1 := HQ3.out.o.cell 1 _ rfl
        have u2 := HQ3.out.o.cell 2 _ rfl
        have u3 := HQ3.out.o.cell 3 _ rfl
        have z0 := OZ3.out.cell 0 _ rfl
        have z1 := OZ3.out.cell 1 _ rfl
        have z2 := OZ3.out.cell 2 _ rfl
        have z3 := OZ3.out.cell 3 _ rfl
        have g0 := OZ3.out.fz 0
        have g1 := OZ3.out.fz 1
        have g2 := OZ3.out.fz 2
        have g3 := OZ3.out.fz 3
        have HOU : Hid (OutS [w.heap.size + 1] w3 ((((w3.setCell ⟨w.heap.size + 1, 0, none⟩ (.slice b1 Q.I.length c1)).setCell ⟨w.heap.size + 1, 1, none⟩ (.slice b2 Q.D.length c2)).setCell ⟨w.heap.size + 1, 2, none⟩ (.slice b3 Q.A.length c3)).setCell ⟨w.heap.size + 1, 3, none⟩ (.int .i64 Q.now))) := by
          show OutS _ _ _
          repeat (first | with_reducible exact OutS.refl _ _ | with_reducible refine OutS.setCell ?_ (show _ ∈ [w.heap.size + 1] by simp) _)
        go_wp2
        refine bodyPost_ret (v := .tuple #[.agg #[.slice b1 Q.I.length c1, .slice b2 Q.D.length c2, .slice b3 Q.A.length c3, .int .i64 Q.now], .string ⟨#[]⟩, .bool false]) ?_ rfl ⟨_, _, _, by rw [HR.out], by rw [HR.out]; exact QO.mono (HQ3.out.q.outS HOU.out (fun t ht => by simp at ht; omega)) (by omega), B3.out.trans (HOU.out.below (fun t ht => by simp at ht; omega) B3.out.size)⟩
        simp [results, Try.results40, go_sem, z0, z1, z2, z3]
      | true =>
        by_cases h60 : Q.D.length < 60
        · have h60' : (Q.D.length : Int) < 60 := by omega
          obtain ⟨bq, oq, rfl, hbq, c0, c1', c2'⟩ := (HI.out.below B3.out).itAt hlt
          have Hye : Hid (Q.now < (Q.I[q]'hlt).2.1 → ∀ j (h : j < Q.I.length), j < q + 1 → Q.now < (Q.I[j]'h).2.1) := fun h j hj hjq => by
            by_cases e : j = q
            · subst e; exact h
            · exact Ho.out j hj (by omega)
          have Hit : Hid ((Q.I[q]'hlt).2.1 ≤ Q.now → takeQ Q = ({ Q with I := dropAt Q.I q, D := Q.D ++ [((Q.I[q]'hlt).1, 0, (Q.I[q]'hlt).2.2)] }, (Q.I[q]'hlt).1, true)) := fun h => HHT.out q hlt (by first | rfl | trivial) h60 h Ho.out
          clear HBD HHT Ho
          generalize Q.I[q]'hlt = y at *
          have OI4 : Hid (objU (w3.alloc (.cells #[.string y.1, .int .i64 y.2.1, .int .i64 y.2.2] 75)) w3.heap.size 75 [.string y.1, .int .i64 y.2.1, .int .i64 y.2.2]) := objU.new _ _ _
          have OX4 := hide (OX3.out.old (.cells #[.string y.1, .int .i64 y.2.1, .int .i64 y.2.2] 75))
          have OZ4 := hide (OZ3.out.old (.cells #[.string y.1, .int .i64 y.2.1, .int .i64 y.2.2] 75))
          have HQ4 := hide (HQ3.out.below (below_alloc w3 (.cells #[.string y.1, .int .i64 y.2.1, .int .i64 y.2.2] 75)))
          have OB4 := hide HQ4.out.o
          have B4 : Hid (Below w.heap.size w (w3.alloc (.cells #[.string y.1, .int .i64 y.2.1, .int .i64 y.2.2] 75))) := B3.out.alloc B3.out.size _
          have Hb4 : Hid (Below wB.heap.size wB (w3.alloc (.cells #[.string y.1, .int .i64 y.2.1, .int .i64 y.2.2] 75))) := Hb3.out.alloc Hb3.out.size _
          have hi4 : Hid (w1.heap.size < w3.heap.size) := OB3.out.lt
          have hBl3 := OX3.out.lt
          have hS3 : Hid (w3.heap.size < (w3.alloc (.cells #[.string y.1, .int .i64 y.2.1, .int .i64 y.2.2] 75)).heap.size) := by show _ < _; simp
          by_cases hrd : y.2.1 ≤ Q.now
          · have HR := hide (Hit.out hrd)
            have HND3 : Hid (∀ g ∈ blkOf (.slice b2 Q.D.length c2), g < w3.heap.size) := fun g hg => (HQ3.out.q.d.lt g hg).2
            clear Hit Hye OX3 OZ3 HQ3 B3 Hb3 OB3 OXB OZB HQB Hb4
            go_wp2
            generalize w3.alloc (.cells #[.string y.1, .int .i64 y.2.1, .int .i64 y.2.2] 75) = w4 at *
            clear c0 c1' c2' x0 x1 x3
            have HND : Hid (w3.heap.size ∉ blkOf (.slice b2 Q.D.length c2)) := fun hh => by have := (HND3.out _ hh); omega
            have hk0 := hq0
            have hkc : q ≤ pI := by have := HCI.out; omega
            have hk1n : q + 1 ≤ Q.I.length := hlt
            have hnc : Q.I.length ≤ pI := HCI.out
            have hw : IntKind.i64.wrap ((q : Int) + 1) = (q : Int) + 1 := uwrap64 _ (by omega) (by omega)
            have hk1p : (0 : Int) ≤ (q : Int) + 1 := by omega
            have hk1q : ¬ ((Q.I.length : Int) < (q : Int) + 1) := by omega
            obtain ⟨A, hA⟩ : ∃ A : Option Addr, A = if pI = q + 1 then some ⟨bq, oq, none⟩ else some ⟨bq, oq + (q + 1) * 3, none⟩ := ⟨_, rfl⟩
            have HAA := hide hA
            clear hA
            refine wp_region_inv2 (fun i => if i = 11 then Below w4.heap.size else if i = 13 then OutS [w1.heap.size] else fun u v => Below u.heap.size u v) (fun i => if i = 0 then some 11 else if i = 5 then some 11 else none) 13 (by decide)
              (fun c wn => (c = false → Below w4.heap.size w4 wn) ∧ w4.heap.size ≤ wn.heap.size) (FC w4 w4.heap.size w.heap.size 0 w1.heap.size Q.I q (some ⟨bq, oq, none⟩) pI A (fun u => [u, .slice b2 Q.D.length c2, .slice b3 Q.A.length c3, .int .i64 Q.now])) (by kernel_rfl) (by kernel_rfl) (by kernel_rfl) ?hF7 ?hU7 ?hG7 ?hstep7 ?hend7
            case hF7 =>
              intro i j γ γ' v wa wb hij hsp hnd hsd h hfr
              have ho := hfr.out
              match j, h with
              | 0, ⟨g2, h1, h2⟩ =>
                rw [if_neg (fun e => hsp (by simp [e]))] at ho
                by_cases e : i = 13
                · rw [if_pos e] at ho
                  subst e
                  cases ((hsd 11 rfl).symm.trans (by kernel_rfl) : false = true)
                · rw [if_neg e] at ho
                  exact ⟨g2, h1, h2.below ho⟩
              | 1, h => exact h
              | 2, h => exact h
              | 3, h => exact h
              | 4, h => exact h
              | 5, h =>
                rw [if_neg (fun e => hsp (by simp [e]))] at ho
                by_cases e : i = 13
                · rw [if_pos e] at ho
                  subst e
                  cases ((hsd 11 rfl).symm.trans (by kernel_rfl) : false = true)
                · rw [if_neg e] at ho
                  exact h.below ho
              | 6, h => exact h
              | 7, h => exact h
              | 8, h => exact h
              | 9, h => exact h
              | 10, h => exact h
              | 11, h =>
                rw [if_neg hij] at ho
                by_cases e : i = 13
                · rw [if_pos e] at ho
                  exact h.frame (fun x hx => ho.block x (h.lt x hx).2 (fun hh => by simp at hh; have := (h.lt x hx).1; have := OB4.out.lt; omega))
                · rw [if_neg e] at ho
                  exact h.below ho
              | 12, h => exact h
              | 13, ⟨u, h1, h2, h3⟩ =>
                by_cases e : i = 11
                · subst e; cases (hnd.symm.trans (by kernel_rfl) : false = true)
                · rw [if_neg e, if_neg hij] at ho
                  exact ⟨u, h1.below ho, h2.below ho, h3.trans (OutS.of_below ho)⟩
              | j + 14, h => exact h.elim
            case hU7 =>
              intro i o hi hd γ v wa h
              match i, hi with
              | 0, hi => (injection hi with hi; subst hi; cases hd)
              | 1, hi => (injection hi with hi; subst hi; cases hd)
              | 2, hi => (injection hi with hi; subst hi; cases hd)
              | 3, hi => (injection hi with hi; subst hi; cases hd)
              | 4, hi => (injection hi with hi; subst hi; cases hd)
              | 5, hi => (injection hi with hi; subst hi; cases hd)
              | 6, hi => (injection hi with hi; subst hi; cases hd)
              | 7, hi => (injection hi with hi; subst hi; cases hd)
              | 8, hi => (injection hi with hi; subst hi; cases hd)
              | 9, hi => (injection hi with hi; subst hi; cases hd)
              | 10, hi => (injection hi with hi; subst hi; cases hd)
              | 11, hi => (injection hi with hi; subst hi; cases hd)
              | 12, hi => (injection hi with hi; subst hi; cases hd)
              | 13, hi => exact h
              | i + 14, hi => cases hi
            case hG7 => exact ⟨fun _ => Below.drew (Below.refl _ _), Nat.le_refl _⟩
            case hstep7 =>
              intro i o hi
              match i, hi with
              | 0, hi =>
                injection hi with hi; subst hi
                intro c a wn γ hc0 hc1 hG hK hD K hk
                have hc := hc0 (.inl (by kernel_rfl))
                subst hc
                have hB := hG.1 rfl
                refine wp_val (.slice (some ⟨wn.heap.size, 0, none⟩) 0 0) ?_ (hk _ _ γ (by rw [if_neg (by decide)]; exact ⟨fun _ => hB.alloc hG.2 _, by simp; have := hG.2; omega⟩) ⟨below_alloc _ _, fun _ _ => rfl⟩ ⟨_, rfl, ownR.lit wn _ 75 3 hG.2⟩)
                simp [execOp, Act.eval, go_sem]
              | 1, hi =>
                injection hi with hi; subst hi
                intro c a wn γ hc0 hc1 hG hK hD K hk
                have e1 := hK.at 1 (by kernel_rfl)
                refine wp_pure (.pointer (some ⟨w.heap.size, 0, none⟩)) ?_ (hk _ _ γ (by rw [if_neg (by decide)]; exact hG) (Fr.same (Below.refl _ _)) rfl)
                simp [execOp, Act.eval, e1, go_sem]
              | 2, hi =>
                injection hi with hi; subst hi
                intro c a wn γ hc0 hc1 hG hK hD K hk
                have d0 := hD 0 (by decide) (by kernel_rfl) (.inl rfl)
                change a.tmps.getD 38 undef = .pointer (some ⟨w.heap.size, 0, none⟩) at d0
                have hc := hc0 (.inl (by kernel_rfl))
                subst hc
                have hB := hG.1 rfl
                have x0 := (objU.below OX4.out hB).cell 0 _ rfl
                refine wp_pure _ ?_ (hk _ _ γ (by rw [if_neg (by decide)]; exact hG) (Fr.same (Below.refl _ _)) rfl)
                simp [execOp, Act.eval, d0, x0, go_sem]
              | 3, hi =>
                injection hi with hi; subst hi
                intro c a wn γ hc0 hc1 hG hK hD K hk
                have e1 := hK.at 6 (by kernel_rfl)
                refine wp_pure (.int .i64 q) ?_ (hk _ _ γ (by rw [if_neg (by decide)]; exact hG) (Fr.same (Below.refl _ _)) rfl)
                simp [execOp, Act.eval, e1, go_sem]
              | 4, hi =>
                injection hi with hi; subst hi
                intro c a wn γ hc0 hc1 hG hK hD K hk
                have d0 := hD 0 (by decide) (by kernel_rfl) (.inl rfl)
                change a.tmps.getD 39 undef = .slice (some ⟨bq, oq, none⟩) Q.I.length pI at d0
                have d1 := hD 1 (by decide) (by kernel_rfl) (.inl rfl)
                change a.tmps.getD 40 undef = .int .i64 q at d1
                rw [Array.getD_eq_getD_getElem?] at d0 d1
                refine wp_pure (.slice (some ⟨bq, oq, none⟩) q pI) ?_ (hk _ _ γ (by rw [if_neg (by decide)]; exact hG) (Fr.same (Below.refl _ _)) rfl)
                simp [execOp, Act.eval, d0, d1, hkc, hk0, go_sem]
              | 5, hi =>
                injection hi with hi; subst hi
                intro c a wn γ hc0 hc1 hG hK hD K hk
                have d0 := hD 0 (by decide) (by kernel_rfl) (.inr (.inr ⟨11, rfl, by kernel_rfl⟩))
                change ∃ g, a.tmps.getD 37 undef = .slice (some ⟨g, 0, none⟩) 0 0 ∧ ownR wn w4.heap.size 75 3 (a.tmps.getD 37 undef) [] at d0
                have d1 := hD 1 (by decide) (by kernel_rfl) (.inl rfl)
                change a.tmps.getD 41 undef = .slice (some ⟨bq, oq, none⟩) q pI at d1
                have hc := hc0 (.inl (by kernel_rfl))
                subst hc
                have hB := hG.1 rfl
                obtain ⟨g2, g1, g3⟩ := d0
                rw [g1] at g3
                have hrd := rdR.take (HI.out.below (B4.out.trans (hB.mono B4.out.size))) (i := q) (by rw [List.length_map]; omega)
                rw [← List.map_take] at hrd
                obtain ⟨v', w', r1, r2, r3, r4⟩ := run_append_rd0 HEI.out (by decide) 64 w4.heap.size g2 g3 _ _ hrd (rowsI _) (oneI _) (by rw [List.length_map, List.length_take]; omega) hG.2
                refine wp_val v' ?_ (hk _ _ γ (by rw [if_neg (by decide)]; exact ⟨fun _ => hB.trans (r3.mono hG.2), by have := r3.size; have := hG.2; omega⟩) ⟨r3, fun _ _ => rfl⟩ r2)
                exact append_run (.tmp 37) (.tmp 41) 64 rfl g1 d1 r1
              | 6, hi =>
                injection hi with hi; subst hi
                intro c a wn γ hc0 hc1 hG hK hD K hk
                have e1 := hK.at 1 (by kernel_rfl)
                refine wp_pure (.pointer (some ⟨w.heap.size, 0, none⟩)) ?_ (hk _ _ γ (by rw [if_neg (by decide)]; exact hG) (Fr.same (Below.refl _ _)) rfl)
                simp [execOp, Act.eval, e1, go_sem]
              | 7, hi =>
                injection hi with hi; subst hi
                intro c a wn γ hc0 hc1 hG hK hD K hk
                have d0 := hD 0 (by decide) (by kernel_rfl) (.inl rfl)
                change a.tmps.getD 43 undef = .pointer (some ⟨w.heap.size, 0, none⟩) at d0
                have hc := hc0 (.inl (by kernel_rfl))
                subst hc
                have hB := hG.1 rfl
                have x0 := (objU.below OX4.out hB).cell 0 _ rfl
                refine wp_pure _ ?_ (hk _ _ γ (by rw [if_neg (by decide)]; exact hG) (Fr.same (Below.refl _ _)) rfl)
                simp [execOp, Act.eval, d0, x0, go_sem]
              | 8, hi =>
                injection hi with hi; subst hi
                intro c a wn γ hc0 hc1 hG hK hD K hk
                have e1 := hK.at 6 (by kernel_rfl)
                refine wp_pure (.int .i64 q) ?_ (hk _ _ γ (by rw [if_neg (by decide)]; exact hG) (Fr.same (Below.refl _ _)) rfl)
                simp [execOp, Act.eval, e1, go_sem]
              | 9, hi =>
                injection hi with hi; subst hi
                intro c a wn γ hc0 hc1 hG hK hD K hk
                have d0 := hD 0 (by decide) (by kernel_rfl) (.inl rfl)
                change a.tmps.getD 45 undef = .int .i64 q at d0
                refine wp_pure (.int .i64 ((q + 1 : Nat) : Int)) ?_ (hk _ _ γ (by rw [if_neg (by decide)]; exact hG) (Fr.same (Below.refl _ _)) rfl)
                simp [execOp, Act.eval, d0, hw, go_sem]
              | 10, hi =>
                injection hi with hi; subst hi
                intro c a wn γ hc0 hc1 hG hK hD K hk
                have d0 := hD 0 (by decide) (by kernel_rfl) (.inl rfl)
                change a.tmps.getD 44 undef = .slice (some ⟨bq, oq, none⟩) Q.I.length pI at d0
                have d1 := hD 1 (by decide) (by kernel_rfl) (.inl rfl)
                change a.tmps.getD 46 undef = .int .i64 ((q + 1 : Nat) : Int) at d1
                rw [Array.getD_eq_getD_getElem?] at d0 d1
                refine wp_pure (.slice A (Q.I.length - (q + 1)) (pI - (q + 1))) ?_ (hk _ _ γ (by rw [if_neg (by decide)]; exact hG) (Fr.same (Below.refl _ _)) rfl)
                simp [execOp, Act.eval, d0, d1, hk1p, hk1q, HAA.out, go_sem]
              | 11, hi =>
                injection hi with hi; subst hi
                intro c a wn γ hc0 hc1 hG hK hD K hk
                have d0 := hD 0 (by decide) (by kernel_rfl) (.inr (.inl rfl))
                change ownR wn w4.heap.size 75 3 (a.tmps.getD 42 undef) ((Q.I.take q).map encI) at d0
                have d1 := hD 1 (by decide) (by kernel_rfl) (.inl rfl)
                change a.tmps.getD 47 undef = .slice A (Q.I.length - (q + 1)) (pI - (q + 1)) at d1
                have hc := hc0 (.inl (by kernel_rfl))
                subst hc
                have hB := hG.1 rfl
                have hrd := rdR.drop (HI.out.below (B4.out.trans (hB.mono B4.out.size))) (i := q + 1) (by rw [List.length_map]; omega) HAA.out
                rw [← List.map_drop, List.length_map] at hrd
                obtain ⟨v', w', r1, r2, r3, r4⟩ := run_append_rd HEI.out (by decide) 64 w4.heap.size _ _ d0 _ _ hrd (rowsI _) (oneI _) (by rw [List.length_map, List.length_map, List.length_take, List.length_drop]; omega) hG.2
                rw [← List.map_append] at r2
                have rb : Below w4.heap.size wn w' := Below.grown (Below.refl _ _) r3 hG.2 (fun z hz => (d0.lt z (blk_own.2 hz)).1)
                refine wp_val v' ?_ (hk _ _ γ (by rw [if_neg (by decide)]; exact ⟨fun _ => hB.trans rb, by have := rb.size; have := hG.2; omega⟩) ⟨rb, fun _ _ => rfl⟩ r2)
                exact append_run (.tmp 42) (.tmp 47) 64 rfl rfl d1 r1
              | 12, hi =>
                injection hi with hi; subst hi
                intro c a wn γ hc0 hc1 hG hK hD K hk
                have e1 := hK.at 5 (by kernel_rfl)
                refine wp_pure (.pointer (some ⟨w1.heap.size, 0, none⟩)) ?_ (hk _ _ γ (by rw [if_neg (by decide)]; exact hG) (Fr.same (Below.refl _ _)) rfl)
                simp [execOp, Act.eval, e1, go_sem]
              | 13, hi =>
                injection hi with hi; subst hi
                intro c a wn γ hc0 hc1 hG hK hD K hk
                have d0 := hD 0 (by decide) (by kernel_rfl) (.inl rfl)
                change a.tmps.getD 49 undef = .pointer (some ⟨w1.heap.size, 0, none⟩) at d0
                have d1 := hD 1 (by decide) (by kernel_rfl) (.inl rfl)
                change ownR wn w4.heap.size 75 3 (a.tmps.getD 48 undef) ((dropAt Q.I q).map encI) at d1
                have hc := hc0 (.inr rfl)
                subst hc
                have hB := hG.1 rfl
                obtain ⟨a3, n3, p3, e3⟩ : ∃ aa nn pp, a.tmps.getD 48 undef = .slice aa nn pp := by obtain ⟨aa, pp, e⟩ := d1.itS; exact ⟨_, _, _, e⟩
                have h1c : (a.tmps.getD 48 undef).oneCell' = true := by rw [e3]; rfl
                have hu := objU.below OB4.out hB
                have hO : OutS [w1.heap.size] wn (wn.setCells w1.heap.size 0 [a.tmps.getD 48 undef]) := OutS.setCells _ _ _
                have hS := objU.setCells [a.tmps.getD 48 undef] [.slice b1 Q.I.length c1] [] [.slice b2 Q.D.length c2, .slice b3 Q.A.length c3, .int .i64 Q.now] wn hu rfl
                have hlt := OB4.out.lt
                refine wp_skip ?_ (hk undef _ γ (by rw [if_pos rfl]; exact ⟨(fun e => by cases e), Nat.le_trans hG.2 hO.size⟩) ⟨hO, fun _ _ => rfl⟩ ⟨_, hS, d1.frame (fun x hx => hO.block x (d1.lt x hx).2 (fun hh => by simp at hh; have := (d1.lt x hx).1; omega)), (OutS.of_below hB).trans hO⟩)
                exact store_run 64 (.tmp 49) (.tmp 48) rfl d0 rfl [a.tmps.getD 48 undef] (cells_one h1c) (one1 h1c) (by kernel_rfl) (hu.there 0 1 (by simp))
              | i + 14, hi => cases hi
            case hend7 =>
              intro x w5 γ hG hx
              obtain ⟨u5, ho5, hv5, hO5⟩ := hx 13 (by decide) rfl
              simp only [putAll, Act.put, List.setIfInBounds_toArray, List.set_cons_zero, List.set_cons_succ, Nat.zero_add, Nat.reduceAdd]
              have hlO := OB4.out.lt
              have hi0 := hi4.out
              have HQ5 : Hid (QB w5 w1.heap.size (w.heap.size + 2) { Q with I := dropAt Q.I q } u5 (.slice b2 Q.D.length c2) (.slice b3 Q.A.length c3)) := HQ4.out.cutI ho5 hv5 hO5 (by omega)
              have OI5 := hide (OI4.out.outS hO5 (by simp; omega))
              have OZ5 := hide (OZ4.out.outS hO5 (by simp; omega))
              have B5 : Hid (Below w.heap.size w w5) := B4.out.trans (hO5.below (fun t ht => by simp at ht; omega) B4.out.size)
              obtain ⟨a5, n5, p5, rfl⟩ : ∃ a n p, u5 = .slice a n p := by obtain ⟨a, p, e⟩ := hv5.itS; exact ⟨_, _, _, e⟩
              clear ho5 hv5 hO5 hx hG OI4 OZ4 HQ4 OB4 B4 OX4
              have H6 : Hid (QB (w5.alloc (.cells #[.string y.1, .int .i64 0, .int .i64 y.2.2] 75)) w1.heap.size (w.heap.size + 2) { Q with I := dropAt Q.I q } (.slice a5 n5 p5) (.slice b2 Q.D.length c2) (.slice b3 Q.A.length c3)) := HQ5.out.below (below_alloc _ _)
              have O6 : Hid (objU (w5.alloc (.cells #[.string y.1, .int .i64 0, .int .i64 y.2.2] 75)) w5.heap.size 75 (encI (y.1, 0, y.2.2))) := objU.new _ _ _
              have OI6 := hide (OI5.out.old (.cells #[.string y.1, .int .i64 0, .int .i64 y.2.2] 75))
              have OZ6 := hide (OZ5.out.old (.cells #[.string y.1, .int .i64 0, .int .i64 y.2.2] 75))
              have y1 := HQ5.out.o.cell 1 _ rfl
              have i0 := OI5.out.cell 0 _ rfl
              have i2 := OI5.out.cell 2 _ rfl
              have hlI := OI5.out.lt
              go_wp2_with (at_builtin; refine wpList_append_rd rfl _ _ 64 rfl 75 3 HEI.out (by decide) (w.heap.size + 2) _ _ rfl H6.out.q.d _ _ rfl (rdR.one O6.out) (rowsI [(y.1, 0, y.2.2)]) (oneI [(y.1, 0, y.2.2)]) (by simp; omega) (by have := H6.out.lt; omega) ?_)
              intro v7 w7 ho7 hg7 ha7
              rw [show (Q.D.map encI) ++ [encI (y.1, 0, y.2.2)] = (Q.D ++ [(y.1, 0, y.2.2)]).map encI by simp] at ho7
              have HQ7 : Hid (QB (w7.setCell ⟨w1.heap.size, 1, none⟩ v7) w1.heap.size (w.heap.size + 2) { Q with I := dropAt Q.I q, D := Q.D ++ [(y.1, 0, y.2.2)] } (.slice a5 n5 p5) v7 (.slice b3 Q.A.length c3)) := H6.out.appD ho7 hg7 (by simpa using ha7)
              have HB7 : Hid (Below w.heap.size w (w7.setCell ⟨w1.heap.size, 1, none⟩ v7)) := B5.out.trans (((below_alloc _ _).mono B5.out.size).trans ((H6.out.grown H6.out.q.d hg7 (by omega) 1).mono (by omega)))
              have hnI : ¬ w3.heap.size ∈ blkOf (.slice b2 Q.D.length c2) := fun hh => HND.out hh
              have OI7 := hide ((OI6.out.outS (grown_outS hg7) hnI).outS (OutS.setCells [v7] 1 w7 (b := w1.heap.size)) (by simp; omega))
              have OZ7 := hide ((OZ6.out.outS (grown_outS hg7) (fun hh => by have := H6.out.q.d.lt _ hh; omega)).outS (OutS.setCells [v7] 1 w7 (b := w1.heap.size)) (by simp; omega))
              have y1' := (H6.out.o.outS (grown_outS hg7) H6.out.nd).cell 1 _ rfl
              have f1' := (H6.out.o.outS (grown_outS hg7) H6.out.nd).fz 1
              obtain ⟨a7, n7, p7, rfl⟩ : ∃ a n p, v7 = .slice a n p := by obtain ⟨a, p, e⟩ := ho7.itS; exact ⟨_, _, _, e⟩
              clear ho7 hg7 ha7 y1 H6 O6 OI6 OZ6 i0 i2 hlI
              go_wp2
              have OB8 := hide HQ7.out.o
              change Hid (objU (w7.setCell ⟨w1.heap.size, 1, none⟩ (.slice a7 n7 p7)) w3.heap.size _ _) at OI7
              change Hid (objU (w7.setCell ⟨w1.heap.size, 1, none⟩ (.slice a7 n7 p7)) (w.heap.size + 1) _ _) at OZ7
              generalize (w7.setCell ⟨w1.heap.size, 1, none⟩ (.slice a7 n7 p7)) = w8 at *
              refine wp_region_inv (fun i => if i = 3 then OutS [w.heap.size + 1] else Eq) (fun _ => none) (fun wn => OutS [w.heap.size + 1] w8 wn ∧ ∃ zs, zs.length = 4 ∧ objU wn (w.heap.size + 1) 66 zs) (FR9 w.heap.size w3.heap.size [.slice a5 n5 p5, .slice a7 n7 p7, .slice b3 Q.A.length c3, .int .i64 Q.now] y.1) (by kernel_rfl) (by kernel_rfl) (by kernel_rfl) ?hF9 ?hU9 ?hG9 ?hstep9 ?hend9
              case hF9 =>
                intro i j γ γ' v wa wb hij hsp hnd hsd h hfr
                have ho := hfr.out
                match j, h with
                | 0, h => exact h
                | 1, h => exact h
                | 2, h => exact h
                | 4, h => exact h
                | 5, h => exact h
                | 3, h =>
                  rw [if_neg hij] at ho
                  exact ho ▸ h
                | j + 6, h => exact h.elim
              case hU9 =>
                intro i o hi hd γ v wa h
                match i, hi with
                | 0, hi => (injection hi with hi; subst hi; cases hd)
                | 1, hi => (injection hi with hi; subst hi; cases hd)
                | 2, hi => (injection hi with hi; subst hi; cases hd)
                | 3, hi => exact h
                | 4, hi => (injection hi with hi; subst hi; cases hd)
                | 5, hi => (injection hi with hi; subst hi; cases hd)
                | i + 6, hi => cases hi
              case hG9 => exact ⟨OutS.of_below (Below.drew (Below.refl _ _)), _, rfl, objU.dr9 OZ7.out⟩
              case hstep9 =>
                intro i o hi
                match i, hi with
                | 0, hi =>
                  injection hi with hi; subst hi
                  intro a wn γ hG hK hD K hk
                  have e1 := hK.at 5 (by kernel_rfl)
                  have hb := hG.1
                  have hu := OB8.out.outS hb (by simp; omega)
                  have x0 := hu.cell 0 _ rfl
                  have x1 := hu.cell 1 _ rfl
                  have x2 := hu.cell 2 _ rfl
                  have x3 := hu.cell 3 _ rfl
                  refine wp_pure (.agg #[.slice a5 n5 p5, .slice a7 n7 p7, .slice b3 Q.A.length c3, .int .i64 Q.now]) ?_ (hk _ _ γ hG (Fr.same (by exact (Eq.refl wn))) rfl)
                  simp [execOp, Act.eval, e1, x0, x1, x2, x3, go_sem]
                | 1, hi =>
                  injection hi with hi; subst hi
                  intro a wn γ hG hK hD K hk
                  have e1 := hK.at 7 (by kernel_rfl)
                  refine wp_pure (.pointer (some ⟨w3.heap.size, 0, none⟩)) ?_ (hk _ _ γ hG (Fr.same (by exact (Eq.refl wn))) rfl)
                  simp [execOp, Act.eval, e1, go_sem]
                | 2, hi =>
                  injection hi with hi; subst hi
                  intro a wn γ hG hK hD K hk
                  have d0 := hD 0 (by decide) (by kernel_rfl) (.inl rfl)
                  change a.tmps.getD 61 undef = .pointer (some ⟨w3.heap.size, 0, none⟩) at d0
                  have x0 := (OI7.out.outS hG.1 (by simp; omega)).cell 0 _ rfl
                  refine wp_pure (.string y.1) ?_ (hk _ _ γ hG (Fr.same (by exact (Eq.refl wn))) rfl)
                  simp [execOp, Act.eval, d0, x0, go_sem]
                | 3, hi =>
                  injection hi with hi; subst hi
                  intro a wn γ hG hK hD K hk
                  have e2 := hK.at 2 (by kernel_rfl)
                  have g1 := hD 0 (by decide) (by kernel_rfl) (.inl rfl)
                  change a.tmps.getD 60 undef = .agg #[.slice a5 n5 p5, .slice a7 n7 p7, .slice b3 Q.A.length c3, .int .i64 Q.now] at g1
                  obtain ⟨hb, zs, hz, ho⟩ := hG
                  have ho2 := objU.setCells [.slice a5 n5 p5, .slice a7 n7 p7, .slice b3 Q.A.length c3, .int .i64 Q.now] zs [] [] wn (by simpa using ho) hz
                  have hO : OutS [w.heap.size + 1] wn (wn.setCells (w.heap.size + 1) 0 [.slice a5 n5 p5, .slice a7 n7 p7, .slice b3 Q.A.length c3, .int .i64 Q.now]) := OutS.setCells _ _ _
                  have ho3 : objU (wn.setCells (w.heap.size + 1) 0 [.slice a5 n5 p5, .slice a7 n7 p7, .slice b3 Q.A.length c3, .int .i64 Q.now]) (w.heap.size + 1) 66 [.slice a5 n5 p5, .slice a7 n7 p7, .slice b3 Q.A.length c3, .int .i64 Q.now] := by simpa using ho2
                  refine wp_skip ?_ (hk undef _ γ ⟨hb.trans hO, _, rfl, ho3⟩ ⟨by exact hO, fun _ _ => rfl⟩ ho3)
                  exact store_run 66 (.tmp 2) (.tmp 60) rfl e2 g1 [.slice a5 n5 p5, .slice a7 n7 p7, .slice b3 Q.A.length c3, .int .i64 Q.now] rfl (by intro u hu; simp at hu; rcases hu with rfl | rfl | rfl | rfl <;> rfl) Try.zQueue_impl_Queue (ho.there 0 4 (by simp [hz]))
                | 4, hi =>
                  injection hi with hi; subst hi
                  intro a wn γ hG hK hD K hk
                  have d0 := hD 0 (by decide) (by kernel_rfl) (.inl rfl)
                  change a.tmps.getD 62 undef = .string y.1 at d0
                  rw [Array.getD_eq_getD_getElem?] at d0
                  refine wp_pure (.string y.1) ?_ (hk _ _ γ hG (Fr.same (by exact (Eq.refl wn))) rfl)
                  simp [execOp, Act.eval, d0, go_sem]
                | 5, hi =>
                  injection hi with hi; subst hi
                  intro a wn γ hG hK hD K hk
                  refine wp_pure (.bool true) ?_ (hk _ _ γ hG (Fr.same (by exact (Eq.refl wn))) rfl)
                  simp [execOp, Act.eval, go_sem]
                | i + 6, hi => cases hi
              case hend9 =>
                intro x w9 γ hG hx
                have ho9 := hx 3 (by decide) rfl
                have hn9 := hx 4 (by decide) rfl
                have hb9 := hx 5 (by decide) rfl
                change x 4 = .string y.1 at hn9
                change x 5 = .bool true at hb9
                change objU w9 (w.heap.size + 1) 66 [.slice a5 n5 p5, .slice a7 n7 p7, .slice b3 Q.A.length c3, .int .i64 Q.now] at ho9
                have hO9 := hG.1
                clear hG hx
                simp only [putAll, Act.put, List.setIfInBounds_toArray, List.set_cons_zero, List.set_cons_succ, Nat.zero_add, Nat.reduceAdd, hn9, hb9]
                have z0 := ho9.cell 0 _ rfl
                have z1 := ho9.cell 1 _ rfl
                have z2 := ho9.cell 2 _ rfl
                have z3 := ho9.cell 3 _ rfl
                go_wp2
                refine bodyPost_ret (v := .tuple #[.agg #[.slice a5 n5 p5, .slice a7 n7 p7, .slice b3 Q.A.length c3, .int .i64 Q.now], .string y.1, .bool true]) ?_ rfl ⟨_, _, _, by rw [HR.out], by rw [HR.out]; exact QO.mono (HQ7.out.q.outS hO9 (fun t ht => by simp at ht; omega)) (by omega), HB7.out.trans (hO9.below (fun t ht => by simp at ht; omega) HB7.out.size)⟩
                simp [results, Try.results40, go_sem, z0, z1, z2, z3]
          · have Hn := hide (Hye.out (Int.not_le.1 hrd))
            clear Hit Hye
            go_wp2
            go_roundw
            case rel => exact ⟨q + 1, by omega, by go_num, Hn, Hb4⟩
            case measure => simp [intOf]; omega
        · have h60' : ¬ (Q.D.length : Int) < 60 := by omega
          have HR := hide (takeQ_full h60)
          clear HBD HHT Ho
          have u0 := HQ3.out.o.cell 0 _ rfl
          have u1 := HQ3.out.o.cell 1 _ rfl
          have u2 := HQ3.out.o.cell 2 _ rfl
          have u3 := HQ3.out.o.cell 3 _ rfl
          have z0 := OZ3.out.cell 0 _ rfl
          have z1 := OZ3.out.cell 1 _ rfl
          have z2 := OZ3.out.cell 2 _ rfl
          have z3 := OZ3.out.cell 3 _ rfl
          have g0 := OZ3.out.fz 0
          have g1 := OZ3.out.fz 1
          have g2 := OZ3.out.fz 2
          have g3 := OZ3.out.fz 3
          have HOU : Hid (OutS [w.heap.size + 1] w3 ((((w3.setCell ⟨w.heap.size + 1, 0, none⟩ (.slice b1 Q.I.length c1)).setCell ⟨w.heap.size + 1, 1, none⟩ (.slice b2 Q.D.length c2)).setCell ⟨w.heap.size + 1, 2, none⟩ (.slice b3 Q.A.length c3)).setCell ⟨w.heap.size + 1, 3, none⟩ (.int .i64 Q.now))) := by
            show OutS _ _ _
            repeat (first | with_reducible exact OutS.refl _ _ | with_reducible refine OutS.setCell ?_ (show _ ∈ [w.heap.size + 1] by simp) _)
          go_wp2
          refine bodyPost_ret (v := .tuple #[.agg #[.slice b1 Q.I.length c1, .slice b2 Q.D.length c2, .slice b3 Q.A.length c3, .int .i64 Q.now], .string ⟨#[]⟩, .bool false]) ?_ rfl ⟨_, _, _, by rw [HR.out], by rw [HR.out]; exact QO.mono (HQ3.out.q.outS HOU.out (fun t ht => by simp at ht; omega)) (by omega), B3.out.trans (HOU.out.below (fun t ht => by simp at ht; omega) B3.out.size)⟩
          simp [results, Try.results40, go_sem, z0, z1, z2, z3]
    · have e : q = Q.I.length := by omega
      have hlt' : ¬ (q : Int) < (Q.I.length : Int) := by omega
      have HR : Hid (takeQ Q = (Q, ⟨#[]⟩, false)) := takeQ_none (fun j hj => Ho.out j hj (by omega))
      clear HBD HHT Ho HOK
      have u0 := HQr.out.o.cell 0 _ rfl
      have u1 := HQr.out.o.cell 1 _ rfl
      have u2 := HQr.out.o.cell 2 _ rfl
      have u3 := HQr.out.o.cell 3 _ rfl
      have z0 := OZr.out.cell 0 _ rfl
      have z1 := OZr.out.cell 1 _ rfl
      have z2 := OZr.out.cell 2 _ rfl
      have z3 := OZr.out.cell 3 _ rfl
      have g0 := OZr.out.fz 0
      have g1 := OZr.out.fz 1
      have g2 := OZr.out.fz 2
      have g3 := OZr.out.fz 3
      have HOU : Hid (OutS [w.heap.size + 1] wr ((((wr.setCell ⟨w.heap.size + 1, 0, none⟩ (.slice b1 Q.I.length c1)).setCell ⟨w.heap.size + 1, 1, none⟩ (.slice b2 Q.D.length c2)).setCell ⟨w.heap.size + 1, 2, none⟩ (.slice b3 Q.A.length c3)).setCell ⟨w.heap.size + 1, 3, none⟩ (.int .i64 Q.now))) := by
        show OutS _ _ _
        repeat (first | with_reducible exact OutS.refl _ _ | with_reducible refine OutS.setCell ?_ (show _ ∈ [w.heap.size + 1] by simp) _)
      go_wp2
      refine bodyPost_ret (v := .tuple #[.agg #[.slice b1 Q.I.length c1, .slice b2 Q.D.length c2, .slice b3 Q.A.length c3, .int .i64 Q.now], .string ⟨#[]⟩, .bool false]) ?_ rfl ⟨_, _, _, by rw [HR.out], by rw [HR.out]; exact QO.mono (HQr.out.q.outS HOU.out (fun t ht => by simp at ht; omega)) (by omega), Br.out.trans (HOU.out.below (fun t ht => by simp at ht; omega) Br.out.size)⟩
      simp [results, Try.results40, go_sem, z0, z1, z2, z3]
end Go.Proofs.Ytpmhmcekkppbhaa
