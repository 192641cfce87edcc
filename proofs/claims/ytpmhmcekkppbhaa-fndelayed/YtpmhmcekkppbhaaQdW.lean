/- FnDelayed: the walk. -/
import Derived.Test.YtpmhmcekkppbhaaQdM
import Derived.Deep.RegionHeld3
namespace Go.Proofs.Ytpmhmcekkppbhaa
open Go.RowKit Go.BigFrame
set_option linter.unusedVariables false

theorem big_anyQ (n cap : Nat) (a : Option Addr) (w : World) : Calls Try.prog 11 #[.slice a n cap] w fun e w' => e = .returned (.bool (decide (1048576 < n))) ∧ w' = w := by
  by_cases h : 1048576 < n
  · have h' : (1048576 : Int) < (n : Int) := by omega
    rw [decide_eq_true h]
    go_enter Try.func11, Try.ntmps11
    go_wp2
    go_ret
    exact ⟨rfl, rfl⟩
  · have h' : ¬ (1048576 : Int) < (n : Int) := by omega
    rw [decide_eq_false h]
    go_enter Try.func11, Try.ntmps11
    go_wp2
    go_ret
    exact ⟨rfl, rfl⟩
theorem tk_any (Q T : Qu) (s : ByteArray) (ok : Bool) (h : takeQ Q = (T, s, ok)) (hq : okQ Q) (f : FuncId) (hf : f = 37 ∨ f = 40) (xs : List Value) (w : World) (hx : rdQ w Q xs) :
    Calls Try.prog f #[.agg xs.toArray] w fun e w' => ∃ aI pI aD pD aA pA, e = .returned (.tuple #[.agg #[.slice aI T.I.length pI, .slice aD T.D.length pD, .slice aA T.A.length pA, .int .i64 T.now], .string s, .bool ok]) ∧ Hid (rdQ w' T [.slice aI T.I.length pI, .slice aD T.D.length pD, .slice aA T.A.length pA, .int .i64 T.now]) ∧ Hid (Below w.heap.size w w') := by
  have key : ∀ (e : Ending) (w' : World), (∃ vI vD vA, e = .returned (.tuple #[.agg #[vI, vD, vA, .int .i64 (takeQ Q).1.now], .string (takeQ Q).2.1, .bool (takeQ Q).2.2]) ∧ ownQ w' w.heap.size (takeQ Q).1 vI vD vA ∧ Below w.heap.size w w') → ∃ aI pI aD pD aA pA, e = .returned (.tuple #[.agg #[.slice aI T.I.length pI, .slice aD T.D.length pD, .slice aA T.A.length pA, .int .i64 T.now], .string s, .bool ok]) ∧ Hid (rdQ w' T [.slice aI T.I.length pI, .slice aD T.D.length pD, .slice aA T.A.length pA, .int .i64 T.now]) ∧ Hid (Below w.heap.size w w') := by
    rintro e w' ⟨vI, vD, vA, rfl, ho, hb⟩
    rw [h] at ho ⊢
    obtain ⟨aI, pI, aD, pD, aA, pA, ⟨rfl, rfl, rfl⟩, hr⟩ := QO.rdS ho
    exact ⟨aI, pI, aD, pD, aA, pA, rfl, hr, hb⟩
  rcases hf with rfl | rfl
  · exact (iTake_any Q xs w hq hx).mono key
  · exact (sTake_any Q xs w hq hx).mono key
theorem dn_any (Q T : Qu) (s : ByteArray) (well ok : Bool) (h : doneQ Q s well = (T, ok)) (hq : okQ Q) (hs : s.size ≤ maxLen) (xs : List Value) (w : World) (hx : rdQ w Q xs) :
    Calls Try.prog 38 #[.agg xs.toArray, .string s, .bool well] w fun e w' => ∃ aI pI aD pD aA pA, e = .returned (.tuple #[.agg #[.slice aI T.I.length pI, .slice aD T.D.length pD, .slice aA T.A.length pA, .int .i64 T.now], .bool ok]) ∧ Hid (rdQ w' T [.slice aI T.I.length pI, .slice aD T.D.length pD, .slice aA T.A.length pA, .int .i64 T.now]) ∧ Hid (Below w.heap.size w w') := by
  refine (iDone_any Q s well xs w hq hs hx).mono ?_
  rintro e w' ⟨vI, vD, vA, rfl, ho, hb⟩
  rw [h] at ho ⊢
  obtain ⟨aI, pI, aD, pD, aA, pA, ⟨rfl, rfl, rfl⟩, hr⟩ := QO.rdS ho
  exact ⟨aI, pI, aD, pD, aA, pA, rfl, hr, hb⟩
theorem ps_any (Q T : Qu) (z : Int) (h : passQ Q z = T) (hq : okQ Q) (xs : List Value) (w : World) (hx : rdQ w Q xs) :
    Calls Try.prog 43 #[.agg xs.toArray, .int .i64 z] w fun e w' => ∃ aI pI aD pD aA pA, e = .returned (.agg #[.slice aI T.I.length pI, .slice aD T.D.length pD, .slice aA T.A.length pA, .int .i64 T.now]) ∧ Hid (rdQ w' T [.slice aI T.I.length pI, .slice aD T.D.length pD, .slice aA T.A.length pA, .int .i64 T.now]) ∧ Hid (Below w.heap.size w w') := by
  refine (iPass_any Q z xs w hq hx).mono ?_
  rintro e w' ⟨vI, vD, vA, rfl, ho, hb⟩
  rw [h] at ho ⊢
  obtain ⟨aI, pI, aD, pD, aA, pA, ⟨rfl, rfl, rfl⟩, hr⟩ := QO.rdS ho
  exact ⟨aI, pI, aD, pD, aA, pA, rfl, hr, hb⟩
set_option maxRecDepth 20000 in
set_option maxHeartbeats 6400000 in
theorem fnDelayed_walk (n cap : Nat) (a : Option Addr) (w : World) (hl : n ≤ maxLen) (hc : codeAll w a n) :
    Calls Try.prog 10 #[.slice a n cap] w fun e w' => e = .returned (.bool true) ∧ Below w.heap.size w w' := by
  have hbig := fun wx => big_anyQ n cap a wx
  by_cases hb : 1048576 < n
  · rw [decide_eq_true hb] at hbig
    have HB := hide hbig
    clear hbig hc hl
    go_enter Try.func10, Try.ntmps10
    go_wp2_with (go_at_call 11; refine (HB.out _).mono ?_; rintro e w ⟨rfl, rfl⟩)
    go_ret
    exact ⟨rfl, Below.refl _ _⟩
  rw [decide_eq_false hb] at hbig
  have HB := hide hbig
  have HDr := hide (drawQueue_any n cap a w (by omega) hc)
  clear hbig hc hl hb
  go_enter Try.func10, Try.ntmps10
  go_wp2_with (go_at_call 11; refine (HB.out _).mono ?_; rintro e w ⟨rfl, rfl⟩)
  refine HDr.out.mono ?_
  rintro e w1 ⟨Q, vI, vD, vA, rfl, HQ, HO, HB1⟩
  obtain ⟨aI1, pI1, aD1, pD1, aA1, pA1, ⟨rfl, rfl, rfl⟩, hr1⟩ := QO.rdS HO.out
  have HR1 := hide hr1
  have hok := hide HQ.out.1
  have hgd := hide HQ.out.2.1
  have hcs := hide (dly_cases HQ.out)
  clear HO hr1 HDr HQ
  have O3 : Hid (objU (w1.alloc (.cells #[.slice aI1 Q.I.length pI1, .slice aD1 Q.D.length pD1, .slice aA1 Q.A.length pA1, .int .i64 Q.now] 66)) w1.heap.size 66 [.slice aI1 Q.I.length pI1, .slice aD1 Q.D.length pD1, .slice aA1 Q.A.length pA1, .int .i64 Q.now]) := objU.new _ _ _
  have B3 : Hid (Below w1.heap.size w1 (w1.alloc (.cells #[.slice aI1 Q.I.length pI1, .slice aD1 Q.D.length pD1, .slice aA1 Q.A.length pA1, .int .i64 Q.now] 66))) := (Below.refl _ _).alloc (Nat.le_refl _) _
  have x0 := O3.out.cell 0 _ rfl
  have x1 := O3.out.cell 1 _ rfl
  have x2 := O3.out.cell 2 _ rfl
  have x3 := O3.out.cell 3 _ rfl
  rcases hcs.out with hno | ⟨T, D1, W1, s, Zf, R, HF⟩
  · have HT1 := hide (tk_any Q Q ⟨#[]⟩ false hno hok.out 37 (.inl rfl) [.slice aI1 Q.I.length pI1, .slice aD1 Q.D.length pD1, .slice aA1 Q.A.length pA1, .int .i64 Q.now] _ (HR1.out.below B3.out))
    have HT2 : Hid (∀ (wx : World), Below w1.heap.size w1 wx → Calls Try.prog 40 #[.agg #[.slice aI1 Q.I.length pI1, .slice aD1 Q.D.length pD1, .slice aA1 Q.A.length pA1, .int .i64 Q.now]] wx fun e w' => ∃ aI pI aD pD aA pA, e = .returned (.tuple #[.agg #[.slice aI Q.I.length pI, .slice aD Q.D.length pD, .slice aA Q.A.length pA, .int .i64 Q.now], .string ⟨#[]⟩, .bool false]) ∧ Hid (rdQ w' Q [.slice aI Q.I.length pI, .slice aD Q.D.length pD, .slice aA Q.A.length pA, .int .i64 Q.now]) ∧ Hid (Below wx.heap.size wx w')) := fun wx hb => tk_any Q Q ⟨#[]⟩ false hno hok.out 40 (.inr rfl) [.slice aI1 Q.I.length pI1, .slice aD1 Q.D.length pD1, .slice aA1 Q.A.length pA1, .int .i64 Q.now] wx (HR1.out.below hb)
    have HNi : Hid (∀ (wx : World), Below w1.heap.size w1 wx → Calls Try.prog 41 #[.agg #[.slice aI1 Q.I.length pI1, .slice aD1 Q.D.length pD1, .slice aA1 Q.A.length pA1, .int .i64 Q.now]] wx fun e w' => ∃ r, nxtP Q r ∧ e = .returned (.int .i64 r) ∧ Below wx.heap.size wx w') := fun wx hb => iNext_any Q [.slice aI1 Q.I.length pI1, .slice aD1 Q.D.length pD1, .slice aA1 Q.A.length pA1, .int .i64 Q.now] wx hok.out hgd.out (HR1.out.below hb)
    have HNs : Hid (∀ (wx : World), Below w1.heap.size w1 wx → Calls Try.prog 42 #[.agg #[.slice aI1 Q.I.length pI1, .slice aD1 Q.D.length pD1, .slice aA1 Q.A.length pA1, .int .i64 Q.now]] wx fun e w' => ∃ r, nxtP Q r ∧ e = .returned (.int .i64 r) ∧ Below wx.heap.size wx w') := fun wx hb => sNext_any Q [.slice aI1 Q.I.length pI1, .slice aD1 Q.D.length pD1, .slice aA1 Q.A.length pA1, .int .i64 Q.now] wx hok.out hgd.out (HR1.out.below hb)
    clear hcs hno HR1 hok hgd
    go_wp2_with fail
    refine HT1.out.mono ?_
    rintro e w2 ⟨aI2, pI2, aD2, pD2, aA2, pA2, rfl, HR2, HB2⟩
    have BA2 : Hid (Below w2.heap.size w2 (w2.alloc (.cells #[.slice aI2 Q.I.length pI2, .slice aD2 Q.D.length pD2, .slice aA2 Q.A.length pA2, .int .i64 Q.now] 66))) := (Below.refl _ _).alloc (Nat.le_refl _) _
    have O33 := hide ((O3.out.below HB2.out).below BA2.out)
    have B32 : Hid (Below w1.heap.size w1 (w2.alloc (.cells #[.slice aI2 Q.I.length pI2, .slice aD2 Q.D.length pD2, .slice aA2 Q.A.length pA2, .int .i64 Q.now] 66))) := (B3.out.trans (HB2.out.mono B3.out.size)).trans (BA2.out.mono (B3.out.trans (HB2.out.mono B3.out.size)).size)
    clear x0 x1 x2 x3 O3 HB2 BA2 HT1
    have x0 := O33.out.cell 0 _ rfl
    have x1 := O33.out.cell 1 _ rfl
    have x2 := O33.out.cell 2 _ rfl
    have x3 := O33.out.cell 3 _ rfl
    go_wp2_with fail
    refine (HT2.out _ B32.out).mono ?_
    rintro e w3 ⟨aI3, pI3, aD3, pD3, aA3, pA3, rfl, HR3, HB3⟩
    have BA3 : Hid (Below w3.heap.size w3 (w3.alloc (.cells #[.slice aI3 Q.I.length pI3, .slice aD3 Q.D.length pD3, .slice aA3 Q.A.length pA3, .int .i64 Q.now] 66))) := (Below.refl _ _).alloc (Nat.le_refl _) _
    have O35 := hide ((O33.out.below HB3.out).below BA3.out)
    have B35 : Hid (Below w1.heap.size w1 (w3.alloc (.cells #[.slice aI3 Q.I.length pI3, .slice aD3 Q.D.length pD3, .slice aA3 Q.A.length pA3, .int .i64 Q.now] 66))) := (B32.out.trans (HB3.out.mono B32.out.size)).trans (BA3.out.mono (B32.out.trans (HB3.out.mono B32.out.size)).size)
    clear x0 x1 x2 x3 O33 B32 HB3 HT2 BA3
    generalize hW4 : (w3.alloc (.cells #[.slice aI3 Q.I.length pI3, .slice aD3 Q.D.length pD3, .slice aA3 Q.A.length pA3, .int .i64 Q.now] 66)) = w4 at *
    have x0 := O35.out.cell 0 _ rfl
    have x1 := O35.out.cell 1 _ rfl
    have x2 := O35.out.cell 2 _ rfl
    have x3 := O35.out.cell 3 _ rfl
    have hb0 : Hid (Below w4.heap.size w4 w4) := Below.refl _ _
    go_wp2
    go_region_held3 (fun w' => w'.cell? ⟨w1.heap.size, 0, none⟩ = some (.slice aI1 Q.I.length pI1) ∧ w'.cell? ⟨w1.heap.size, 1, none⟩ = some (.slice aD1 Q.D.length pD1) ∧ w'.cell? ⟨w1.heap.size, 2, none⟩ = some (.slice aA1 Q.A.length pA1) ∧ w'.cell? ⟨w1.heap.size, 3, none⟩ = some (.int .i64 Q.now)) (first | assumption | exact ⟨x0, x1, x2, x3⟩ | go_keep)
      (first
        | (go_at_call 41; refine (HNi.out _ (B35.out.trans (Below.mono (show Below w4.heap.size w4 _ from (by repeat (first | with_reducible exact hb0.out | with_reducible refine Below.drew ?_ | with_reducible refine below_drewN ?_ _))) B35.out.size))).mono ?_; rintro e w5 ⟨r1, hr1, rfl, hc⟩; have hb1 : Hid (Below w4.heap.size w4 w5) := Below.trans (show Below w4.heap.size w4 _ from (by repeat (first | with_reducible exact hb0.out | with_reducible refine Below.drew ?_ | with_reducible refine below_drewN ?_ _))) (hc.mono (by (try simp) <;> first | done | exact hb0.out.size)); clear hc; have y0 := (O35.out.below hb1.out).cell 0 _ rfl; have y1 := (O35.out.below hb1.out).cell 1 _ rfl; have y2 := (O35.out.below hb1.out).cell 2 _ rfl; have y3 := (O35.out.below hb1.out).cell 3 _ rfl)
        | (go_at_call 42; refine (HNs.out _ (B35.out.trans (Below.mono (show Below w4.heap.size w4 _ from (by repeat (first | with_reducible exact hb1.out | with_reducible refine Below.drew ?_ | with_reducible refine below_drewN ?_ _))) B35.out.size))).mono ?_; rintro e w6 ⟨r2, hr2, rfl, hc⟩; have hb2 : Hid (Below w4.heap.size w4 w6) := Below.trans (show Below w4.heap.size w4 _ from (by repeat (first | with_reducible exact hb1.out | with_reducible refine Below.drew ?_ | with_reducible refine below_drewN ?_ _))) (hc.mono (by (try simp) <;> first | done | exact hb1.out.size)); clear hc; obtain rfl := nxtP.uniq hr1 hr2; have z0 := (O35.out.below hb2.out).cell 0 _ rfl; have z1 := (O35.out.below hb2.out).cell 1 _ rfl; have z2 := (O35.out.below hb2.out).cell 2 _ rfl; have z3 := (O35.out.below hb2.out).cell 3 _ rfl))
    go_wp2
    go_ret
    exact ⟨rfl, HB1.out.trans ((B35.out.trans (hb2.out.mono B35.out.size)).mono HB1.out.size)⟩
  · have HT1 := hide (tk_any Q T s true HF.take hok.out 37 (.inl rfl) [.slice aI1 Q.I.length pI1, .slice aD1 Q.D.length pD1, .slice aA1 Q.A.length pA1, .int .i64 Q.now] _ (HR1.out.below B3.out))
    have HT2 : Hid (∀ (wx : World), Below w1.heap.size w1 wx → Calls Try.prog 40 #[.agg #[.slice aI1 Q.I.length pI1, .slice aD1 Q.D.length pD1, .slice aA1 Q.A.length pA1, .int .i64 Q.now]] wx fun e w' => ∃ aI pI aD pD aA pA, e = .returned (.tuple #[.agg #[.slice aI T.I.length pI, .slice aD T.D.length pD, .slice aA T.A.length pA, .int .i64 T.now], .string s, .bool true]) ∧ Hid (rdQ w' T [.slice aI T.I.length pI, .slice aD T.D.length pD, .slice aA T.A.length pA, .int .i64 T.now]) ∧ Hid (Below wx.heap.size wx w')) := fun wx hb => tk_any Q T s true HF.take hok.out 40 (.inr rfl) [.slice aI1 Q.I.length pI1, .slice aD1 Q.D.length pD1, .slice aA1 Q.A.length pA1, .int .i64 Q.now] wx (HR1.out.below hb)
    have HFF := hide HF
    clear hcs HR1 hok hgd HF
    go_wp2_with fail
    refine HT1.out.mono ?_
    rintro e w2 ⟨aI2, pI2, aD2, pD2, aA2, pA2, rfl, HR2, HB2⟩
    have BA2 : Hid (Below w2.heap.size w2 (w2.alloc (.cells #[.slice aI2 T.I.length pI2, .slice aD2 T.D.length pD2, .slice aA2 T.A.length pA2, .int .i64 T.now] 66))) := (Below.refl _ _).alloc (Nat.le_refl _) _
    have O33 := hide ((O3.out.below HB2.out).below BA2.out)
    have O4 : Hid (objU (w2.alloc (.cells #[.slice aI2 T.I.length pI2, .slice aD2 T.D.length pD2, .slice aA2 T.A.length pA2, .int .i64 T.now] 66)) w2.heap.size 66 [.slice aI2 T.I.length pI2, .slice aD2 T.D.length pD2, .slice aA2 T.A.length pA2, .int .i64 T.now]) := objU.new _ _ _
    have B32 : Hid (Below w1.heap.size w1 (w2.alloc (.cells #[.slice aI2 T.I.length pI2, .slice aD2 T.D.length pD2, .slice aA2 T.A.length pA2, .int .i64 T.now] 66))) := (B3.out.trans (HB2.out.mono B3.out.size)).trans (BA2.out.mono (B3.out.trans (HB2.out.mono B3.out.size)).size)
    clear x0 x1 x2 x3 O3 HB2 HT1
    have x0 := O33.out.cell 0 _ rfl
    have x1 := O33.out.cell 1 _ rfl
    have x2 := O33.out.cell 2 _ rfl
    have x3 := O33.out.cell 3 _ rfl
    go_wp2_with fail
    refine (HT2.out _ B32.out).mono ?_
    rintro e w3 ⟨aI3, pI3, aD3, pD3, aA3, pA3, rfl, HR3, HB3⟩
    have BA3 : Hid (Below w3.heap.size w3 (w3.alloc (.cells #[.slice aI3 T.I.length pI3, .slice aD3 T.D.length pD3, .slice aA3 T.A.length pA3, .int .i64 T.now] 66))) := (Below.refl _ _).alloc (Nat.le_refl _) _
    have O5 := hide ((O4.out.below HB3.out).below BA3.out)
    have B23 : Hid (Below w2.heap.size w2 (w3.alloc (.cells #[.slice aI3 T.I.length pI3, .slice aD3 T.D.length pD3, .slice aA3 T.A.length pA3, .int .i64 T.now] 66))) := (BA2.out.trans (HB3.out.mono BA2.out.size)).trans (BA3.out.mono (BA2.out.trans (HB3.out.mono BA2.out.size)).size)
    have B13 : Hid (Below w1.heap.size w1 (w3.alloc (.cells #[.slice aI3 T.I.length pI3, .slice aD3 T.D.length pD3, .slice aA3 T.A.length pA3, .int .i64 T.now] 66))) := (B32.out.trans (HB3.out.mono B32.out.size)).trans (BA3.out.mono (B32.out.trans (HB3.out.mono B32.out.size)).size)
    clear x0 x1 x2 x3 O33 O4 B32 HB3 HT2 BA3 BA2 B3 HR3
    have hT := HR2.out.below B23.out
    have HRT := hide hT
    obtain ⟨cI, cD, cA, e, -, hD, -⟩ := hT
    cases e
    have hpos := HFF.out.tpos
    have hle := HFF.out.tlen
    obtain ⟨tb, toff, rfl, htb, -, -, t2⟩ := hD.itAt (q := T.D.length - 1) (by omega)
    rw [HFF.out.tat (by omega)] at t2
    have hpi : (0 : Int) < (T.D.length : Int) := by omega
    obtain ⟨hz0, hz40⟩ := HFF.out.z0
    clear hD
    have x0 := O5.out.cell 0 _ rfl
    have x1 := O5.out.cell 1 _ rfl
    have x2 := O5.out.cell 2 _ rfl
    have x3 := O5.out.cell 3 _ rfl
    have HD1 := hide (dn_any T D1 s false true HFF.out.bad HFF.out.okT HFF.out.size [.slice aI2 T.I.length pI2, .slice (some ⟨tb, toff, none⟩) T.D.length pD2, .slice aA2 T.A.length pA2, .int .i64 T.now] _ HRT.out)
    go_wp2_with fail
    refine HD1.out.mono ?_
    rintro e w4 ⟨aI4, pI4, aD4, pD4, aA4, pA4, rfl, HR4, HB4⟩
    have BA4 : Hid (Below w4.heap.size w4 (w4.alloc (.cells #[.slice aI4 D1.I.length pI4, .slice aD4 D1.D.length pD4, .slice aA4 D1.A.length pA4, .int .i64 D1.now] 66))) := (Below.refl _ _).alloc (Nat.le_refl _) _
    have B34 : Hid (Below (w3.alloc (.cells #[.slice aI3 T.I.length pI3, .slice aD3 T.D.length pD3, .slice aA3 T.A.length pA3, .int .i64 T.now] 66)).heap.size (w3.alloc (.cells #[.slice aI3 T.I.length pI3, .slice aD3 T.D.length pD3, .slice aA3 T.A.length pA3, .int .i64 T.now] 66)) (w4.alloc (.cells #[.slice aI4 D1.I.length pI4, .slice aD4 D1.D.length pD4, .slice aA4 D1.A.length pA4, .int .i64 D1.now] 66))) := HB4.out.trans (BA4.out.mono HB4.out.size)
    have B14 : Hid (Below w1.heap.size w1 (w4.alloc (.cells #[.slice aI4 D1.I.length pI4, .slice aD4 D1.D.length pD4, .slice aA4 D1.A.length pA4, .int .i64 D1.now] 66))) := B13.out.trans (B34.out.mono B13.out.size)
    have O4 := hide (O5.out.below B34.out)
    have O11 : Hid (objU (w4.alloc (.cells #[.slice aI4 D1.I.length pI4, .slice aD4 D1.D.length pD4, .slice aA4 D1.A.length pA4, .int .i64 D1.now] 66)) w4.heap.size 66 [.slice aI4 D1.I.length pI4, .slice aD4 D1.D.length pD4, .slice aA4 D1.A.length pA4, .int .i64 D1.now]) := objU.new _ _ _
    have HRT4 := hide (HRT.out.below B34.out)
    have hD := HR4.out.below BA4.out
    have HRD := hide hD
    clear x0 x1 x2 x3 t2 HB4 B34 B13 O5 HRT HD1 HR2 HR4 BA4
    obtain ⟨cI, cD, cA, e, hI, -, -⟩ := hD
    cases e
    have hdpos := HFF.out.dpos
    have hdle := HFF.out.dlen
    obtain ⟨db, doff, rfl, hdb, d0, d1, d2⟩ := hI.itAt (q := D1.I.length - 1) (by omega)
    rw [HFF.out.dat (by omega)] at d0 d1 d2
    dsimp only at d0 d1 d2
    have hdi : (0 : Int) < (D1.I.length : Int) := by omega
    have hdz : ((D1.I.length : Int) == 0) = false := beq_eq_false_iff_ne.2 (by omega)
    have he := beq_str s s
    rw [decide_eq_true (rfl : s = s)] at he
    clear hI
    have y0 := O11.out.cell 0 _ rfl
    have BA13 : Hid (Below (w4.alloc (.cells #[.slice (some ⟨db, doff, none⟩) D1.I.length pI4, .slice aD4 D1.D.length pD4, .slice aA4 D1.A.length pA4, .int .i64 D1.now] 66)).heap.size (w4.alloc (.cells #[.slice (some ⟨db, doff, none⟩) D1.I.length pI4, .slice aD4 D1.D.length pD4, .slice aA4 D1.A.length pA4, .int .i64 D1.now] 66)) ((w4.alloc (.cells #[.slice (some ⟨db, doff, none⟩) D1.I.length pI4, .slice aD4 D1.D.length pD4, .slice aA4 D1.A.length pA4, .int .i64 D1.now] 66)).alloc (.cells #[.string s, .int .i64 R, .int .i64 (Zf + 1)] 75))) := (Below.refl _ _).alloc (Nat.le_refl _) _
    have O413 := hide (O4.out.below BA13.out)
    have O1113 := hide (O11.out.below BA13.out)
    have O13 : Hid (objU ((w4.alloc (.cells #[.slice (some ⟨db, doff, none⟩) D1.I.length pI4, .slice aD4 D1.D.length pD4, .slice aA4 D1.A.length pA4, .int .i64 D1.now] 66)).alloc (.cells #[.string s, .int .i64 R, .int .i64 (Zf + 1)] 75)) (w4.heap.size + 1) 75 [.string s, .int .i64 R, .int .i64 (Zf + 1)]) := objU.new2 _ _ (by simp)
    have B113 : Hid (Below w1.heap.size w1 ((w4.alloc (.cells #[.slice (some ⟨db, doff, none⟩) D1.I.length pI4, .slice aD4 D1.D.length pD4, .slice aA4 D1.A.length pA4, .int .i64 D1.now] 66)).alloc (.cells #[.string s, .int .i64 R, .int .i64 (Zf + 1)] 75))) := B14.out.trans (BA13.out.mono B14.out.size)
    have HRD13 := hide (HRD.out.below BA13.out)
    have HD2 := hide (dn_any T W1 s true true HFF.out.well HFF.out.okT HFF.out.size [.slice aI2 T.I.length pI2, .slice (some ⟨tb, toff, none⟩) T.D.length pD2, .slice aA2 T.A.length pA2, .int .i64 T.now] _ (HRT4.out.below BA13.out))
    have x0 := O413.out.cell 0 _ rfl
    have x1 := O413.out.cell 1 _ rfl
    have x2 := O413.out.cell 2 _ rfl
    have x3 := O413.out.cell 3 _ rfl
    clear O4 O11 B14 HRD HRT4 BA13
    go_wp2_with fail
    refine HD2.out.mono ?_
    rintro e w5 ⟨aI5, pI5, aD5, pD5, aA5, pA5, rfl, HR5, HB5⟩
    have BA5 : Hid (Below w5.heap.size w5 (w5.alloc (.cells #[.slice aI5 W1.I.length pI5, .slice aD5 W1.D.length pD5, .slice aA5 W1.A.length pA5, .int .i64 W1.now] 66))) := (Below.refl _ _).alloc (Nat.le_refl _) _
    have B135 : Hid (Below ((w4.alloc (.cells #[.slice (some ⟨db, doff, none⟩) D1.I.length pI4, .slice aD4 D1.D.length pD4, .slice aA4 D1.A.length pA4, .int .i64 D1.now] 66)).alloc (.cells #[.string s, .int .i64 R, .int .i64 (Zf + 1)] 75)).heap.size ((w4.alloc (.cells #[.slice (some ⟨db, doff, none⟩) D1.I.length pI4, .slice aD4 D1.D.length pD4, .slice aA4 D1.A.length pA4, .int .i64 D1.now] 66)).alloc (.cells #[.string s, .int .i64 R, .int .i64 (Zf + 1)] 75)) (w5.alloc (.cells #[.slice aI5 W1.I.length pI5, .slice aD5 W1.D.length pD5, .slice aA5 W1.A.length pA5, .int .i64 W1.now] 66))) := HB5.out.trans (BA5.out.mono HB5.out.size)
    have B15 : Hid (Below w1.heap.size w1 (w5.alloc (.cells #[.slice aI5 W1.I.length pI5, .slice aD5 W1.D.length pD5, .slice aA5 W1.A.length pA5, .int .i64 W1.now] 66))) := B113.out.trans (B135.out.mono B113.out.size)
    have O45 := hide (O413.out.below B135.out)
    have O115 := hide (O1113.out.below B135.out)
    have O135 := hide (O13.out.below B135.out)
    have O14 : Hid (objU (w5.alloc (.cells #[.slice aI5 W1.I.length pI5, .slice aD5 W1.D.length pD5, .slice aA5 W1.A.length pA5, .int .i64 W1.now] 66)) w5.heap.size 66 [.slice aI5 W1.I.length pI5, .slice aD5 W1.D.length pD5, .slice aA5 W1.A.length pA5, .int .i64 W1.now]) := objU.new _ _ _
    have HRD5 := hide (HRD13.out.below B135.out)
    clear x0 x1 x2 x3 y0 d0 d1 d2 O413 O1113 O13 HRD13 B135 B113 HB5 BA5 HD2 HR5
    obtain ⟨L1, hL1⟩ : ∃ L, passQ D1 R = L := ⟨_, rfl⟩
    have HPN : Hid (L1.now = R) := by show L1.now = R; rw [← hL1]; exact HFF.out.pass
    have HPs := hide (ps_any D1 L1 R hL1 HFF.out.okD [.slice (some ⟨db, doff, none⟩) D1.I.length pI4, .slice aD4 D1.D.length pD4, .slice aA4 D1.A.length pA4, .int .i64 D1.now] _ HRD5.out)
    clear hL1
    have x0 := O115.out.cell 0 _ rfl
    have x1 := O115.out.cell 1 _ rfl
    have x2 := O115.out.cell 2 _ rfl
    have x3 := O115.out.cell 3 _ rfl
    have y1 := O135.out.cell 1 _ rfl
    go_wp2_with fail
    refine HPs.out.mono ?_
    rintro e w6 ⟨aI6, pI6, aD6, pD6, aA6, pA6, rfl, HR6, HB6⟩
    have BA6 : Hid (Below w6.heap.size w6 (w6.alloc (.cells #[.slice aI6 L1.I.length pI6, .slice aD6 L1.D.length pD6, .slice aA6 L1.A.length pA6, .int .i64 L1.now] 66))) := (Below.refl _ _).alloc (Nat.le_refl _) _
    have B56 : Hid (Below (w5.alloc (.cells #[.slice aI5 W1.I.length pI5, .slice aD5 W1.D.length pD5, .slice aA5 W1.A.length pA5, .int .i64 W1.now] 66)).heap.size (w5.alloc (.cells #[.slice aI5 W1.I.length pI5, .slice aD5 W1.D.length pD5, .slice aA5 W1.A.length pA5, .int .i64 W1.now] 66)) (w6.alloc (.cells #[.slice aI6 L1.I.length pI6, .slice aD6 L1.D.length pD6, .slice aA6 L1.A.length pA6, .int .i64 L1.now] 66))) := HB6.out.trans (BA6.out.mono HB6.out.size)
    have B16 : Hid (Below w1.heap.size w1 (w6.alloc (.cells #[.slice aI6 L1.I.length pI6, .slice aD6 L1.D.length pD6, .slice aA6 L1.A.length pA6, .int .i64 L1.now] 66))) := B15.out.trans (B56.out.mono B15.out.size)
    have O4f := hide (O45.out.below B56.out)
    have O11f := hide (O115.out.below B56.out)
    have O13f := hide (O135.out.below B56.out)
    have O14f := hide (O14.out.below B56.out)
    have O16f : Hid (objU (w6.alloc (.cells #[.slice aI6 L1.I.length pI6, .slice aD6 L1.D.length pD6, .slice aA6 L1.A.length pA6, .int .i64 L1.now] 66)) w6.heap.size 66 [.slice aI6 L1.I.length pI6, .slice aD6 L1.D.length pD6, .slice aA6 L1.A.length pA6, .int .i64 L1.now]) := objU.new _ _ _
    have HRDf := hide (HRD5.out.below B56.out)
    clear x0 x1 x2 x3 y1 O45 O115 O135 O14 HRD5 B56 B15 HB6 BA6 HPs HR6
    generalize hWf : (w6.alloc (.cells #[.slice aI6 L1.I.length pI6, .slice aD6 L1.D.length pD6, .slice aA6 L1.A.length pA6, .int .i64 L1.now] 66)) = wf at *
    have HNi : Hid (∀ (wx : World), Below wf.heap.size wf wx → Calls Try.prog 41 #[.agg #[.slice (some ⟨db, doff, none⟩) D1.I.length pI4, .slice aD4 D1.D.length pD4, .slice aA4 D1.A.length pA4, .int .i64 D1.now]] wx fun e w' => ∃ r, nxtP D1 r ∧ e = .returned (.int .i64 r) ∧ Below wx.heap.size wx w') := fun wx hb => iNext_any D1 [.slice (some ⟨db, doff, none⟩) D1.I.length pI4, .slice aD4 D1.D.length pD4, .slice aA4 D1.A.length pA4, .int .i64 D1.now] wx HFF.out.okD HFF.out.gud (HRDf.out.below hb)
    have HQo : Hid (∀ (wx : World), Below wf.heap.size wf wx → Calls Try.prog 36 #[.agg #[.slice (some ⟨db, doff, none⟩) D1.I.length pI4, .slice aD4 D1.D.length pD4, .slice aA4 D1.A.length pA4, .int .i64 D1.now]] wx fun e w' => e = .returned (.bool true) ∧ Below wx.heap.size wx w') := fun wx hb => by
      have := iQueueOk_any D1 [.slice (some ⟨db, doff, none⟩) D1.I.length pI4, .slice aD4 D1.D.length pD4, .slice aA4 D1.A.length pA4, .int .i64 D1.now] wx HFF.out.okD (HRDf.out.below hb)
      rwa [qOk_true HFF.out.gud] at this
    have hr0 := HFF.out.r0
    have hmx := HFF.out.rmax
    have hr1 := HFF.out.r1
    obtain ⟨hn0, hn1⟩ := HFF.out.now0
    have hwl : (W1.D.length : Int) = (T.D.length : Int) - 1 := by have := HFF.out.wlen; omega
    have hwle : W1.D.length ≤ 60 := by have := HFF.out.wlen; omega
    have HNX := hide HFF.out.next
    have hw1 : IntKind.i64.wrap (Zf + 1) = Zf + 1 := by rw [IntKind.wrap_i64]; omega
    have hw2 : IntKind.i64.wrap (D1.now + 64) = D1.now + 64 := by rw [IntKind.wrap_i64]; omega
    have hw3 : IntKind.i64.wrap ((T.D.length : Int) - 1) = (T.D.length : Int) - 1 := by rw [IntKind.wrap_i64]; omega
    have s0 := O13f.out.cell 0 _ rfl
    have s1 := O13f.out.cell 1 _ rfl
    have s2 := O13f.out.cell 2 _ rfl
    have u0 := O11f.out.cell 0 _ rfl
    have u1 := O11f.out.cell 1 _ rfl
    have u2 := O11f.out.cell 2 _ rfl
    have u3 := O11f.out.cell 3 _ rfl
    have v1 := O14f.out.cell 1 _ rfl
    have v2 := O4f.out.cell 1 _ rfl
    have v3 := O16f.out.cell 3 _ rfl
    have hb0 : Hid (Below wf.heap.size wf wf) := Below.refl _ _
    clear HFF HRDf
    have h6 : ¬ (1000000 : Int) < R := by have := hmx; omega
    have h6d : decide ((1000000 : Int) < R) = false := decide_eq_false h6
    have HLn := hide HPN.out
    rw [HLn.out] at v3
    clear hmx h6
    go_wp2
    go_region_held3 (fun w' => w'.cell? ⟨w4.heap.size + 1, 0, none⟩ = some (.string s) ∧ w'.cell? ⟨w4.heap.size + 1, 1, none⟩ = some (.int .i64 R) ∧ w'.cell? ⟨w4.heap.size + 1, 2, none⟩ = some (.int .i64 (Zf + 1)) ∧ w'.cell? ⟨w4.heap.size, 0, none⟩ = some (.slice (some ⟨db, doff, none⟩) D1.I.length pI4) ∧ w'.cell? ⟨w4.heap.size, 1, none⟩ = some (.slice aD4 D1.D.length pD4) ∧ w'.cell? ⟨w4.heap.size, 2, none⟩ = some (.slice aA4 D1.A.length pA4) ∧ w'.cell? ⟨w4.heap.size, 3, none⟩ = some (.int .i64 D1.now) ∧ w'.cell? ⟨w5.heap.size, 1, none⟩ = some (.slice aD5 W1.D.length pD5) ∧ w'.cell? ⟨w2.heap.size, 1, none⟩ = some (.slice (some ⟨tb, toff, none⟩) T.D.length pD2) ∧ w'.cell? ⟨w6.heap.size, 3, none⟩ = some (.int .i64 R)) (first | assumption | exact ⟨s0, s1, s2, u0, u1, u2, u3, v1, v2, v3⟩ | go_keep)
        (first
          | (go_at_call 41; refine (HNi.out _ (show Below wf.heap.size wf _ from (by repeat (first | with_reducible exact hb0.out | with_reducible refine Below.drew ?_ | with_reducible refine below_drewN ?_ _)))).mono ?_; rintro e w7 ⟨r, hr, rfl, hc⟩; have hb1 : Hid (Below wf.heap.size wf w7) := Below.trans (show Below wf.heap.size wf _ from (by repeat (first | with_reducible exact hb0.out | with_reducible refine Below.drew ?_ | with_reducible refine below_drewN ?_ _))) (hc.mono (by (try simp) <;> first | done | exact hb0.out.size)); clear hc; have hrr := HNX.out r hr; clear hr; have as0 := (O13f.out.below hb1.out).cell 0 _ rfl; have as1 := (O13f.out.below hb1.out).cell 1 _ rfl; have as2 := (O13f.out.below hb1.out).cell 2 _ rfl; have au0 := (O11f.out.below hb1.out).cell 0 _ rfl; have au1 := (O11f.out.below hb1.out).cell 1 _ rfl; have au2 := (O11f.out.below hb1.out).cell 2 _ rfl; have au3 := (O11f.out.below hb1.out).cell 3 _ rfl; have av1 := (O14f.out.below hb1.out).cell 1 _ rfl; have av2 := (O4f.out.below hb1.out).cell 1 _ rfl; have av3 := (O16f.out.below hb1.out).cell 3 _ rfl; rw [HLn.out] at av3)
          | (go_at_call 36; refine (HQo.out _ (show Below wf.heap.size wf _ from (by repeat (first | with_reducible exact hb1.out | with_reducible refine Below.drew ?_ | with_reducible refine below_drewN ?_ _)))).mono ?_; rintro e w8 ⟨rfl, hc⟩; have hb2 : Hid (Below wf.heap.size wf w8) := Below.trans (show Below wf.heap.size wf _ from (by repeat (first | with_reducible exact hb1.out | with_reducible refine Below.drew ?_ | with_reducible refine below_drewN ?_ _))) (hc.mono (by (try simp) <;> first | done | exact hb1.out.size)); clear hc; have bs0 := (O13f.out.below hb2.out).cell 0 _ rfl; have bs1 := (O13f.out.below hb2.out).cell 1 _ rfl; have bs2 := (O13f.out.below hb2.out).cell 2 _ rfl; have bu0 := (O11f.out.below hb2.out).cell 0 _ rfl; have bu1 := (O11f.out.below hb2.out).cell 1 _ rfl; have bu2 := (O11f.out.below hb2.out).cell 2 _ rfl; have bu3 := (O11f.out.below hb2.out).cell 3 _ rfl; have bv1 := (O14f.out.below hb2.out).cell 1 _ rfl; have bv2 := (O4f.out.below hb2.out).cell 1 _ rfl; have bv3 := (O16f.out.below hb2.out).cell 3 _ rfl; rw [HLn.out] at bv3))
    go_wp2
    go_ret
    exact ⟨rfl, HB1.out.trans ((B16.out.trans (hb2.out.mono B16.out.size)).mono HB1.out.size)⟩
end Go.Proofs.Ytpmhmcekkppbhaa
