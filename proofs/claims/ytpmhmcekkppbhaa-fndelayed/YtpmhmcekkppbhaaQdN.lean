/- Queues: NextAt on both sides, at what is right. -/
import Derived.Test.YtpmhmcekkppbhaaQdP
import Derived.Test.YtpmhmcekkppbhaaQfH
namespace Go.Proofs.Ytpmhmcekkppbhaa
open Go.RowKit Go.BigFrame
set_option linter.unusedVariables false

/-- the least Ready of the first q -/
def leastP (L : List It) (q : Nat) (m : Int) : Prop := (∃ (j : Nat) (h : j < L.length), j < q ∧ (L[j]'h).2.1 = m) ∧ ∀ (j : Nat) (h : j < L.length), j < q → m ≤ (L[j]'h).2.1
theorem leastP.uniq {L : List It} {q : Nat} {m m' : Int} (h : leastP L q m) (h' : leastP L q m') : m = m' := by
  obtain ⟨⟨j, a1, a2, a3⟩, b⟩ := h
  obtain ⟨⟨j', c1, c2, c3⟩, d⟩ := h'
  have := b j' c1 c2
  have := d j a1 a2
  omega
theorem leastP.one {L : List It} (h : 0 < L.length) : leastP L 1 (L[0]'h).2.1 := ⟨⟨0, h, by omega, rfl⟩, fun j hj hlt => by
  have : j = 0 := by omega
  subst this
  exact Int.le_refl _⟩
theorem leastP.succ {L : List It} {q : Nat} {m : Int} (h : leastP L q m) (hq : q < L.length) : leastP L (q + 1) (min m (L[q]'hq).2.1) := by
  obtain ⟨⟨j, a1, a2, a3⟩, b⟩ := h
  refine ⟨?_, fun i hi hlt => ?_⟩
  · by_cases hm : m ≤ (L[q]'hq).2.1
    · exact ⟨j, a1, by omega, by omega⟩
    · exact ⟨q, hq, by omega, by omega⟩
  · by_cases e : i = q
    · subst e; omega
    · have := b i hi (by omega); omega
theorem leastP.again {L : List It} {q : Nat} {m : Int} (h : leastP L 1 m) (hq : 0 < L.length) : leastP L 1 (min m (L[0]'hq).2.1) := by
  have := h.uniq (leastP.one hq)
  rw [← this, Int.min_self]
  exact h
def nxtP (Q : Qu) (r : Int) : Prop := (Q.I.length = 0 ∧ r = -1) ∨ ∃ m, leastP Q.I Q.I.length m ∧ r = max m Q.now
theorem nxtP.uniq {Q : Qu} {r r' : Int} (h : nxtP Q r) (h' : nxtP Q r') : r = r' := by
  rcases h with ⟨a, b⟩ | ⟨m, a, b⟩ <;> rcases h' with ⟨c, d⟩ | ⟨m', c, d⟩
  · rw [b, d]
  · obtain ⟨⟨j, c1, -, -⟩, -⟩ := c; omega
  · obtain ⟨⟨j, c1, -, -⟩, -⟩ := a; omega
  · rw [b, d, a.uniq c]
theorem l9Least_any (x y : Int) (w : World) : Calls Try.prog 100 #[.int .i64 x, .int .i64 y] w fun e w' => e = .returned (.int .i64 (min x y)) ∧ w' = w := by
  by_cases h : x < y
  · have hm : Hid (min x y = x) := Int.min_eq_left (by omega)
    go_enter Try.func100, Try.ntmps100
    go_wp2
    go_ret
    exact ⟨ret_int hm.out.symm, rfl⟩
  · have hm : Hid (min x y = y) := Int.min_eq_right (by omega)
    go_enter Try.func100, Try.ntmps100
    go_wp2
    go_ret
    exact ⟨ret_int hm.out.symm, rfl⟩
set_option maxRecDepth 20000 in
set_option maxHeartbeats 1600000 in
theorem sNext_any (Q : Qu) (xs : List Value) (w : World) (hq : okQ Q) (hp : qOkP Q) (hx : rdQ w Q xs) :
    Calls Try.prog 42 #[.agg xs.toArray] w fun e w' => ∃ r, nxtP Q r ∧ e = .returned (.int .i64 r) ∧ Below w.heap.size w w' := by
  have hxx := hx
  obtain ⟨cI, cD, cA, rfl, hI, hD, hA⟩ := hx
  have l1 := hq.1.1
  obtain ⟨aI, pI, rfl, -, -⟩ := hI.itS
  obtain ⟨aD, pD, rfl, -, -⟩ := hD.itS
  obtain ⟨aA, pA, rfl, -, -⟩ := hA.stS
  have HX := hide hxx
  have HK := hide hq
  have HI := hide hI
  have HT : Hid (qOk Q = true) := qOk_true hp
  clear hI hD hA hxx hq hp
  have HOK : Hid (∀ wx, Below w.heap.size w wx → Calls Try.prog 35 #[.agg #[.slice aI Q.I.length pI, .slice aD Q.D.length pD, .slice aA Q.A.length pA, .int .i64 Q.now]] wx fun e w' => e = .returned (.bool true) ∧ Below wx.heap.size wx w') := fun wx hb => by
    have h := sQueueOk_any Q _ wx HK.out (HX.out.below hb)
    rwa [HT.out] at h
  go_enter Try.func42, Try.ntmps42
  have OX : Hid (objU (w.alloc (.cells #[.slice aI Q.I.length pI, .slice aD Q.D.length pD, .slice aA Q.A.length pA, .int .i64 Q.now] 66)) w.heap.size 66 [.slice aI Q.I.length pI, .slice aD Q.D.length pD, .slice aA Q.A.length pA, .int .i64 Q.now]) := objU.new _ _ _
  have BX : Hid (Below w.heap.size w (w.alloc (.cells #[.slice aI Q.I.length pI, .slice aD Q.D.length pD, .slice aA Q.A.length pA, .int .i64 Q.now] 66))) := below_alloc _ _
  go_wp2_with fail
  refine (HOK.out _ BX.out).mono ?_
  rintro e w1 ⟨rfl, hb1⟩
  have OX1 := hide (OX.out.below hb1)
  have B1 : Hid (Below w.heap.size w w1) := BX.out.trans (hb1.mono BX.out.size)
  have x0 := OX1.out.cell 0 _ rfl
  have x3 := OX1.out.cell 3 _ rfl
  clear hb1 OX BX HOK
  by_cases h0 : Q.I.length = 0
  · have h0' : ((Q.I.length : Int) == 0) = true := by rw [beq_iff_eq]; omega
    have HR : Hid (nxtP Q (-1)) := .inl ⟨h0, rfl⟩
    clear h0
    go_wp2
    go_ret
    exact ⟨_, HR.out, rfl, B1.out⟩
  · have h0' : ((Q.I.length : Int) == 0) = false := by rw [beq_eq_false_iff_ne]; omega
    have hp0 : 0 < Q.I.length := by omega
    obtain ⟨bi, oi, rfl, hbi, -, c1, -⟩ := (HI.out.below B1.out).itAt hp0
    have hp0' : (0 : Int) < (Q.I.length : Int) := by omega
    have H1 := hide (leastP.one hp0)
    rw [Nat.zero_mul, Nat.add_zero] at c1
    generalize (Q.I[0]'hp0).2.1 = m0 at *
    go_wp2
    go_loop [3, 4] (fun s i => ∃ (q : Nat) (m : Int), 1 ≤ q ∧ q ≤ Q.I.length ∧ i = .int .i64 q ∧ s = .int .i64 m ∧ Hid (leastP Q.I q m)) (fun _ i => Q.I.length - (intOf i).toNat)
    case atStart => exact ⟨1, m0, by omega, hp0, rfl, rfl, H1⟩
    case round =>
      obtain ⟨q, m, hq1, hq, rfl, rfl, Hm⟩ := hrel
      have hq0 : (0 : Int) ≤ (q : Int) := Int.natCast_nonneg _
      by_cases hlt : q < Q.I.length
      · have hlt' : (q : Int) < (Q.I.length : Int) := by omega
        obtain ⟨b', o', e, -, -, c2, -⟩ := (HI.out.below B1.out).itAt hlt
        cases e
        have Hn := hide (Hm.out.succ hlt)
        generalize (Q.I[q]'hlt).2.1 = y at *
        have HL := hide (l9Least_any m y)
        go_wp2_with (go_at_call 100; refine (HL.out _).mono ?_; clear HL; rintro e w' ⟨rfl, hw⟩; obtain rfl : w1 = w' := hw.symm)
        go_round
        case rel => exact ⟨q + 1, _, by omega, by omega, by go_num, rfl, Hn⟩
        case measure => simp [intOf]; omega
      · have e : q = Q.I.length := by omega
        subst e
        have hlt' : ¬ (Q.I.length : Int) < (Q.I.length : Int) := by omega
        by_cases hmn : m < Q.now
        · have HR : Hid (nxtP Q Q.now) := .inr ⟨m, Hm.out, by omega⟩
          clear Hm
          go_wp2
          go_ret
          exact ⟨_, HR.out, rfl, B1.out⟩
        · have HR : Hid (nxtP Q m) := .inr ⟨m, Hm.out, by omega⟩
          clear Hm
          go_wp2
          go_ret
          exact ⟨_, HR.out, rfl, B1.out⟩
set_option maxRecDepth 20000 in
set_option maxHeartbeats 1600000 in
theorem iNext_any (Q : Qu) (xs : List Value) (w : World) (hq : okQ Q) (hp : qOkP Q) (hx : rdQ w Q xs) :
    Calls Try.prog 41 #[.agg xs.toArray] w fun e w' => ∃ r, nxtP Q r ∧ e = .returned (.int .i64 r) ∧ Below w.heap.size w w' := by
  have hxx := hx
  obtain ⟨cI, cD, cA, rfl, hI, hD, hA⟩ := hx
  have l1 := hq.1.1
  obtain ⟨aI, pI, rfl, -, -⟩ := hI.itS
  obtain ⟨aD, pD, rfl, -, -⟩ := hD.itS
  obtain ⟨aA, pA, rfl, -, -⟩ := hA.stS
  have HX := hide hxx
  have HK := hide hq
  have HI := hide hI
  have HT : Hid (qOk Q = true) := qOk_true hp
  clear hI hD hA hxx hq hp
  have HOK : Hid (∀ wx, Below w.heap.size w wx → Calls Try.prog 36 #[.agg #[.slice aI Q.I.length pI, .slice aD Q.D.length pD, .slice aA Q.A.length pA, .int .i64 Q.now]] wx fun e w' => e = .returned (.bool true) ∧ Below wx.heap.size wx w') := fun wx hb => by
    have h := iQueueOk_any Q _ wx HK.out (HX.out.below hb)
    rwa [HT.out] at h
  go_enter Try.func41, Try.ntmps41
  have OX : Hid (objU (w.alloc (.cells #[.slice aI Q.I.length pI, .slice aD Q.D.length pD, .slice aA Q.A.length pA, .int .i64 Q.now] 66)) w.heap.size 66 [.slice aI Q.I.length pI, .slice aD Q.D.length pD, .slice aA Q.A.length pA, .int .i64 Q.now]) := objU.new _ _ _
  have BX : Hid (Below w.heap.size w (w.alloc (.cells #[.slice aI Q.I.length pI, .slice aD Q.D.length pD, .slice aA Q.A.length pA, .int .i64 Q.now] 66))) := below_alloc _ _
  go_wp2_with fail
  refine (HOK.out _ BX.out).mono ?_
  rintro e w1 ⟨rfl, hb1⟩
  have OX1 := hide (OX.out.below hb1)
  have B1 : Hid (Below w.heap.size w w1) := BX.out.trans (hb1.mono BX.out.size)
  have x0 := OX1.out.cell 0 _ rfl
  have x3 := OX1.out.cell 3 _ rfl
  clear hb1 OX BX HOK
  by_cases h0 : Q.I.length = 0
  · have h0' : ((Q.I.length : Int) == 0) = true := by rw [beq_iff_eq]; omega
    have HR : Hid (nxtP Q (-1)) := .inl ⟨h0, rfl⟩
    clear h0
    go_wp2
    go_ret
    exact ⟨_, HR.out, rfl, B1.out⟩
  · have h0' : ((Q.I.length : Int) == 0) = false := by rw [beq_eq_false_iff_ne]; omega
    have hp0 : 0 < Q.I.length := by omega
    obtain ⟨bi, oi, rfl, hbi, -, c1, -⟩ := (HI.out.below B1.out).itAt hp0
    have hp0' : (0 : Int) < (Q.I.length : Int) := by omega
    have H1 := hide (leastP.one hp0)
    rw [Nat.zero_mul, Nat.add_zero] at c1
    generalize hm0 : (Q.I[0]'hp0).2.1 = m0 at *
    have HM0 := hide hm0
    clear hm0
    go_wp2
    go_loopw [3, 21] (fun s i wr => ∃ (q : Nat) (m : Int), q ≤ Q.I.length ∧ i = .int .i64 q ∧ s = .int .i64 m ∧ Hid (leastP Q.I (max q 1) m) ∧ Hid (Below w1.heap.size w1 wr)) (fun _ i _ => Q.I.length - (intOf i).toNat)
    case atStart => exact ⟨0, m0, by omega, rfl, rfl, H1, Below.refl _ _⟩
    case round =>
      obtain ⟨q, m, hq, rfl, rfl, Hm, Hb⟩ := hrel
      have hq0 : (0 : Int) ≤ (q : Int) := Int.natCast_nonneg _
      have Br : Hid (Below w.heap.size w wr) := B1.out.trans (Hb.out.mono B1.out.size)
      by_cases hlt : q < Q.I.length
      · have hlt' : (q : Int) < (Q.I.length : Int) := by omega
        obtain ⟨b', o', e, hbq, d0, d1, d2⟩ := (HI.out.below Br.out).itAt hlt
        cases e
        have Hn : Hid (leastP Q.I (max (q + 1) 1) (min m (Q.I[q]'hlt).2.1)) := by
          show leastP _ _ _
          have h := Hm.out
          cases q with
          | zero => exact leastP.again (q := 0) h hlt
          | succ q => rw [Nat.max_eq_left (by omega)] at h ⊢; exact h.succ hlt
        have HBn : Hid (Below w1.heap.size w1 (wr.alloc (.cells #[.string (Q.I[q]'hlt).1, .int .i64 (Q.I[q]'hlt).2.1, .int .i64 (Q.I[q]'hlt).2.2] 75))) := Hb.out.alloc Hb.out.size _
        clear Hm
        generalize (Q.I[q]'hlt).1 = y1 at *
        generalize (Q.I[q]'hlt).2.1 = y2 at *
        generalize (Q.I[q]'hlt).2.2 = y3 at *
        go_wp2
        go_roundw
        case rel => exact ⟨q + 1, _, by omega, by go_num, rfl, Hn, HBn⟩
        case measure => simp [intOf]; omega
      · have e : q = Q.I.length := by omega
        subst e
        have hlt' : ¬ (Q.I.length : Int) < (Q.I.length : Int) := by omega
        have HR : Hid (nxtP Q (max m Q.now)) := .inr ⟨m, by have h := Hm.out; rwa [Nat.max_eq_left (by omega)] at h, rfl⟩
        have OXr := hide (OX1.out.below Hb.out)
        have z3 := OXr.out.cell 3 _ rfl
        clear Hm
        go_wp2
        go_ret
        exact ⟨_, HR.out, rfl, Br.out⟩
end Go.Proofs.Ytpmhmcekkppbhaa
