/- FnMatched: its walk. -/
import Derived.Test.YtbihhcbbjdjhcaaMchD
namespace Go.Proofs.Ytbihhcbbjdjhcaa
open Go.RowKit Go.BigFrame
set_option linter.unusedVariables false
set_option linter.unusedSimpArgs false

theorem big_anyM (n cap : Nat) (a : Option Addr) (w : World) : Calls Try.prog 4 #[.slice a n cap] w fun e w' => e = .returned (.bool (decide (1048576 < n))) ∧ w' = w := by
  by_cases h : 1048576 < n
  · have h' : (1048576 : Int) < (n : Int) := by omega
    rw [decide_eq_true h]
    go_enter Try.func4, Try.ntmps4
    go_wp2
    go_ret
    exact ⟨rfl, rfl⟩
  · have h' : ¬ (1048576 : Int) < (n : Int) := by omega
    rw [decide_eq_false h]
    go_enter Try.func4, Try.ntmps4
    go_wp2
    go_ret
    exact ⟨rfl, rfl⟩
theorem rowOf_belowM {w w' : World} {a : Option Addr} {ls : List (ByteArray × ByteArray)} (h : rowOf w a ls) (hb : Below w.heap.size w w') : rowOf w' a ls := fun hl => by
  obtain ⟨b, off, e, h⟩ := h hl
  refine ⟨b, off, e, fun i hi => ?_⟩
  have hbb := World.block_lt_of_cell? _ _ (h i hi).1
  exact ⟨(hb.cell (p := ⟨b, off + i * 2, none⟩) hbb).trans (h i hi).1, (hb.cell (p := ⟨b, off + i * 2 + 1, none⟩) hbb).trans (h i hi).2⟩
/-- one term in a block that was just laid -/
theorem termOne {w wx : World} {b : Nat} {t : TD} {va : Option Addr} {vc : Nat} (h0 : wx.cell? ⟨b, 0, none⟩ = some (.int .i64 t.1)) (h1 : wx.cell? ⟨b, 1, none⟩ = some (.string t.2.1)) (h2 : wx.cell? ⟨b, 2, none⟩ = some (.slice va t.2.2.length vc)) (hs : strOf wx va t.2.2) (hl : t.2.2.length ≤ vc) (hn : va = none → vc = 0) : termsOf wx (some ⟨b, 0, none⟩) [t] := fun _ => ⟨b, 0, rfl, fun i hi => by
  have hi1 : i < 1 := hi
  obtain rfl : i = 0 := by omega
  exact ⟨by simpa using h0, by simpa using h1, va, vc, by simpa using h2, hs, hl, hn⟩⟩
set_option maxRecDepth 20000 in
set_option maxHeartbeats 3200000 in
theorem fnMatched_walk (n cap : Nat) (a : Option Addr) (w : World) (hl : n ≤ maxLen) (hc : codeAll w a n) :
    Calls Try.prog 3 #[.slice a n cap] w fun e w' => e = .returned (.bool true) ∧ Below w.heap.size w w' := by
  have hbig := fun wx => big_anyM n cap a wx
  by_cases hb : 1048576 < n
  · rw [decide_eq_true hb] at hbig
    have HB := hide hbig
    clear hbig hc hl
    go_enter Try.func3, Try.ntmps3
    go_wp2_with (go_at_call 4; refine (HB.out _).mono ?_; rintro e w ⟨rfl, rfl⟩)
    go_ret
    exact ⟨rfl, Below.refl _ _⟩
  rw [decide_eq_false hb] at hbig
  have HB := hide hbig
  have HDr := hide (drawMatches_any n cap a w (by omega) hc)
  clear hbig hc hl hb
  go_enter Try.func3, Try.ntmps3
  go_wp2_with (go_at_call 4; refine (HB.out _).mono ?_; rintro e w ⟨rfl, rfl⟩)
  refine HDr.out.mono ?_
  rintro e w1 ⟨ts, ls, g, c, g2, c2, rfl, HG, HT, HL, HB1⟩
  have hm : 1000 ≤ maxLen := by unfold maxLen; omega
  have hlt : ts.length ≤ maxLen := by have := HG.out.1.1; omega
  have hll : ls.length ≤ maxLen := by have := HG.out.2.1; omega
  have hzt : okTerms ts := fun t ht => by
    obtain ⟨x1, x2, x3, x4, x5⟩ := HG.out.1.2 t ht
    exact ⟨by omega, by omega, fun s hs => by have := x5 s hs; omega⟩
  have hzl : okSizes ls := fun p hp => ⟨by have := (HG.out.2.2 p hp).1; omega, by have := (HG.out.2.2 p hp).2; omega⟩
  have HS0 : Hid (∀ wx, Below w1.heap.size w1 wx → Calls Try.prog 6 #[.slice (some ⟨g, 0, none⟩) ts.length c] wx fun e w' => e = .returned (.bool (selB ts)) ∧ Below wx.heap.size wx w') := fun wx hb => sselOk_any _ c ts wx hlt hzt (HT.out.below hb)
  have HS1 : Hid (∀ wx, Below w1.heap.size w1 wx → Calls Try.prog 7 #[.slice (some ⟨g2, 0, none⟩) ls.length c2] wx fun e w' => e = .returned (.bool (labelsB ls)) ∧ Below wx.heap.size wx w') := fun wx hb => (slabelsOk_any _ c2 ls wx hll hzl (rowOf_belowM HL.out hb)).mono (fun e w' ⟨e1, n, e2⟩ => ⟨e1, e2 ▸ below_drewN (Below.refl _ _) _⟩)
  have HM1 : Hid (∀ wx, Below w1.heap.size w1 wx → Calls Try.prog 9 #[.slice (some ⟨g, 0, none⟩) ts.length c, .slice (some ⟨g2, 0, none⟩) ls.length c2] wx fun e w' => e = .returned (.bool (matchB ts ls)) ∧ Below wx.heap.size wx w') := fun wx hb => smatches_any _ c ts _ c2 ls wx hlt hzt (HT.out.below hb) hll hzl (rowOf_belowM HL.out hb)
  have HM0 : Hid (∀ wx, Below w1.heap.size w1 wx → Calls Try.prog 8 #[.slice (some ⟨g, 0, none⟩) ts.length c, .slice (some ⟨g2, 0, none⟩) ls.length c2] wx fun e w' => e = .returned (.bool (matchB ts ls)) ∧ Below wx.heap.size wx w') := fun wx hb => imatches_any _ c ts _ c2 ls wx hlt (fun t ht => (hzt t ht).2.1) (HT.out.below hb) hll (rowOf_belowM HL.out hb)
  have HMN : Hid (∀ wx x y, Below w1.heap.size w1 wx → Calls Try.prog 8 #[.slice x 0 y, .slice (some ⟨g2, 0, none⟩) ls.length c2] wx fun e w' => e = .returned (.bool (matchB [] ls)) ∧ Below wx.heap.size wx w') := fun wx x y hb => imatches_any x y [] _ c2 ls wx (Nat.zero_le _) (fun t ht => by cases ht) (fun h => by cases h) hll (rowOf_belowM HL.out hb)
  have HMO : Hid (∀ (t : TD) (wx : World) (b y : Nat), t.2.2.length ≤ maxLen → Below w1.heap.size w1 wx → termsOf wx (some ⟨b, 0, none⟩) [t] → Calls Try.prog 8 #[.slice (some ⟨b, 0, none⟩) 1 y, .slice (some ⟨g2, 0, none⟩) ls.length c2] wx fun e w' => e = .returned (.bool (matchB [t] ls)) ∧ Below wx.heap.size wx w') := fun t wx b y ht hb hx => imatches_any _ y [t] _ c2 ls wx (show (1 : Nat) ≤ maxLen by omega) (fun u hu => by rw [List.mem_singleton.1 hu]; exact ht) hx hll (rowOf_belowM HL.out hb)
  have HZ := hide hzt
  have h9 := HG.out.1.1
  clear hm hlt hll hzt hzl HL HDr HB HG
  have hw1 : Hid (Below w.heap.size w w1) := HB1.out
  have PA : Hid (selB ts = true → labelsB ls = true → matchB ts ls = mchU ts ls ts.length) := fun h k => by rw [mchU_full]; exact mch_all h k
  have PN : Hid (labelsB ls = true → matchB [] ls = true) := fun k => mch_nil k
  have PO : Hid (selB ts = true → labelsB ls = true → ∀ q (h : q < ts.length), mchU ts ls (q + 1) = (mchU ts ls q && matchB [ts[q]'h] ls)) := fun h k q hq => by rw [mchU_succ hq, mch_one (mch_sel h (List.getElem_mem hq)) k]
  have PH : Hid (selB ts = true → labelsB ls = true → ∀ (h : 0 < ts.length), (matchB [(4, (ts[0]'h).2.1, [])] ls != matchB [(5, (ts[0]'h).2.1, [])] ls) = true) := fun h k h0 => mch_hasnot (mch_sel h (List.getElem_mem h0)) k
  generalize selB ts = sb at *
  generalize labelsB ls = lb at *
  generalize hmt : matchB ts ls = mt at *
  generalize hmn : matchB [] ls = mn at *
  clear hmt hmn
  go_wp2_with fail
  refine (HS0.out _ (Below.refl _ _)).mono ?_
  rintro e w2 ⟨rfl, hb2⟩
  have B2 := hide hb2
  clear hb2 HS0
  cases sb with
  | false =>
    clear PA PN PO PH HMN HMO HS1 HZ HT
    go_wp2_with fail
    refine (HM0.out _ B2.out).mono ?_
    rintro e v1 ⟨rfl, hv1⟩
    have V1 : Hid (Below w1.heap.size w1 v1) := B2.out.trans (hv1.mono B2.out.size)
    clear hv1
    go_wp2_with fail
    refine (HM1.out _ V1.out).mono ?_
    rintro e v2 ⟨rfl, hv2⟩
    have V2 : Hid (Below w1.heap.size w1 v2) := V1.out.trans (hv2.mono V1.out.size)
    clear hv2 V1
    have hmm : (mt == mt) = true := by simp
    go_wp2
    go_ret
    exact ⟨rfl, hw1.out.trans (V2.out.mono hw1.out.size)⟩
  | true =>
    go_wp2_with fail
    refine (HS1.out _ B2.out).mono ?_
    rintro e w3 ⟨rfl, hb3⟩
    have B3 : Hid (Below w1.heap.size w1 w3) := B2.out.trans (hb3.mono B2.out.size)
    clear hb3 HS1 B2
    cases lb with
    | false =>
      clear PA PN PO PH HMN HMO HZ HT
      go_wp2_with fail
      refine (HM0.out _ B3.out).mono ?_
      rintro e v1 ⟨rfl, hv1⟩
      have V1 : Hid (Below w1.heap.size w1 v1) := B3.out.trans (hv1.mono B3.out.size)
      clear hv1
      go_wp2_with fail
      refine (HM1.out _ V1.out).mono ?_
      rintro e v2 ⟨rfl, hv2⟩
      have V2 : Hid (Below w1.heap.size w1 v2) := V1.out.trans (hv2.mono V1.out.size)
      clear hv2 V1
      have hmm : (mt == mt) = true := by simp
      go_wp2
      go_ret
      exact ⟨rfl, hw1.out.trans (V2.out.mono hw1.out.size)⟩
    | true =>
      by_cases h0 : ts.length = 0
      · have h0' : ((ts.length : Int) == 0) = true := by rw [beq_iff_eq]; omega
        clear PA PN PO PH HMN HMO HZ HT h0
        go_wp2_with fail
        refine (HM0.out _ B3.out).mono ?_
        rintro e v1 ⟨rfl, hv1⟩
        have V1 : Hid (Below w1.heap.size w1 v1) := B3.out.trans (hv1.mono B3.out.size)
        clear hv1
        go_wp2_with fail
        refine (HM1.out _ V1.out).mono ?_
        rintro e v2 ⟨rfl, hv2⟩
        have V2 : Hid (Below w1.heap.size w1 v2) := V1.out.trans (hv2.mono V1.out.size)
        clear hv2 V1
        have hmm : (mt == mt) = true := by simp
        go_wp2
        go_ret
        exact ⟨rfl, hw1.out.trans (V2.out.mono hw1.out.size)⟩
      · have h0' : ((ts.length : Int) == 0) = false := by rw [beq_eq_false_iff_ne]; omega
        have h0p : 0 < ts.length := by omega
        have pa := PA.out (by first | rfl | trivial) (by first | rfl | trivial)
        have pn := PN.out (by first | rfl | trivial)
        have PO2 := hide (PO.out (by first | rfl | trivial) (by first | rfl | trivial))
        have PH2 := hide (PH.out (by first | rfl | trivial) (by first | rfl | trivial) h0p)
        have PA2 := hide pa
        subst pn
        clear PA PN PO PH HM1 pa h0
        go_wp2
        go_loopw [5, 6] (fun al i wr => ∃ (q : Nat), q ≤ ts.length ∧ i = .int .i64 q ∧ al = .bool (mchU ts ls q) ∧ Hid (Below w1.heap.size w1 wr)) (fun _ i _ => ts.length - (intOf i).toNat)
        case atStart => exact ⟨0, Nat.zero_le _, rfl, rfl, B3⟩
        case round =>
          clear B3
          obtain ⟨q, hq, rfl, rfl, BR⟩ := hrel
          by_cases hlt : q < ts.length
          · have hqs := hide (PO2.out q hlt)
            cases hu : mchU ts ls q with
            | false =>
              rw [hu] at hqs
              have hqn : Hid (mchU ts ls (q + 1) = false) := by show _ = _; rw [hqs.out]; rfl
              clear hqs hu
              go_wp2
              go_roundw
              case rel => exact ⟨q + 1, by omega, by go_num, by rw [hqn.out], BR⟩
              case measure => simp [intOf]; omega
            | true =>
              rw [hu] at hqs
              obtain ⟨b, off, e, hat⟩ := (HT.out.below BR.out) (by omega)
              cases e
              obtain ⟨c0, c1, va, vc, c2, hs, hvl, hvn⟩ := hat q hlt
              rw [Nat.zero_add] at c0 c1 c2
              have hZ := (HZ.out _ (List.getElem_mem hlt)).2.1
              generalize ts[q]'hlt = X at *
              obtain ⟨kd, K, vs⟩ := X
              dsimp only at *
              have HNX := hide (hqs.out)
              have HSV := hide hs
              have HVL : Hid (vs.length ≤ vc ∧ (va = none → vc = 0) ∧ vs.length ≤ maxLen) := ⟨hvl, hvn, hZ⟩
              have BA : Hid (Below wr.heap.size wr (wr.alloc (.cells #[.int .i64 kd, .string K, .slice va vs.length vc] 33))) := (Below.refl _ _).alloc (Nat.le_refl _) _
              have hTO : Hid (termsOf (wr.alloc (.cells #[.int .i64 kd, .string K, .slice va vs.length vc] 33)) (some ⟨wr.heap.size, 0, none⟩) [(kd, K, vs)]) := termOne (w := wr) ((World.cell?_alloc_at _ _ _ _ rfl).trans rfl) ((World.cell?_alloc_at _ _ _ _ rfl).trans rfl) ((World.cell?_alloc_at _ _ _ _ rfl).trans rfl) (HSV.out.below BA.out) HVL.out.1 HVL.out.2.1
              clear hqs hs hvl hvn hat hu hZ
              go_wp2_with fail
              refine (HMO.out (kd, K, vs) _ _ _ HVL.out.2.2 (BR.out.trans (BA.out.mono BR.out.size)) hTO.out).mono ?_
              rintro e w5 ⟨rfl, hb5⟩
              have B5 : Hid (Below w1.heap.size w1 w5) := (BR.out.trans (BA.out.mono BR.out.size)).trans (hb5.mono (BR.out.trans (BA.out.mono BR.out.size)).size)
              clear hb5 BR BA hTO HSV c0 c1 c2
              go_wp2
              go_roundw
              case rel => exact ⟨q + 1, by omega, by go_num, by rw [HNX.out]; simp, B5⟩
              case measure => simp [intOf]; omega
          · have e : q = ts.length := by omega
            subst e
            obtain ⟨b, off, e, hat⟩ := HT.out (by omega)
            cases e
            obtain ⟨c0, c1, -⟩ := hat 0 h0p
            rw [← PA2.out]
            have HK1 := hide c1
            have ph := PH2.out
            generalize (ts[0]'h0p).2.1 = K at *
            clear c0 c1 hat PH2 PO2 PA2
            generalize hm4 : matchB [(4, K, [])] ls = m4 at *
            generalize hm5 : matchB [(5, K, [])] ls = m5 at *
            have hgl : Hid (g < w1.heap.size) := World.block_lt_of_cell? _ _ HK1.out
            have k1 : wr.cell? ⟨g, 1, none⟩ = some (.string K) := (BR.out.cell (p := ⟨g, 1, none⟩) hgl.out).trans (by simpa using HK1.out)
            have BA : Hid (Below wr.heap.size wr (wr.alloc (.cells #[.int .i64 4, .string K, .slice none 0 0] 33))) := (Below.refl _ _).alloc (Nat.le_refl _) _
            have hTO : Hid (termsOf (wr.alloc (.cells #[.int .i64 4, .string K, .slice none 0 0] 33)) (some ⟨wr.heap.size, 0, none⟩) [(4, K, [])]) := termOne (w := wr) ((World.cell?_alloc_at _ _ _ _ rfl).trans rfl) ((World.cell?_alloc_at _ _ _ _ rfl).trans rfl) ((World.cell?_alloc_at _ _ _ _ rfl).trans rfl) (fun h => by cases h) (Nat.zero_le _) (fun _ => rfl)
            have BRA : Hid (Below w1.heap.size w1 (wr.alloc (.cells #[.int .i64 4, .string K, .slice none 0 0] 33))) := BR.out.trans (BA.out.mono BR.out.size)
            have HM4 := hide hm4
            have HM5 := hide hm5
            have HPH := hide ph
            clear hm4 hm5 ph
            go_wp2_with fail
            refine (HMO.out (4, K, []) _ _ _ (Nat.zero_le _) BRA.out hTO.out).mono ?_
            rintro e w5 ⟨rfl, hb5⟩
            rw [HM4.out]
            have B5 : Hid (Below w1.heap.size w1 w5) := BRA.out.trans (hb5.mono BRA.out.size)
            clear hb5 BR BA hTO BRA k1 HM4
            have k1 : w5.cell? ⟨g, 1, none⟩ = some (.string K) := (B5.out.cell (p := ⟨g, 1, none⟩) hgl.out).trans (by simpa using HK1.out)
            have BA : Hid (Below w5.heap.size w5 (w5.alloc (.cells #[.int .i64 5, .string K, .slice none 0 0] 33))) := (Below.refl _ _).alloc (Nat.le_refl _) _
            have hTO : Hid (termsOf (w5.alloc (.cells #[.int .i64 5, .string K, .slice none 0 0] 33)) (some ⟨w5.heap.size, 0, none⟩) [(5, K, [])]) := termOne (w := w5) ((World.cell?_alloc_at _ _ _ _ rfl).trans rfl) ((World.cell?_alloc_at _ _ _ _ rfl).trans rfl) ((World.cell?_alloc_at _ _ _ _ rfl).trans rfl) (fun h => by cases h) (Nat.zero_le _) (fun _ => rfl)
            have BRA : Hid (Below w1.heap.size w1 (w5.alloc (.cells #[.int .i64 5, .string K, .slice none 0 0] 33))) := B5.out.trans (BA.out.mono B5.out.size)
            go_wp2_with fail
            refine (HMO.out (5, K, []) _ _ _ (Nat.zero_le _) BRA.out hTO.out).mono ?_
            rintro e w6 ⟨rfl, hb6⟩
            rw [HM5.out]
            have B6 : Hid (Below w1.heap.size w1 w6) := BRA.out.trans (hb6.mono BRA.out.size)
            clear hb6 B5 BA hTO BRA k1 HM5 HK1
            go_wp2_with fail
            refine (HM0.out _ B6.out).mono ?_
            rintro e w7 ⟨rfl, hb7⟩
            have B7 : Hid (Below w1.heap.size w1 w7) := B6.out.trans (hb7.mono B6.out.size)
            have hmm : (mt == mt) = true := by simp
            have hph := HPH.out
            have hx : (m4 = true ∧ m5 = false) ∨ (m4 = false ∧ m5 = true) := by
              cases m4 <;> cases m5 <;> first | exact .inl ⟨rfl, rfl⟩ | exact .inr ⟨rfl, rfl⟩ | cases hph
            clear hb7 B6 HM0 HPH hph
            have BA : Hid (Below w1.heap.size w1 (w7.alloc (.cells #[] 33))) := B7.out.alloc B7.out.size _
            rcases hx with ⟨rfl, rfl⟩ | ⟨rfl, rfl⟩
            all_goals
              go_wp2_with fail
              refine (HMN.out _ _ _ BA.out).mono ?_
              rintro e w8 ⟨rfl, hb8⟩
              have B8 : Hid (Below w1.heap.size w1 w8) := BA.out.trans (hb8.mono BA.out.size)
              clear hb8 B7 BA HMN
              go_wp2
              go_ret
              exact ⟨rfl, hw1.out.trans (B8.out.mono hw1.out.size)⟩
end Go.Proofs.Ytbihhcbbjdjhcaa
