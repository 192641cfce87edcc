/- FnLabels: the walk. -/
import Derived.Test.YtlbpfcchaobgjaaDoorLabM
import Derived.Test.YtlbpfcchaobgjaaDoorParse2
import Derived.Test.YtlbpfcchaobgjaaDoorDrawS
import Derived.Test.YtlbpfcchaobgjaaDoorDrawA
import Derived.Deep.QuietTactic
namespace Go.Proofs.YtlbpfcchaobgjaaDoor
open Go.RowKit Go.BigFrame
set_option linter.unusedVariables false
set_option maxRecDepth 100000 in
set_option maxHeartbeats 1600000 in
theorem fnLabels_walk (n cap : Nat) (a : Option Addr) (m : Int) (w : World) (hl : n ≤ maxLen) (hc : codeAll w a n) (hm : w.cell? ⟨1, 0, none⟩ = some (.int .i64 m)) :
    Calls Tryd.prog 3 #[.slice a n cap] w fun e w' => e = .returned (.bool true) ∧ Below w.heap.size w w' := by
  have hbig := fun wx => big_any n cap a wx
  by_cases hb : 1048576 < n
  · rw [decide_eq_true hb] at hbig
    have HB := hide hbig
    clear hbig hm hc hl
    go_enter Tryd.func3, Tryd.ntmps3
    go_wp2_with (go_at_call 8; refine (HB.out _).mono ?_; rintro e w ⟨rfl, rfl⟩)
    go_ret
    exact ⟨rfl, Below.refl _ _⟩
  rw [decide_eq_false hb] at hbig
  have h0w : 1 < w.heap.size := World.block_lt_of_cell? _ _ hm
  have Hm : Hid (∀ wx, Below w.heap.size w wx → wx.cell? ⟨1, 0, none⟩ = some (.int .i64 m)) := fun wx hb => (hb.cell (p := ⟨1, 0, none⟩) h0w).trans hm
  have HB := hide hbig
  have HD := hide (drawSet_any n cap a w (by omega) hc)
  clear hbig hc hl hb hm h0w
  go_enter Tryd.func3, Tryd.ntmps3
  go_wp2_with (first | (go_at_call 8; refine (HB.out _).mono ?_; rintro e w ⟨rfl, rfl⟩) | (go_at_call 9; refine HD.out.mono ?_; rintro e w1 ⟨ls, g1, c1, K, V, rfl, Hs, W1, B1⟩))
  have hl9 := Hs.out.1
  have hlm : ls.length ≤ maxLen := by unfold maxLen; omega
  have Hz : Hid (okSizes ls ∧ K.size ≤ maxLen ∧ V.size ≤ maxLen) := ⟨Hs.out.2.1.ok, by have := Hs.out.2.2.1; unfold maxLen; omega, by have := Hs.out.2.2.2; unfold maxLen; omega⟩
  go_wp2_with fail
  refine (ilabelSet_any g1 0 c1 ls K V w1 (by omega) (labs_of_owns W1.out)).mono ?_
  rintro e w2 ⟨g2, c2, rfl, ho2, hb2⟩
  have B2 := hide (B1.out.trans (hb2.mono B1.out.size))
  have W12 := hide (owns_below W1.out hb2)
  have W22 := hide (owns_mono ho2 B1.out.size)
  clear ho2 hb2 W1 B1
  go_wp2_with fail
  refine (slabelSet_any g1 0 c1 ls K V w2 (by omega) Hz.out.1 Hz.out.2.1 Hz.out.2.2 (labs_of_owns W12.out)).mono ?_
  rintro e w3 ⟨g3, c3, rfl, ho3, hb3⟩
  have B3 := hide (B2.out.trans (hb3.mono B2.out.size))
  have W13 := hide (owns_below W12.out hb3)
  have W23 := hide (owns_below W22.out hb3)
  clear ho3 hb3 W12 W22 B2 Hz
  rcases Bool.eq_false_or_eq_true (setOk ls K V) with hk | hk
  · have e2 : (setR ls K V).2 = true := by unfold setR; rw [if_pos hk]
    have e1 : (setR ls K V).1 = setAll K V ls := by unfold setR; rw [if_pos hk]
    rw [e1] at W23
    simp only [e1, e2]
    obtain ⟨f1, f2, f3, f4, f5⟩ := set_facts hk
    have hN8 := labelsB_len f1
    have F1 := hide f1
    have F2 := hide f2
    have F3 := hide f3
    have F4 := hide f4
    have F5 := hide f5
    have TB := hide (text_back f1)
    have TS := hide (text_size f1)
    clear e1 e2 hk f1 f2 f3 f4 f5 Hs
    generalize setAll K V ls = N at *
    have hNm : N.length ≤ maxLen := by unfold maxLen; omega
    have hnn : (true != true) = false := rfl
    have Hge : Hid (∀ (wx : World) (key : ByteArray), rowOf wx (some ⟨g2, 0, none⟩) N → Calls Tryd.prog 12 #[.slice (some ⟨g2, 0, none⟩) N.length c2, .string key] wx fun e w' => e = .returned (.tuple #[.string (getV N key), .bool (getH N key)]) ∧ Below wx.heap.size wx w') := fun wx key h => ilabelGet_any _ c2 N key wx hNm h
    go_wp2_with fail
    refine (Hge.out _ K (row_of_owns W23.out)).mono ?_
    rintro e w4 ⟨rfl, hb4⟩
    rw [F3.out, F4.out]
    have B4 := hide (B3.out.trans (hb4.mono B3.out.size))
    have W14 := hide (owns_below W13.out hb4)
    have W24 := hide (owns_below W23.out hb4)
    clear hb4 W13 W23 B3 F3 F4
    go_wp2_with fail
    refine (ilabelDrop_any (some ⟨g2, 0, none⟩) c2 N K w4 (by omega) (row_of_owns W24.out)).mono ?_
    rintro e w5 ⟨g5, c5, rfl, ho5, hb5⟩
    have B5 := hide (B4.out.trans (hb5.mono B4.out.size))
    have W15 := hide (owns_below W14.out hb5)
    have W25 := hide (owns_below W24.out hb5)
    have W55 := hide ho5
    have Gd := hide (get_drop N K)
    have hdl : (dropL N K).length ≤ maxLen := by
      have := dropL_len N K N.length
      rw [List.take_length] at this
      omega
    clear hb5 ho5 W14 W24 B4
    generalize dropL N K = D at *
    have Hgd := hide (fun wx h => ilabelGet_any (some ⟨g5, 0, none⟩) c5 D K wx hdl h)
    clear hdl
    go_wp2_with fail
    refine (Hgd.out _ (row_of_owns W55.out)).mono ?_
    rintro e w6 ⟨rfl, hb6⟩
    rw [Gd.out]
    have B6 := hide (B5.out.trans (hb6.mono B5.out.size))
    have W16 := hide (owns_below W15.out hb6)
    have W26 := hide (owns_below W25.out hb6)
    clear hb6 W15 W25 W55 B5 Gd Hgd
    generalize getV D K = X at *
    go_wp2_with fail
    go_loopw [14] (fun i wr => ∃ (k : Nat), k ≤ ls.length ∧ i = .int .i64 k ∧ Hid (wr.ownsRow w.heap.size 33 2 (.slice (some ⟨g1, 0, none⟩) ls.length c1) ls.length (flat ls)) ∧ Hid (wr.ownsRow w.heap.size 33 2 (.slice (some ⟨g2, 0, none⟩) N.length c2) N.length (flat N)) ∧ Hid (Below w.heap.size w wr)) (fun i _ => ls.length - (intOf i).toNat)
    case atStart => exact ⟨0, Nat.zero_le _, rfl, W16, W26, B6⟩
    case round =>
      clear W16 W26 B6
      obtain ⟨k, hk, rfl, Wa, Wb, Hb⟩ := hrel
      by_cases hlt : k < ls.length
      · have hc := cellsOf_of (labs_of_owns Wa.out)
        have c0 := (hc k hlt).1
        rw [Nat.zero_add] at c0
        have f := F5.out k hlt
        have hf := Hge.out
        clear hc Hge
        have Hge := hide hf
        clear hf
        have Hlt := hide hlt
        have Hf := hide f
        clear f
        have hlt' : (k : Int) < (ls.length : Int) := by omega
        go_wp2_with fail
        refine (Hge.out _ _ (row_of_owns Wb.out)).mono ?_
        rintro e w7 ⟨rfl, hb7⟩
        rw [Hf.out.1]
        have Wa7 := hide (owns_below Wa.out hb7)
        have Wb7 := hide (owns_below Wb.out hb7)
        have Hb7 := hide (Hb.out.trans (hb7.mono Hb.out.size))
        clear hb7 Wa Wb Hb c0
        have hc := cellsOf_of (labs_of_owns Wa7.out)
        have c0 := (hc k hlt).1
        have c2 := (hc k hlt).2
        rw [Nat.zero_add] at c0 c2
        have he := beq_str (keyAt ls k) K
        clear hc
        by_cases hq : keyAt ls k = K
        · rw [decide_eq_true hq] at he
          have hne : ((keyAt ls k).toList != K.toList) = false := by rw [bne, he]; rfl
          clear hq Hf
          generalize keyAt ls k = K1 at *
          generalize valAt ls k = V1 at *
          generalize getV N K1 = V2 at *
          go_wp2
          go_roundw
          case rel => exact ⟨k + 1, by omega, by go_num, Wa7, Wb7, Hb7⟩
          case measure => simp [intOf]; omega
        · rw [decide_eq_false hq] at he
          rw [Hf.out.2 hq]
          have hne : ((keyAt ls k).toList != K.toList) = true := by rw [bne, he]; rfl
          clear hq Hf
          generalize keyAt ls k = K1 at *
          generalize valAt ls k = V1 at *
          have hvv : (V1.toList != V1.toList) = false := by simp
          have hvw : (V1.toList == V1.toList) = true := by simp
          go_wp2
          go_roundw
          case rel => exact ⟨k + 1, by omega, by go_num, Wa7, Wb7, Hb7⟩
          case measure => simp [intOf]; omega
      · have e : k = ls.length := by omega
        subst e
        clear hlt F5
        have hno : ¬ ((ls.length : Int) < (ls.length : Int)) := by omega
        go_wp2_with fail
        refine (ilabelsText_any (some ⟨g2, 0, none⟩) c2 N _ hNm (row_of_owns Wb.out)).mono ?_
        rintro e w7 ⟨rfl, hb7⟩
        have Wb7 := hide (owns_below Wb.out hb7)
        have Hb7 := hide (Hb.out.trans (hb7.mono Hb.out.size))
        clear hb7 Wa Wb Hb
        have hp := iparse_any (textB N) m w7 (by have := TS.out; omega) (Hm.out _ Hb7.out)
        rw [TB.out] at hp
        have HP := hide hp
        clear hp TB TS
        generalize textB N = TX at *
        go_wp2_with fail
        refine HP.out.mono ?_
        rintro e w8 ⟨g8, c8, rfl, ho8, hb8⟩
        have Wb8 := hide (owns_below Wb7.out hb8)
        have Wr8 := hide (owns_mono ho8 Hb7.out.size)
        have Hb8 := hide (Hb7.out.trans (hb8.mono Hb7.out.size))
        clear ho8 hb8 Wb7 Hb7 HP
        have hll : (((N.length : Nat) : Int) != ((N.length : Nat) : Int)) = false := by simp
        go_wp2_with fail
        go_loopw [19] (fun i wr => ∃ (k : Nat), k ≤ N.length ∧ i = .int .i64 k ∧ Hid (wr.ownsRow w.heap.size 33 2 (.slice (some ⟨g8, 0, none⟩) N.length c8) N.length (flat N)) ∧ Hid (wr.ownsRow w.heap.size 33 2 (.slice (some ⟨g2, 0, none⟩) N.length c2) N.length (flat N)) ∧ Hid (Below w.heap.size w wr)) (fun i _ => N.length - (intOf i).toNat)
        case atStart => exact ⟨0, Nat.zero_le _, rfl, Wr8, Wb8, Hb8⟩
        case round =>
          clear Wb8 Wr8 Hb8 hk hll
          obtain ⟨k, hk, rfl, Wa, Wb, Hb⟩ := hrel
          by_cases hlt : k < N.length
          · have hc := cellsOf_of (labs_of_owns Wa.out)
            have a0 := (hc k hlt).1
            have a1 := (hc k hlt).2
            have hd := cellsOf_of (labs_of_owns Wb.out)
            have b0 := (hd k hlt).1
            have b1 := (hd k hlt).2
            rw [Nat.zero_add] at a0 a1 b0 b1
            clear hc hd
            have hlt' : (k : Int) < (N.length : Int) := by omega
            go_wp2
            go_quiet (fail)
            go_wp2
            go_roundw
            case rel =>
              have hb : ∀ wx : World, Below wr.heap.size wr wx → _ := fun wx hb => (⟨k + 1, by omega, by go_num, owns_below Wa.out hb, owns_below Wb.out hb, Hb.out.trans (hb.mono Hb.out.size)⟩ : ∃ (q : Nat), q ≤ N.length ∧ Value.int .i64 ((k : Int) + 1) = .int .i64 q ∧ Hid (wx.ownsRow w.heap.size 33 2 (.slice (some ⟨g8, 0, none⟩) N.length c8) N.length (flat N)) ∧ Hid (wx.ownsRow w.heap.size 33 2 (.slice (some ⟨g2, 0, none⟩) N.length c2) N.length (flat N)) ∧ Hid (Below w.heap.size w wx))
              refine hb _ ?_
              repeat (first | with_reducible exact Below.refl _ _ | with_reducible refine below_drewN ?_ _ | with_reducible refine Below.drew ?_)
            case measure => simp [intOf]; omega
          · have e : k = N.length := by omega
            subst e
            clear hlt
            go_wp2_with fail
            refine (ilabelsOk_any (some ⟨g2, 0, none⟩) c2 N _ hNm (row_of_owns Wb.out)).mono ?_
            rintro e w9 ⟨rfl, hb9⟩
            rw [F1.out]
            have Hb9 := hide (Hb.out.trans (hb9.mono Hb.out.size))
            clear hb9 Wa Wb Hb
            go_wp2_with fail
            refine (iname_any K _).mono ?_
            rintro e w10 ⟨rfl, hb10⟩
            rw [F2.out]
            have Hb10 := hide (Hb9.out.trans (hb10.mono Hb9.out.size))
            clear hb10 Hb9
            have hvw : (V.toList == V.toList) = true := by simp
            go_wp2
            go_ret
            exact ⟨rfl, Hb10.out⟩
  · have e2 : (setR ls K V).2 = false := by unfold setR; rw [if_neg (by rw [hk]; simp)]
    have e1 : (setR ls K V).1 = ls := by unfold setR; rw [if_neg (by rw [hk]; simp)]
    simp only [e1, e2]
    clear e1 e2 hk Hs W13 W23
    have hnn : (false != false) = false := rfl
    have hll : (((ls.length : Nat) : Int) == ((ls.length : Nat) : Int)) = true := by simp
    go_wp2
    go_ret
    exact ⟨rfl, B3.out⟩
end Go.Proofs.YtlbpfcchaobgjaaDoor
