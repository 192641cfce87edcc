/- Right values: the spec's size of them. -/
import Derived.Test.YtdnodaoeflbfkaaValS
namespace Go.Proofs.Ytdnodaoeflbfkaa
open Go.RowKit Go.BigFrame
set_option linter.unusedVariables false

theorem upTo_of {s m : Nat} (h : s ≤ m) : upTo s m = s := if_pos h
theorem upTo_no {s m : Nat} (h : m < s) : upTo s m = 0 := if_neg (by omega)
theorem empty_beq (s : ByteArray) : (s.toList == []) = decide (s.size = 0) := by
  rw [Lib.toList_data, Bool.eq_iff_iff, beq_iff_eq, decide_eq_true_eq]
  constructor
  · intro h; show s.data.size = 0; rw [← Array.length_toList, h]; rfl
  · intro h; exact List.eq_nil_of_length_eq_zero (by rw [Array.length_toList]; exact h)
/-- what the end of the reading asks, one kind after the other -/
theorem hdB1 (tx : ByteArray) (nm : Int) (ks : List ByteArray) (m : Nat) : hdB 1 tx nm ks m = (txB tx && decide (nm = 0) && decide (ks.length = 0) && decide (m = 0)) := rfl
theorem hdB2 (tx : ByteArray) (nm : Int) (ks : List ByteArray) (m : Nat) : hdB 2 tx nm ks m = (decide (tx.size = 0) && decide (ks.length = 0) && decide (m = 0)) := rfl
theorem hdB3 (tx : ByteArray) (nm : Int) (ks : List ByteArray) (m : Nat) : hdB 3 tx nm ks m = (decide (tx.size = 0) && decide (nm = 0 ∨ nm = 1) && decide (ks.length = 0) && decide (m = 0)) := rfl
theorem hdB4 (tx : ByteArray) (nm : Int) (ks : List ByteArray) (m : Nat) : hdB 4 tx nm ks m = (decide (tx.size = 0) && decide (nm = 0) && decide (ks.length = 0)) := rfl
theorem hdB5 (tx : ByteArray) (nm : Int) (ks : List ByteArray) (m : Nat) : hdB 5 tx nm ks m = (decide (tx.size = 0) && decide (nm = 0) && decide (ks.length = m) && valsB ks) := rfl
theorem hdB5' (tx : ByteArray) (nm : Int) (ks : List ByteArray) (m : Nat) : hdB 5 tx nm ks m = (decide (tx.size = 0) && decide (nm = 0) && keysB ks m) := by
  rw [hdB5]; unfold keysB; rw [Bool.and_assoc]
theorem hdB0 {kd : Int} (h1 : kd ≠ 1) (h2 : kd ≠ 2) (h3 : kd ≠ 3) (h4 : kd ≠ 4) (h5 : kd ≠ 5) (tx : ByteArray) (nm : Int) (ks : List ByteArray) (m : Nat) : hdB kd tx nm ks m = false := by
  unfold hdB; rw [if_neg h1, if_neg h2, if_neg h3, if_neg h4, if_neg h5]

def lookC (n : Nat) : Prop := ∀ (v : VT n) (x : Value) (d : Nat) (w : World), okVT n v → valArg w 0 n x v → d ≤ 100 →
  Calls Try.prog 207 #[x, .int .i64 d] w fun e w' => e = .returned (.int .i64 (upTo (tsz n d v) 300 : Nat)) ∧ Below w.heap.size w w'

set_option maxHeartbeats 1600000 in
theorem look_of {n : Nat} (ih : lookC n) : lookC (n + 1) := by
  intro v X d w hok harg hd
  obtain ⟨kd, tx, nm, ks, kids, rfl⟩ := VT.parts v
  obtain ⟨a, cap, a', cap', rfl, ⟨hrow, hf⟩, hkids, hf'⟩ := harg
  obtain ⟨hk, hl, hz, hkl, hkz⟩ := hok
  simp only [VT.hd_mk, VT.kids_mk] at *
  unfold maxLen at hkl
  cases d with
  | zero =>
    have E : Hid (upTo (tsz (n + 1) 0 (VT.mk ⟨kd, tx, nm, ks⟩ kids)) 300 = 0) := rfl
    clear hrow hf hkids hf' hk hl hz hkl hkz ih
    go_enter Try.func207, Try.ntmps207
    go_wp2
    go_ret
    exact ⟨ret_int (by rw [E.out]; rfl), (Below.refl _ _).alloc (Nat.le_refl _) _⟩
  | succ d =>
  have E : Hid (tsz (n + 1) (d + 1) (VT.mk ⟨kd, tx, nm, ks⟩ kids) = if hdB kd tx nm ks kids.length then addL (tsz n d) kids 1 else 0) := rfl
  generalize tsz (n + 1) (d + 1) (VT.mk ⟨kd, tx, nm, ks⟩ kids) = T at *
  have hlk := hl
  unfold maxLen at hlk
  have Hr := hide hrow
  have Hk := hide hkids
  have Hkz := hide hkz
  have Hi := hide ih
  have Htx := hide hk
  have Hkeys : Hid (∀ wx, Below w.heap.size w wx → Calls Try.prog 235 #[.agg #[.int .i64 kd, .string tx, .int .i64 nm, .slice a ks.length cap, .slice a' kids.length cap']] wx fun e w' => e = .returned (.bool (keysB ks kids.length)) ∧ Below wx.heap.size wx w') :=
    fun wx hx => l4Keys_any kd tx nm ks kids.length a a' cap cap' wx hl (by unfold maxLen; omega) hz (hrow.of.below hx)
  obtain ⟨D, hD⟩ : ∃ D, d + 1 = D := ⟨_, rfl⟩
  have Hd : Hid (d + 1 ≤ 100 ∧ d + 1 = D) := ⟨hd, hD⟩
  rw [hD]
  have qD : ((D : Int) == 0) = false := by simp; omega
  have hD0 : 0 < D := by omega
  have hD1 : D ≤ 100 := by omega
  clear hrow hf hkids hf' hk hl hz hkz ih hD hd
  go_enter Try.func207, Try.ntmps207
  go_wp2
  go_loopw [5, 6] (fun s i wr => ∃ (k N : Nat), k ≤ kids.length ∧ i = .int .i64 k ∧ s = .int .i64 N ∧ 1 ≤ N ∧ N ≤ 300 ∧ Hid (addL (tsz n d) (kids.drop k) N = addL (tsz n d) kids 1) ∧
      wr.cell? ⟨w.heap.size, 0, none⟩ = some (.int .i64 kd) ∧ wr.cell? ⟨w.heap.size, 1, none⟩ = some (.string tx) ∧ wr.cell? ⟨w.heap.size, 2, none⟩ = some (.int .i64 nm) ∧ wr.cell? ⟨w.heap.size, 3, none⟩ = some (.slice a ks.length cap) ∧ wr.cell? ⟨w.heap.size, 4, none⟩ = some (.slice a' kids.length cap') ∧ Below w.heap.size w wr ∧ w.heap.size < wr.heap.size) (fun _ i _ => kids.length - (intOf i).toNat)
  case atStart => exact ⟨0, 1, Nat.zero_le _, rfl, rfl, by omega, by omega, rfl, by simp, by simp, by simp, by simp, by simp, (Below.refl _ _).alloc (by simp) _, by simp⟩
  case round =>
    obtain ⟨k, N, hk, rfl, rfl, hN0, hN1, Hx, b0, b1, b2, b3, b4, hbw, hgt⟩ := hrel
    by_cases hlt : k < kids.length
    · obtain ⟨b, off, rfl, _, hat⟩ := Hk.out (by omega)
      have hv := (hat k hlt).below hbw
      have hz := (Hkz.out _ (List.getElem_mem hlt))
      have hn := addL_drop (tsz n d) kids k hlt N
      have hge := addL_ge (f := tsz n d) (kids.drop (k + 1)) (N + tsz n d (kids[k]'hlt))
      cases n with
      | zero => exact hv.elim
      | succ n =>
      obtain ⟨KD, TX, NM, KS, KIDS, hkv⟩ := VT.parts (kids[k]'hlt)
      rw [hkv] at hv hz hn hge
      clear hkv hat
      have hcon := fun (X : Value) (z : Int) (wx : World) (hzz : z = (D : Int) - 1) (hx : valArg wx 0 (n + 1) X (VT.mk ⟨KD, TX, NM, KS⟩ KIDS)) => (show z = (d : Int) by have := Hd.out; omega) ▸ Hi.out (VT.mk ⟨KD, TX, NM, KS⟩ KIDS) X d wx hz hx (by have := Hd.out; omega)
      generalize tsz (n + 1) d (VT.mk ⟨KD, TX, NM, KS⟩ KIDS) = y at *
      obtain ⟨h0c, h1c, h2c, ⟨av, capv, h3c, h3d⟩, al, capl, h4c, h4d⟩ := hv
      have Hdd := hide (And.intro h3d h4d)
      simp only [VT.hd_mk, VT.kids_mk] at h0c h1c h2c h3c h4c
      clear h3d h4d hz
      have hgone : Hid (y = 0 ∨ 300 < N + y → upTo T 300 = 0) := by
        intro h
        rw [E.out]
        split
        · rw [← Hx.out, hn]
          split
          · rfl
          · rcases hge with h' | h'
            · rw [h']; rfl
            · exact upTo_no (by omega)
        · rfl
      by_cases hy0 : upTo y 300 = 0
      · rw [hy0] at hcon
        have Hcon := hide hcon
        have Hg : Hid (upTo T 300 = 0) := hgone.out (by
          by_cases h0 : y = 0
          · exact .inl h0
          · right
            unfold upTo at hy0
            split at hy0 <;> omega)
        clear hcon hgone hn hge Hx
        go_wp2_with fail
        refine (Hcon.out _ _ _ (by first | rfl | omega) ⟨_, _, _, _, rfl, Hdd.out.1, Hdd.out.2⟩).mono ?_
        rintro e w1 ⟨rfl, hb⟩
        go_wp2
        go_ret
        exact ⟨ret_int (by rw [Hg.out]; rfl), hbw.trans (hb.mono hbw.size)⟩
      · have hyy : y ≤ 300 ∧ y ≠ 0 := by unfold upTo at hy0; split at hy0 <;> omega
        rw [upTo_of hyy.1] at hcon
        have Hcon := hide hcon
        by_cases hbig : 300 < N + y
        · have Hg : Hid (upTo T 300 = 0) := hgone.out (.inr hbig)
          have q0 : ((y : Int) == 0) = false := by simp; omega
          have q1 : (300 : Int) < (N : Int) + (y : Int) := by omega
          clear hcon hgone hn hge Hx
          go_wp2_with fail
          refine (Hcon.out _ _ _ (by first | rfl | omega) ⟨_, _, _, _, rfl, Hdd.out.1, Hdd.out.2⟩).mono ?_
          rintro e w1 ⟨rfl, hb⟩
          go_wp2
          go_ret
          exact ⟨ret_int (by rw [Hg.out]; rfl), hbw.trans (hb.mono hbw.size)⟩
        · have Hn : Hid (addL (tsz (n + 1) d) (kids.drop (k + 1)) (N + y) = addL (tsz (n + 1) d) kids 1) := by rw [← Hx.out, hn, if_neg hyy.2]; rfl
          have q0 : ((y : Int) == 0) = false := by simp; omega
          have q1 : (N : Int) + (y : Int) ≤ 300 := by omega
          clear hcon hgone hn hge Hx
          go_wp2_with fail
          refine (Hcon.out _ _ _ (by first | rfl | omega) ⟨_, _, _, _, rfl, Hdd.out.1, Hdd.out.2⟩).mono ?_
          rintro e w1 ⟨rfl, hb⟩
          have b0' := (hb.cell (p := ⟨w.heap.size, 0, none⟩) hgt).trans b0
          have b1' := (hb.cell (p := ⟨w.heap.size, 1, none⟩) hgt).trans b1
          have b2' := (hb.cell (p := ⟨w.heap.size, 2, none⟩) hgt).trans b2
          have b3' := (hb.cell (p := ⟨w.heap.size, 3, none⟩) hgt).trans b3
          have b4' := (hb.cell (p := ⟨w.heap.size, 4, none⟩) hgt).trans b4
          go_wp2
          go_roundw
          case rel => exact ⟨k + 1, N + y, by omega, by go_num, by go_num, by omega, by omega, Hn, b0', b1', b2', b3', b4', hbw.trans (hb.mono hbw.size), Nat.lt_of_lt_of_le hgt hb.size⟩
          case measure => simp [intOf]; omega
    · have e : k = kids.length := by omega
      subst e
      have hN : Hid (addL (tsz n d) kids 1 = N) := by rw [← Hx.out, List.drop_length]; rfl
      have HT : Hid (upTo T 300 = if hdB kd tx nm ks kids.length then N else 0) := by
        show _ = _
        rw [E.out, hN.out]; split
        · exact upTo_of hN1
        · rfl
      clear Hx Hk Hkz Hi hN E Hd hlt hk
      have hwt := fun wx => l4Text_any tx wx Htx.out
      have he := empty_beq tx
      clear Htx Hr
      have Hhd : Hid (∀ r : Bool, hdB kd tx nm ks kids.length = r → upTo T 300 = if r then N else 0) := fun r h => by rw [HT.out, h]
      have HX : Hid True := trivial
      have Hkb : Hid (keysB ks kids.length = (decide (ks.length = kids.length) && valsB ks)) := rfl
      clear HT
      by_cases k1 : kd = 1
      · subst k1
        by_cases c0 : ks.length = 0
        · by_cases c1 : kids.length = 0
          · by_cases c2 : nm = 0
            · by_cases c3 : txB tx = true
              · have E0 := hide (Hhd.out true (by rw [hdB1]; simp [c0, c1, c2, c3]))
                have q0 : ((ks.length : Int) == 0) = true := by rw [c0]; rfl
                have q1 : ((kids.length : Int) == 0) = true := by rw [c1]; rfl
                have q2 : (nm == 0) = true := by rw [c2]; rfl
                have HWT : Hid (∀ wx, Calls Try.prog 234 #[.string tx] wx fun e w' => e = .returned (.bool true) ∧ w' = wx) := fun wx => by have := hwt wx; rw [c3] at this; exact this
                clear HX Hkb Hkeys Hhd hwt he
                clear c2
                clear c3
                go_wp2_with (go_at_call 234; refine (HWT.out _).mono ?_; rintro e w' ⟨rfl, rfl⟩)
                all_goals go_ret
                all_goals exact ⟨ret_int (by rw [E0.out]; rfl), hbw⟩
              · have E0 := hide (Hhd.out false (by rw [hdB1]; simp [c0, c1, c2, c3]))
                have q0 : ((ks.length : Int) == 0) = true := by rw [c0]; rfl
                have q1 : ((kids.length : Int) == 0) = true := by rw [c1]; rfl
                have q2 : (nm == 0) = true := by rw [c2]; rfl
                have HWT : Hid (∀ wx, Calls Try.prog 234 #[.string tx] wx fun e w' => e = .returned (.bool false) ∧ w' = wx) := fun wx => by have := hwt wx; rw [(by simpa using c3 : txB tx = false)] at this; exact this
                clear HX Hkb Hkeys Hhd hwt he
                clear c2
                clear c3
                go_wp2_with (go_at_call 234; refine (HWT.out _).mono ?_; rintro e w' ⟨rfl, rfl⟩)
                all_goals go_ret
                all_goals exact ⟨ret_int (by rw [E0.out]; rfl), hbw⟩
            · have E0 := hide (Hhd.out false (by rw [hdB1]; simp [c0, c1, c2]))
              have q0 : ((ks.length : Int) == 0) = true := by rw [c0]; rfl
              have q1 : ((kids.length : Int) == 0) = true := by rw [c1]; rfl
              have q2 : (nm == 0) = false := by simpa using c2
              clear HX Hkb Hkeys Hhd hwt he
              clear c2
              go_wp2
              all_goals go_ret
              all_goals exact ⟨ret_int (by rw [E0.out]; rfl), hbw⟩
          · have E0 := hide (Hhd.out false (by rw [hdB1]; simp [c0, c1]))
            have q0 : ((ks.length : Int) == 0) = true := by rw [c0]; rfl
            have q1 : ((kids.length : Int) == 0) = false := by simp only [beq_eq_false_iff_ne, ne_eq]; omega
            clear HX Hkb Hkeys Hhd hwt he
            go_wp2
            all_goals go_ret
            all_goals exact ⟨ret_int (by rw [E0.out]; rfl), hbw⟩
        · have E0 := hide (Hhd.out false (by rw [hdB1]; simp [c0]))
          have q0 : ((ks.length : Int) == 0) = false := by simp only [beq_eq_false_iff_ne, ne_eq]; omega
          clear HX Hkb Hkeys Hhd hwt he
          go_wp2
          all_goals go_ret
          all_goals exact ⟨ret_int (by rw [E0.out]; rfl), hbw⟩
      by_cases k2 : kd = 2
      · subst k2
        by_cases c0 : ks.length = 0
        · by_cases c1 : kids.length = 0
          · by_cases c2 : tx.size = 0
            · have E0 := hide (Hhd.out true (by rw [hdB2]; simp [c0, c1, c2]))
              have q0 : ((ks.length : Int) == 0) = true := by rw [c0]; rfl
              have q1 : ((kids.length : Int) == 0) = true := by rw [c1]; rfl
              have q2 := he.trans (decide_eq_true c2)
              clear HX Hkb Hkeys Hhd hwt he
              clear c2
              go_wp2
              all_goals go_ret
              all_goals exact ⟨ret_int (by rw [E0.out]; rfl), hbw⟩
            · have E0 := hide (Hhd.out false (by rw [hdB2]; simp [c0, c1, c2]))
              have q0 : ((ks.length : Int) == 0) = true := by rw [c0]; rfl
              have q1 : ((kids.length : Int) == 0) = true := by rw [c1]; rfl
              have q2 := he.trans (decide_eq_false c2)
              clear HX Hkb Hkeys Hhd hwt he
              clear c2
              go_wp2
              all_goals go_ret
              all_goals exact ⟨ret_int (by rw [E0.out]; rfl), hbw⟩
          · have E0 := hide (Hhd.out false (by rw [hdB2]; simp [c0, c1]))
            have q0 : ((ks.length : Int) == 0) = true := by rw [c0]; rfl
            have q1 : ((kids.length : Int) == 0) = false := by simp only [beq_eq_false_iff_ne, ne_eq]; omega
            clear HX Hkb Hkeys Hhd hwt he
            go_wp2
            all_goals go_ret
            all_goals exact ⟨ret_int (by rw [E0.out]; rfl), hbw⟩
        · have E0 := hide (Hhd.out false (by rw [hdB2]; simp [c0]))
          have q0 : ((ks.length : Int) == 0) = false := by simp only [beq_eq_false_iff_ne, ne_eq]; omega
          clear HX Hkb Hkeys Hhd hwt he
          go_wp2
          all_goals go_ret
          all_goals exact ⟨ret_int (by rw [E0.out]; rfl), hbw⟩
      by_cases k3 : kd = 3
      · subst k3
        by_cases c0 : ks.length = 0
        · by_cases c1 : kids.length = 0
          · by_cases c2 : tx.size = 0
            · by_cases c3 : nm = 0 ∨ nm = 1
              · have E0 := hide (Hhd.out true (by rw [hdB3]; simp [c0, c1, c2, c3]))
                have q0 : ((ks.length : Int) == 0) = true := by rw [c0]; rfl
                have q1 : ((kids.length : Int) == 0) = true := by rw [c1]; rfl
                have q2 := he.trans (decide_eq_true c2)
                have HI : Hid (∀ wx, Calls Try.prog 65 #[.int .i64 nm, .int .i64 0, .int .i64 1] wx fun e w' => e = .returned (.bool true) ∧ w' = wx) := fun wx => by have := l1In_any nm 0 1 wx; rw [(by unfold inB; rw [decide_eq_true_eq]; omega : inB nm 0 1 = true)] at this; exact this
                clear HX Hkb Hkeys Hhd hwt he
                clear c2
                clear c3
                go_wp2_with (go_at_call 65; refine (HI.out _).mono ?_; rintro e w' ⟨rfl, rfl⟩)
                all_goals go_ret
                all_goals exact ⟨ret_int (by rw [E0.out]; rfl), hbw⟩
              · have E0 := hide (Hhd.out false (by rw [hdB3]; simp [c0, c1, c2, c3]))
                have q0 : ((ks.length : Int) == 0) = true := by rw [c0]; rfl
                have q1 : ((kids.length : Int) == 0) = true := by rw [c1]; rfl
                have q2 := he.trans (decide_eq_true c2)
                have HI : Hid (∀ wx, Calls Try.prog 65 #[.int .i64 nm, .int .i64 0, .int .i64 1] wx fun e w' => e = .returned (.bool false) ∧ w' = wx) := fun wx => by have := l1In_any nm 0 1 wx; rw [(by unfold inB; rw [decide_eq_false_iff_not]; omega : inB nm 0 1 = false)] at this; exact this
                clear HX Hkb Hkeys Hhd hwt he
                clear c2
                clear c3
                go_wp2_with (go_at_call 65; refine (HI.out _).mono ?_; rintro e w' ⟨rfl, rfl⟩)
                all_goals go_ret
                all_goals exact ⟨ret_int (by rw [E0.out]; rfl), hbw⟩
            · have E0 := hide (Hhd.out false (by rw [hdB3]; simp [c0, c1, c2]))
              have q0 : ((ks.length : Int) == 0) = true := by rw [c0]; rfl
              have q1 : ((kids.length : Int) == 0) = true := by rw [c1]; rfl
              have q2 := he.trans (decide_eq_false c2)
              clear HX Hkb Hkeys Hhd hwt he
              clear c2
              go_wp2
              all_goals go_ret
              all_goals exact ⟨ret_int (by rw [E0.out]; rfl), hbw⟩
          · have E0 := hide (Hhd.out false (by rw [hdB3]; simp [c0, c1]))
            have q0 : ((ks.length : Int) == 0) = true := by rw [c0]; rfl
            have q1 : ((kids.length : Int) == 0) = false := by simp only [beq_eq_false_iff_ne, ne_eq]; omega
            clear HX Hkb Hkeys Hhd hwt he
            go_wp2
            all_goals go_ret
            all_goals exact ⟨ret_int (by rw [E0.out]; rfl), hbw⟩
        · have E0 := hide (Hhd.out false (by rw [hdB3]; simp [c0]))
          have q0 : ((ks.length : Int) == 0) = false := by simp only [beq_eq_false_iff_ne, ne_eq]; omega
          clear HX Hkb Hkeys Hhd hwt he
          go_wp2
          all_goals go_ret
          all_goals exact ⟨ret_int (by rw [E0.out]; rfl), hbw⟩
      by_cases k4 : kd = 4
      · subst k4
        by_cases c0 : ks.length = 0
        · by_cases c1 : tx.size = 0
          · by_cases c2 : nm = 0
            · have E0 := hide (Hhd.out true (by rw [hdB4]; simp [c0, c1, c2]))
              have q0 : ((ks.length : Int) == 0) = true := by rw [c0]; rfl
              have q1 := he.trans (decide_eq_true c1)
              have q2 : (nm == 0) = true := by rw [c2]; rfl
              clear HX Hkb Hkeys Hhd hwt he
              clear c1
              clear c2
              go_wp2
              all_goals go_ret
              all_goals exact ⟨ret_int (by rw [E0.out]; rfl), hbw⟩
            · have E0 := hide (Hhd.out false (by rw [hdB4]; simp [c0, c1, c2]))
              have q0 : ((ks.length : Int) == 0) = true := by rw [c0]; rfl
              have q1 := he.trans (decide_eq_true c1)
              have q2 : (nm == 0) = false := by simpa using c2
              clear HX Hkb Hkeys Hhd hwt he
              clear c1
              clear c2
              go_wp2
              all_goals go_ret
              all_goals exact ⟨ret_int (by rw [E0.out]; rfl), hbw⟩
          · have E0 := hide (Hhd.out false (by rw [hdB4]; simp [c0, c1]))
            have q0 : ((ks.length : Int) == 0) = true := by rw [c0]; rfl
            have q1 := he.trans (decide_eq_false c1)
            clear HX Hkb Hkeys Hhd hwt he
            clear c1
            go_wp2
            all_goals go_ret
            all_goals exact ⟨ret_int (by rw [E0.out]; rfl), hbw⟩
        · have E0 := hide (Hhd.out false (by rw [hdB4]; simp [c0]))
          have q0 : ((ks.length : Int) == 0) = false := by simp only [beq_eq_false_iff_ne, ne_eq]; omega
          clear HX Hkb Hkeys Hhd hwt he
          go_wp2
          all_goals go_ret
          all_goals exact ⟨ret_int (by rw [E0.out]; rfl), hbw⟩
      by_cases k5 : kd = 5
      · subst k5
        by_cases c0 : keysB ks kids.length = true
        · by_cases c1 : tx.size = 0
          · by_cases c2 : nm = 0
            · have E0 := hide (Hhd.out true (by rw [hdB5']; simp [c0, c1, c2]))
              have HK : Hid (∀ (L M : Nat) wx, L = ks.length → M = kids.length → Below w.heap.size w wx → Calls Try.prog 235 #[.agg #[.int .i64 5, .string tx, .int .i64 nm, .slice a L cap, .slice a' M cap']] wx fun e w' => e = .returned (.bool true) ∧ Below wx.heap.size wx w') := fun L M wx hL hM hx => by subst hL; subst hM; have := Hkeys.out wx hx; rw [c0] at this; exact this
              have q1 := he.trans (decide_eq_true c1)
              have q2 : (nm == 0) = true := by rw [c2]; rfl
              clear HX Hkb Hkeys Hhd hwt he
              clear c0
              clear c1
              clear c2
              go_wp2_with fail
              all_goals
                refine (HK.out _ _ _ (by first | rfl | omega | simp_all) (by first | rfl | omega | simp_all) hbw).mono ?_
                rintro e w1 ⟨rfl, hb⟩
                have b0' := (hb.cell (p := ⟨w.heap.size, 0, none⟩) hgt).trans b0
                have b1' := (hb.cell (p := ⟨w.heap.size, 1, none⟩) hgt).trans b1
                have b2' := (hb.cell (p := ⟨w.heap.size, 2, none⟩) hgt).trans b2
                have b3' := (hb.cell (p := ⟨w.heap.size, 3, none⟩) hgt).trans b3
                have b4' := (hb.cell (p := ⟨w.heap.size, 4, none⟩) hgt).trans b4
                go_wp2
                all_goals go_ret
                all_goals exact ⟨ret_int (by rw [E0.out]; rfl), hbw.trans (hb.mono hbw.size)⟩
            · have E0 := hide (Hhd.out false (by rw [hdB5']; simp [c0, c1, c2]))
              have HK : Hid (∀ (L M : Nat) wx, L = ks.length → M = kids.length → Below w.heap.size w wx → Calls Try.prog 235 #[.agg #[.int .i64 5, .string tx, .int .i64 nm, .slice a L cap, .slice a' M cap']] wx fun e w' => e = .returned (.bool true) ∧ Below wx.heap.size wx w') := fun L M wx hL hM hx => by subst hL; subst hM; have := Hkeys.out wx hx; rw [c0] at this; exact this
              have q1 := he.trans (decide_eq_true c1)
              have q2 : (nm == 0) = false := by simpa using c2
              clear HX Hkb Hkeys Hhd hwt he
              clear c0
              clear c1
              clear c2
              go_wp2_with fail
              all_goals
                refine (HK.out _ _ _ (by first | rfl | omega | simp_all) (by first | rfl | omega | simp_all) hbw).mono ?_
                rintro e w1 ⟨rfl, hb⟩
                have b0' := (hb.cell (p := ⟨w.heap.size, 0, none⟩) hgt).trans b0
                have b1' := (hb.cell (p := ⟨w.heap.size, 1, none⟩) hgt).trans b1
                have b2' := (hb.cell (p := ⟨w.heap.size, 2, none⟩) hgt).trans b2
                have b3' := (hb.cell (p := ⟨w.heap.size, 3, none⟩) hgt).trans b3
                have b4' := (hb.cell (p := ⟨w.heap.size, 4, none⟩) hgt).trans b4
                go_wp2
                all_goals go_ret
                all_goals exact ⟨ret_int (by rw [E0.out]; rfl), hbw.trans (hb.mono hbw.size)⟩
          · have E0 := hide (Hhd.out false (by rw [hdB5']; simp [c0, c1]))
            have HK : Hid (∀ (L M : Nat) wx, L = ks.length → M = kids.length → Below w.heap.size w wx → Calls Try.prog 235 #[.agg #[.int .i64 5, .string tx, .int .i64 nm, .slice a L cap, .slice a' M cap']] wx fun e w' => e = .returned (.bool true) ∧ Below wx.heap.size wx w') := fun L M wx hL hM hx => by subst hL; subst hM; have := Hkeys.out wx hx; rw [c0] at this; exact this
            have q1 := he.trans (decide_eq_false c1)
            clear HX Hkb Hkeys Hhd hwt he
            clear c0
            clear c1
            go_wp2_with fail
            all_goals
              refine (HK.out _ _ _ (by first | rfl | omega | simp_all) (by first | rfl | omega | simp_all) hbw).mono ?_
              rintro e w1 ⟨rfl, hb⟩
              have b0' := (hb.cell (p := ⟨w.heap.size, 0, none⟩) hgt).trans b0
              have b1' := (hb.cell (p := ⟨w.heap.size, 1, none⟩) hgt).trans b1
              have b2' := (hb.cell (p := ⟨w.heap.size, 2, none⟩) hgt).trans b2
              have b3' := (hb.cell (p := ⟨w.heap.size, 3, none⟩) hgt).trans b3
              have b4' := (hb.cell (p := ⟨w.heap.size, 4, none⟩) hgt).trans b4
              go_wp2
              all_goals go_ret
              all_goals exact ⟨ret_int (by rw [E0.out]; rfl), hbw.trans (hb.mono hbw.size)⟩
        · have E0 := hide (Hhd.out false (by rw [hdB5']; simp [c0]))
          have HK : Hid (∀ (L M : Nat) wx, L = ks.length → M = kids.length → Below w.heap.size w wx → Calls Try.prog 235 #[.agg #[.int .i64 5, .string tx, .int .i64 nm, .slice a L cap, .slice a' M cap']] wx fun e w' => e = .returned (.bool false) ∧ Below wx.heap.size wx w') := fun L M wx hL hM hx => by subst hL; subst hM; have := Hkeys.out wx hx; rw [(by simpa using c0 : keysB ks kids.length = false)] at this; exact this
          clear HX Hkb Hkeys Hhd hwt he
          clear c0
          go_wp2_with fail
          all_goals
            refine (HK.out _ _ _ (by first | rfl | omega | simp_all) (by first | rfl | omega | simp_all) hbw).mono ?_
            rintro e w1 ⟨rfl, hb⟩
            have b0' := (hb.cell (p := ⟨w.heap.size, 0, none⟩) hgt).trans b0
            have b1' := (hb.cell (p := ⟨w.heap.size, 1, none⟩) hgt).trans b1
            have b2' := (hb.cell (p := ⟨w.heap.size, 2, none⟩) hgt).trans b2
            have b3' := (hb.cell (p := ⟨w.heap.size, 3, none⟩) hgt).trans b3
            have b4' := (hb.cell (p := ⟨w.heap.size, 4, none⟩) hgt).trans b4
            go_wp2
            all_goals go_ret
            all_goals exact ⟨ret_int (by rw [E0.out]; rfl), hbw.trans (hb.mono hbw.size)⟩
      have E0 := hide (Hhd.out false (hdB0 k1 k2 k3 k4 k5 _ _ _ _))
      have j1 : (kd == 1) = false := by simpa using k1
      have j2 : (kd == 2) = false := by simpa using k2
      have j3 : (kd == 3) = false := by simpa using k3
      have j4 : (kd == 4) = false := by simpa using k4
      have j5 : (kd == 5) = false := by simpa using k5
      clear HX Hkb Hkeys Hhd hwt he k1 k2 k3 k4 k5
      go_wp2
      all_goals go_ret
      all_goals exact ⟨ret_int (by rw [E0.out]; rfl), hbw⟩
theorem look_any : ∀ n, lookC n
  | 0 => fun v => nomatch v
  | n + 1 => look_of (look_any n)
end Go.Proofs.Ytdnodaoeflbfkaa
