/- Texts of one claim, joined: each in its own section, in build order. -/
import Derived.Test.YtamlgjmboljcdaaJ2
import Derived.Test.YtamlgjmboljcdaaJ1
import Derived.Deep.Slices
import Derived.ProofKit
import Derived.Lib.SmallJoins
import Derived.Deep.AppendLies
import Derived.WideShapes
import Derived.WalkKit
import Derived.Deep.RegionLaw
import Derived.Shelf.SlicesQ.Load
import Derived.OwnWalk
import Derived.Deep.MidRow
import Derived.Laws.Rows
import Derived.Test.YtamlgjmboljcdaaChecked
import Derived.Deep.RegionHeld3
/- Right values: the spec's size of them. -/
namespace Go.Proofs.Ytamlgjmboljcdaa
open Go.RowKit Go.BigFrame
set_option linter.unusedVariables false

theorem upTo_of {s m : Nat} (h : s ≤ m) : upTo s m = s := if_pos h
theorem upTo_no {s m : Nat} (h : m < s) : upTo s m = 0 := if_neg (by omega)
theorem empty_beq (s : ByteArray) : (s.toList == []) = decide (s.size = 0) := by
  rw [Lib.toList_data, Bool.eq_iff_iff, beq_iff_eq, decide_eq_true_eq]
  constructor
  · intro h; show s.data.size = 0; rw [← Array.length_toList, h]; rfl
  · intro h; exact List.eq_nil_of_length_eq_zero (by rw [Array.length_toList]; exact h)
/-- what the end of the reading asks, one kind after the other -/
theorem hdB1 (tx : ByteArray) (nm : Int) (ks : List ByteArray) (m : Nat) : hdB 1 tx nm ks m = (txB tx && decide (nm = 0) && decide (ks.length = 0) && decide (m = 0)) := rfl
theorem hdB2 (tx : ByteArray) (nm : Int) (ks : List ByteArray) (m : Nat) : hdB 2 tx nm ks m = (decide (tx.size = 0) && decide (ks.length = 0) && decide (m = 0)) := rfl
theorem hdB3 (tx : ByteArray) (nm : Int) (ks : List ByteArray) (m : Nat) : hdB 3 tx nm ks m = (decide (tx.size = 0) && decide (nm = 0 ∨ nm = 1) && decide (ks.length = 0) && decide (m = 0)) := rfl
theorem hdB4 (tx : ByteArray) (nm : Int) (ks : List ByteArray) (m : Nat) : hdB 4 tx nm ks m = (decide (tx.size = 0) && decide (nm = 0) && decide (ks.length = 0)) := rfl
theorem hdB5 (tx : ByteArray) (nm : Int) (ks : List ByteArray) (m : Nat) : hdB 5 tx nm ks m = (decide (tx.size = 0) && decide (nm = 0) && decide (ks.length = m) && valsB ks) := rfl
theorem hdB5' (tx : ByteArray) (nm : Int) (ks : List ByteArray) (m : Nat) : hdB 5 tx nm ks m = (decide (tx.size = 0) && decide (nm = 0) && keysB ks m) := by
  rw [hdB5]; unfold keysB; rw [Bool.and_assoc]
theorem hdB0 {kd : Int} (h1 : kd ≠ 1) (h2 : kd ≠ 2) (h3 : kd ≠ 3) (h4 : kd ≠ 4) (h5 : kd ≠ 5) (tx : ByteArray) (nm : Int) (ks : List ByteArray) (m : Nat) : hdB kd tx nm ks m = false := by
  unfold hdB; rw [if_neg h1, if_neg h2, if_neg h3, if_neg h4, if_neg h5]

def lookC (n : Nat) : Prop := ∀ (v : VT n) (x : Value) (d : Nat) (w : World), okVT n v → valArg w 0 n x v → d ≤ 100 →
  Calls Try.prog 76 #[x, .int .i64 d] w fun e w' => e = .returned (.int .i64 (upTo (tsz n d v) 300 : Nat)) ∧ Below w.heap.size w w'

set_option maxHeartbeats 1600000 in
theorem look_of {n : Nat} (ih : lookC n) : lookC (n + 1) := by
  intro v X d w hok harg hd
  obtain ⟨kd, tx, nm, ks, kids, rfl⟩ := VT.parts v
  obtain ⟨a, cap, a', cap', rfl, ⟨hrow, hf⟩, hkids, hf'⟩ := harg
  obtain ⟨hk, hl, hz, hkl, hkz⟩ := hok
  simp only [VT.hd_mk, VT.kids_mk] at *
  unfold maxLen at hkl
  cases d with
  | zero =>
    have E : Hid (upTo (tsz (n + 1) 0 (VT.mk ⟨kd, tx, nm, ks⟩ kids)) 300 = 0) := rfl
    clear hrow hf hkids hf' hk hl hz hkl hkz ih
    go_enter Try.func76, Try.ntmps76
    go_wp2
    go_ret
    exact ⟨ret_int (by rw [E.out]; rfl), (Below.refl _ _).alloc (Nat.le_refl _) _⟩
  | succ d =>
  have E : Hid (tsz (n + 1) (d + 1) (VT.mk ⟨kd, tx, nm, ks⟩ kids) = if hdB kd tx nm ks kids.length then addL (tsz n d) kids 1 else 0) := rfl
  generalize tsz (n + 1) (d + 1) (VT.mk ⟨kd, tx, nm, ks⟩ kids) = T at *
  have hlk := hl
  unfold maxLen at hlk
  have Hr := hide hrow
  have Hk := hide hkids
  have Hkz := hide hkz
  have Hi := hide ih
  have Htx := hide hk
  have Hkeys : Hid (∀ wx, Below w.heap.size w wx → Calls Try.prog 91 #[.agg #[.int .i64 kd, .string tx, .int .i64 nm, .slice a ks.length cap, .slice a' kids.length cap']] wx fun e w' => e = .returned (.bool (keysB ks kids.length)) ∧ Below wx.heap.size wx w') :=
    fun wx hx => l4Keys_any kd tx nm ks kids.length a a' cap cap' wx hl (by unfold maxLen; omega) hz (hrow.of.below hx)
  obtain ⟨D, hD⟩ : ∃ D, d + 1 = D := ⟨_, rfl⟩
  have Hd : Hid (d + 1 ≤ 100 ∧ d + 1 = D) := ⟨hd, hD⟩
  rw [hD]
  have qD : ((D : Int) == 0) = false := by simp; omega
  have hD0 : 0 < D := by omega
  have hD1 : D ≤ 100 := by omega
  clear hrow hf hkids hf' hk hl hz hkz ih hD hd
  go_enter Try.func76, Try.ntmps76
  go_wp2
  go_loopw [5, 6] (fun s i wr => ∃ (k N : Nat), k ≤ kids.length ∧ i = .int .i64 k ∧ s = .int .i64 N ∧ 1 ≤ N ∧ N ≤ 300 ∧ Hid (addL (tsz n d) (kids.drop k) N = addL (tsz n d) kids 1) ∧
      wr.cell? ⟨w.heap.size, 0, none⟩ = some (.int .i64 kd) ∧ wr.cell? ⟨w.heap.size, 1, none⟩ = some (.string tx) ∧ wr.cell? ⟨w.heap.size, 2, none⟩ = some (.int .i64 nm) ∧ wr.cell? ⟨w.heap.size, 3, none⟩ = some (.slice a ks.length cap) ∧ wr.cell? ⟨w.heap.size, 4, none⟩ = some (.slice a' kids.length cap') ∧ Below w.heap.size w wr ∧ w.heap.size < wr.heap.size) (fun _ i _ => kids.length - (intOf i).toNat)
  case atStart => exact ⟨0, 1, Nat.zero_le _, rfl, rfl, by omega, by omega, rfl, by simp, by simp, by simp, by simp, by simp, (Below.refl _ _).alloc (by simp) _, by simp⟩
  case round =>
    obtain ⟨k, N, hk, rfl, rfl, hN0, hN1, Hx, b0, b1, b2, b3, b4, hbw, hgt⟩ := hrel
    by_cases hlt : k < kids.length
    · obtain ⟨b, off, rfl, _, hat⟩ := Hk.out (by omega)
      have hv := (hat k hlt).below hbw
      have hz := (Hkz.out _ (List.getElem_mem hlt))
      have hn := addL_drop (tsz n d) kids k hlt N
      have hge := addL_ge (f := tsz n d) (kids.drop (k + 1)) (N + tsz n d (kids[k]'hlt))
      cases n with
      | zero => exact hv.elim
      | succ n =>
      obtain ⟨KD, TX, NM, KS, KIDS, hkv⟩ := VT.parts (kids[k]'hlt)
      rw [hkv] at hv hz hn hge
      clear hkv hat
      have hcon := fun (X : Value) (z : Int) (wx : World) (hzz : z = (D : Int) - 1) (hx : valArg wx 0 (n + 1) X (VT.mk ⟨KD, TX, NM, KS⟩ KIDS)) => (show z = (d : Int) by have := Hd.out; omega) ▸ Hi.out (VT.mk ⟨KD, TX, NM, KS⟩ KIDS) X d wx hz hx (by have := Hd.out; omega)
      generalize tsz (n + 1) d (VT.mk ⟨KD, TX, NM, KS⟩ KIDS) = y at *
      obtain ⟨h0c, h1c, h2c, ⟨av, capv, h3c, h3d⟩, al, capl, h4c, h4d⟩ := hv
      have Hdd := hide (And.intro h3d h4d)
      simp only [VT.hd_mk, VT.kids_mk] at h0c h1c h2c h3c h4c
      clear h3d h4d hz
      have hgone : Hid (y = 0 ∨ 300 < N + y → upTo T 300 = 0) := by
        intro h
        rw [E.out]
        split
        · rw [← Hx.out, hn]
          split
          · rfl
          · rcases hge with h' | h'
            · rw [h']; rfl
            · exact upTo_no (by omega)
        · rfl
      by_cases hy0 : upTo y 300 = 0
      · rw [hy0] at hcon
        have Hcon := hide hcon
        have Hg : Hid (upTo T 300 = 0) := hgone.out (by
          by_cases h0 : y = 0
          · exact .inl h0
          · right
            unfold upTo at hy0
            split at hy0 <;> omega)
        clear hcon hgone hn hge Hx
        go_wp2_with fail
        refine (Hcon.out _ _ _ (by first | rfl | omega) ⟨_, _, _, _, rfl, Hdd.out.1, Hdd.out.2⟩).mono ?_
        rintro e w1 ⟨rfl, hb⟩
        go_wp2
        go_ret
        exact ⟨ret_int (by rw [Hg.out]; rfl), hbw.trans (hb.mono hbw.size)⟩
      · have hyy : y ≤ 300 ∧ y ≠ 0 := by unfold upTo at hy0; split at hy0 <;> omega
        rw [upTo_of hyy.1] at hcon
        have Hcon := hide hcon
        by_cases hbig : 300 < N + y
        · have Hg : Hid (upTo T 300 = 0) := hgone.out (.inr hbig)
          have q0 : ((y : Int) == 0) = false := by simp; omega
          have q1 : (300 : Int) < (N : Int) + (y : Int) := by omega
          clear hcon hgone hn hge Hx
          go_wp2_with fail
          refine (Hcon.out _ _ _ (by first | rfl | omega) ⟨_, _, _, _, rfl, Hdd.out.1, Hdd.out.2⟩).mono ?_
          rintro e w1 ⟨rfl, hb⟩
          go_wp2
          go_ret
          exact ⟨ret_int (by rw [Hg.out]; rfl), hbw.trans (hb.mono hbw.size)⟩
        · have Hn : Hid (addL (tsz (n + 1) d) (kids.drop (k + 1)) (N + y) = addL (tsz (n + 1) d) kids 1) := by rw [← Hx.out, hn, if_neg hyy.2]; rfl
          have q0 : ((y : Int) == 0) = false := by simp; omega
          have q1 : (N : Int) + (y : Int) ≤ 300 := by omega
          clear hcon hgone hn hge Hx
          go_wp2_with fail
          refine (Hcon.out _ _ _ (by first | rfl | omega) ⟨_, _, _, _, rfl, Hdd.out.1, Hdd.out.2⟩).mono ?_
          rintro e w1 ⟨rfl, hb⟩
          have b0' := (hb.cell (p := ⟨w.heap.size, 0, none⟩) hgt).trans b0
          have b1' := (hb.cell (p := ⟨w.heap.size, 1, none⟩) hgt).trans b1
          have b2' := (hb.cell (p := ⟨w.heap.size, 2, none⟩) hgt).trans b2
          have b3' := (hb.cell (p := ⟨w.heap.size, 3, none⟩) hgt).trans b3
          have b4' := (hb.cell (p := ⟨w.heap.size, 4, none⟩) hgt).trans b4
          go_wp2
          go_roundw
          case rel => exact ⟨k + 1, N + y, by omega, by go_num, by go_num, by omega, by omega, Hn, b0', b1', b2', b3', b4', hbw.trans (hb.mono hbw.size), Nat.lt_of_lt_of_le hgt hb.size⟩
          case measure => simp [intOf]; omega
    · have e : k = kids.length := by omega
      subst e
      have hN : Hid (addL (tsz n d) kids 1 = N) := by rw [← Hx.out, List.drop_length]; rfl
      have HT : Hid (upTo T 300 = if hdB kd tx nm ks kids.length then N else 0) := by
        show _ = _
        rw [E.out, hN.out]; split
        · exact upTo_of hN1
        · rfl
      clear Hx Hk Hkz Hi hN E Hd hlt hk
      have hwt := fun wx => l4Text_any tx wx Htx.out
      have he := empty_beq tx
      clear Htx Hr
      have Hhd : Hid (∀ r : Bool, hdB kd tx nm ks kids.length = r → upTo T 300 = if r then N else 0) := fun r h => by rw [HT.out, h]
      have HX : Hid True := trivial
      have Hkb : Hid (keysB ks kids.length = (decide (ks.length = kids.length) && valsB ks)) := rfl
      clear HT
      by_cases k1 : kd = 1
      · subst k1
        by_cases c0 : ks.length = 0
        · by_cases c1 : kids.length = 0
          · by_cases c2 : nm = 0
            · by_cases c3 : txB tx = true
              · have E0 := hide (Hhd.out true (by rw [hdB1]; simp [c0, c1, c2, c3]))
                have q0 : ((ks.length : Int) == 0) = true := by rw [c0]; rfl
                have q1 : ((kids.length : Int) == 0) = true := by rw [c1]; rfl
                have q2 : (nm == 0) = true := by rw [c2]; rfl
                have HWT : Hid (∀ wx, Calls Try.prog 90 #[.string tx] wx fun e w' => e = .returned (.bool true) ∧ w' = wx) := fun wx => by have := hwt wx; rw [c3] at this; exact this
                clear HX Hkb Hkeys Hhd hwt he
                clear c2
                clear c3
                go_wp2_with (go_at_call 90; refine (HWT.out _).mono ?_; rintro e w' ⟨rfl, rfl⟩)
                all_goals go_ret
                all_goals exact ⟨ret_int (by rw [E0.out]; rfl), hbw⟩
              · have E0 := hide (Hhd.out false (by rw [hdB1]; simp [c0, c1, c2, c3]))
                have q0 : ((ks.length : Int) == 0) = true := by rw [c0]; rfl
                have q1 : ((kids.length : Int) == 0) = true := by rw [c1]; rfl
                have q2 : (nm == 0) = true := by rw [c2]; rfl
                have HWT : Hid (∀ wx, Calls Try.prog 90 #[.string tx] wx fun e w' => e = .returned (.bool false) ∧ w' = wx) := fun wx => by have := hwt wx; rw [(by simpa using c3 : txB tx = false)] at this; exact this
                clear HX Hkb Hkeys Hhd hwt he
                clear c2
                clear c3
                go_wp2_with (go_at_call 90; refine (HWT.out _).mono ?_; rintro e w' ⟨rfl, rfl⟩)
                all_goals go_ret
                all_goals exact ⟨ret_int (by rw [E0.out]; rfl), hbw⟩
            · have E0 := hide (Hhd.out false (by rw [hdB1]; simp [c0, c1, c2]))
              have q0 : ((ks.length : Int) == 0) = true := by rw [c0]; rfl
              have q1 : ((kids.length : Int) == 0) = true := by rw [c1]; rfl
              have q2 : (nm == 0) = false := by simpa using c2
              clear HX Hkb Hkeys Hhd hwt he
              clear c2
              go_wp2
              all_goals go_ret
              all_goals exact ⟨ret_int (by rw [E0.out]; rfl), hbw⟩
          · have E0 := hide (Hhd.out false (by rw [hdB1]; simp [c0, c1]))
            have q0 : ((ks.length : Int) == 0) = true := by rw [c0]; rfl
            have q1 : ((kids.length : Int) == 0) = false := by simp only [beq_eq_false_iff_ne, ne_eq]; omega
            clear HX Hkb Hkeys Hhd hwt he
            go_wp2
            all_goals go_ret
            all_goals exact ⟨ret_int (by rw [E0.out]; rfl), hbw⟩
        · have E0 := hide (Hhd.out false (by rw [hdB1]; simp [c0]))
          have q0 : ((ks.length : Int) == 0) = false := by simp only [beq_eq_false_iff_ne, ne_eq]; omega
          clear HX Hkb Hkeys Hhd hwt he
          go_wp2
          all_goals go_ret
          all_goals exact ⟨ret_int (by rw [E0.out]; rfl), hbw⟩
      by_cases k2 : kd = 2
      · subst k2
        by_cases c0 : ks.length = 0
        · by_cases c1 : kids.length = 0
          · by_cases c2 : tx.size = 0
            · have E0 := hide (Hhd.out true (by rw [hdB2]; simp [c0, c1, c2]))
              have q0 : ((ks.length : Int) == 0) = true := by rw [c0]; rfl
              have q1 : ((kids.length : Int) == 0) = true := by rw [c1]; rfl
              have q2 := he.trans (decide_eq_true c2)
              clear HX Hkb Hkeys Hhd hwt he
              clear c2
              go_wp2
              all_goals go_ret
              all_goals exact ⟨ret_int (by rw [E0.out]; rfl), hbw⟩
            · have E0 := hide (Hhd.out false (by rw [hdB2]; simp [c0, c1, c2]))
              have q0 : ((ks.length : Int) == 0) = true := by rw [c0]; rfl
              have q1 : ((kids.length : Int) == 0) = true := by rw [c1]; rfl
              have q2 := he.trans (decide_eq_false c2)
              clear HX Hkb Hkeys Hhd hwt he
              clear c2
              go_wp2
              all_goals go_ret
              all_goals exact ⟨ret_int (by rw [E0.out]; rfl), hbw⟩
          · have E0 := hide (Hhd.out false (by rw [hdB2]; simp [c0, c1]))
            have q0 : ((ks.length : Int) == 0) = true := by rw [c0]; rfl
            have q1 : ((kids.length : Int) == 0) = false := by simp only [beq_eq_false_iff_ne, ne_eq]; omega
            clear HX Hkb Hkeys Hhd hwt he
            go_wp2
            all_goals go_ret
            all_goals exact ⟨ret_int (by rw [E0.out]; rfl), hbw⟩
        · have E0 := hide (Hhd.out false (by rw [hdB2]; simp [c0]))
          have q0 : ((ks.length : Int) == 0) = false := by simp only [beq_eq_false_iff_ne, ne_eq]; omega
          clear HX Hkb Hkeys Hhd hwt he
          go_wp2
          all_goals go_ret
          all_goals exact ⟨ret_int (by rw [E0.out]; rfl), hbw⟩
      by_cases k3 : kd = 3
      · subst k3
        by_cases c0 : ks.length = 0
        · by_cases c1 : kids.length = 0
          · by_cases c2 : tx.size = 0
            · by_cases c3 : nm = 0 ∨ nm = 1
              · have E0 := hide (Hhd.out true (by rw [hdB3]; simp [c0, c1, c2, c3]))
                have q0 : ((ks.length : Int) == 0) = true := by rw [c0]; rfl
                have q1 : ((kids.length : Int) == 0) = true := by rw [c1]; rfl
                have q2 := he.trans (decide_eq_true c2)
                have HI : Hid (∀ wx, Calls Try.prog 37 #[.int .i64 nm, .int .i64 0, .int .i64 1] wx fun e w' => e = .returned (.bool true) ∧ w' = wx) := fun wx => by have := l1In_any nm 0 1 wx; rw [(by unfold inB; rw [decide_eq_true_eq]; omega : inB nm 0 1 = true)] at this; exact this
                clear HX Hkb Hkeys Hhd hwt he
                clear c2
                clear c3
                go_wp2_with (go_at_call 37; refine (HI.out _).mono ?_; rintro e w' ⟨rfl, rfl⟩)
                all_goals go_ret
                all_goals exact ⟨ret_int (by rw [E0.out]; rfl), hbw⟩
              · have E0 := hide (Hhd.out false (by rw [hdB3]; simp [c0, c1, c2, c3]))
                have q0 : ((ks.length : Int) == 0) = true := by rw [c0]; rfl
                have q1 : ((kids.length : Int) == 0) = true := by rw [c1]; rfl
                have q2 := he.trans (decide_eq_true c2)
                have HI : Hid (∀ wx, Calls Try.prog 37 #[.int .i64 nm, .int .i64 0, .int .i64 1] wx fun e w' => e = .returned (.bool false) ∧ w' = wx) := fun wx => by have := l1In_any nm 0 1 wx; rw [(by unfold inB; rw [decide_eq_false_iff_not]; omega : inB nm 0 1 = false)] at this; exact this
                clear HX Hkb Hkeys Hhd hwt he
                clear c2
                clear c3
                go_wp2_with (go_at_call 37; refine (HI.out _).mono ?_; rintro e w' ⟨rfl, rfl⟩)
                all_goals go_ret
                all_goals exact ⟨ret_int (by rw [E0.out]; rfl), hbw⟩
            · have E0 := hide (Hhd.out false (by rw [hdB3]; simp [c0, c1, c2]))
              have q0 : ((ks.length : Int) == 0) = true := by rw [c0]; rfl
              have q1 : ((kids.length : Int) == 0) = true := by rw [c1]; rfl
              have q2 := he.trans (decide_eq_false c2)
              clear HX Hkb Hkeys Hhd hwt he
              clear c2
              go_wp2
              all_goals go_ret
              all_goals exact ⟨ret_int (by rw [E0.out]; rfl), hbw⟩
          · have E0 := hide (Hhd.out false (by rw [hdB3]; simp [c0, c1]))
            have q0 : ((ks.length : Int) == 0) = true := by rw [c0]; rfl
            have q1 : ((kids.length : Int) == 0) = false := by simp only [beq_eq_false_iff_ne, ne_eq]; omega
            clear HX Hkb Hkeys Hhd hwt he
            go_wp2
            all_goals go_ret
            all_goals exact ⟨ret_int (by rw [E0.out]; rfl), hbw⟩
        · have E0 := hide (Hhd.out false (by rw [hdB3]; simp [c0]))
          have q0 : ((ks.length : Int) == 0) = false := by simp only [beq_eq_false_iff_ne, ne_eq]; omega
          clear HX Hkb Hkeys Hhd hwt he
          go_wp2
          all_goals go_ret
          all_goals exact ⟨ret_int (by rw [E0.out]; rfl), hbw⟩
      by_cases k4 : kd = 4
      · subst k4
        by_cases c0 : ks.length = 0
        · by_cases c1 : tx.size = 0
          · by_cases c2 : nm = 0
            · have E0 := hide (Hhd.out true (by rw [hdB4]; simp [c0, c1, c2]))
              have q0 : ((ks.length : Int) == 0) = true := by rw [c0]; rfl
              have q1 := he.trans (decide_eq_true c1)
              have q2 : (nm == 0) = true := by rw [c2]; rfl
              clear HX Hkb Hkeys Hhd hwt he
              clear c1
              clear c2
              go_wp2
              all_goals go_ret
              all_goals exact ⟨ret_int (by rw [E0.out]; rfl), hbw⟩
            · have E0 := hide (Hhd.out false (by rw [hdB4]; simp [c0, c1, c2]))
              have q0 : ((ks.length : Int) == 0) = true := by rw [c0]; rfl
              have q1 := he.trans (decide_eq_true c1)
              have q2 : (nm == 0) = false := by simpa using c2
              clear HX Hkb Hkeys Hhd hwt he
              clear c1
              clear c2
              go_wp2
              all_goals go_ret
              all_goals exact ⟨ret_int (by rw [E0.out]; rfl), hbw⟩
          · have E0 := hide (Hhd.out false (by rw [hdB4]; simp [c0, c1]))
            have q0 : ((ks.length : Int) == 0) = true := by rw [c0]; rfl
            have q1 := he.trans (decide_eq_false c1)
            clear HX Hkb Hkeys Hhd hwt he
            clear c1
            go_wp2
            all_goals go_ret
            all_goals exact ⟨ret_int (by rw [E0.out]; rfl), hbw⟩
        · have E0 := hide (Hhd.out false (by rw [hdB4]; simp [c0]))
          have q0 : ((ks.length : Int) == 0) = false := by simp only [beq_eq_false_iff_ne, ne_eq]; omega
          clear HX Hkb Hkeys Hhd hwt he
          go_wp2
          all_goals go_ret
          all_goals exact ⟨ret_int (by rw [E0.out]; rfl), hbw⟩
      by_cases k5 : kd = 5
      · subst k5
        by_cases c0 : keysB ks kids.length = true
        · by_cases c1 : tx.size = 0
          · by_cases c2 : nm = 0
            · have E0 := hide (Hhd.out true (by rw [hdB5']; simp [c0, c1, c2]))
              have HK : Hid (∀ (L M : Nat) wx, L = ks.length → M = kids.length → Below w.heap.size w wx → Calls Try.prog 91 #[.agg #[.int .i64 5, .string tx, .int .i64 nm, .slice a L cap, .slice a' M cap']] wx fun e w' => e = .returned (.bool true) ∧ Below wx.heap.size wx w') := fun L M wx hL hM hx => by subst hL; subst hM; have := Hkeys.out wx hx; rw [c0] at this; exact this
              have q1 := he.trans (decide_eq_true c1)
              have q2 : (nm == 0) = true := by rw [c2]; rfl
              clear HX Hkb Hkeys Hhd hwt he
              clear c0
              clear c1
              clear c2
              go_wp2_with fail
              all_goals
                refine (HK.out _ _ _ (by first | rfl | omega | simp_all) (by first | rfl | omega | simp_all) hbw).mono ?_
                rintro e w1 ⟨rfl, hb⟩
                have b0' := (hb.cell (p := ⟨w.heap.size, 0, none⟩) hgt).trans b0
                have b1' := (hb.cell (p := ⟨w.heap.size, 1, none⟩) hgt).trans b1
                have b2' := (hb.cell (p := ⟨w.heap.size, 2, none⟩) hgt).trans b2
                have b3' := (hb.cell (p := ⟨w.heap.size, 3, none⟩) hgt).trans b3
                have b4' := (hb.cell (p := ⟨w.heap.size, 4, none⟩) hgt).trans b4
                go_wp2
                all_goals go_ret
                all_goals exact ⟨ret_int (by rw [E0.out]; rfl), hbw.trans (hb.mono hbw.size)⟩
            · have E0 := hide (Hhd.out false (by rw [hdB5']; simp [c0, c1, c2]))
              have HK : Hid (∀ (L M : Nat) wx, L = ks.length → M = kids.length → Below w.heap.size w wx → Calls Try.prog 91 #[.agg #[.int .i64 5, .string tx, .int .i64 nm, .slice a L cap, .slice a' M cap']] wx fun e w' => e = .returned (.bool true) ∧ Below wx.heap.size wx w') := fun L M wx hL hM hx => by subst hL; subst hM; have := Hkeys.out wx hx; rw [c0] at this; exact this
              have q1 := he.trans (decide_eq_true c1)
              have q2 : (nm == 0) = false := by simpa using c2
              clear HX Hkb Hkeys Hhd hwt he
              clear c0
              clear c1
              clear c2
              go_wp2_with fail
              all_goals
                refine (HK.out _ _ _ (by first | rfl | omega | simp_all) (by first | rfl | omega | simp_all) hbw).mono ?_
                rintro e w1 ⟨rfl, hb⟩
                have b0' := (hb.cell (p := ⟨w.heap.size, 0, none⟩) hgt).trans b0
                have b1' := (hb.cell (p := ⟨w.heap.size, 1, none⟩) hgt).trans b1
                have b2' := (hb.cell (p := ⟨w.heap.size, 2, none⟩) hgt).trans b2
                have b3' := (hb.cell (p := ⟨w.heap.size, 3, none⟩) hgt).trans b3
                have b4' := (hb.cell (p := ⟨w.heap.size, 4, none⟩) hgt).trans b4
                go_wp2
                all_goals go_ret
                all_goals exact ⟨ret_int (by rw [E0.out]; rfl), hbw.trans (hb.mono hbw.size)⟩
          · have E0 := hide (Hhd.out false (by rw [hdB5']; simp [c0, c1]))
            have HK : Hid (∀ (L M : Nat) wx, L = ks.length → M = kids.length → Below w.heap.size w wx → Calls Try.prog 91 #[.agg #[.int .i64 5, .string tx, .int .i64 nm, .slice a L cap, .slice a' M cap']] wx fun e w' => e = .returned (.bool true) ∧ Below wx.heap.size wx w') := fun L M wx hL hM hx => by subst hL; subst hM; have := Hkeys.out wx hx; rw [c0] at this; exact this
            have q1 := he.trans (decide_eq_false c1)
            clear HX Hkb Hkeys Hhd hwt he
            clear c0
            clear c1
            go_wp2_with fail
            all_goals
              refine (HK.out _ _ _ (by first | rfl | omega | simp_all) (by first | rfl | omega | simp_all) hbw).mono ?_
              rintro e w1 ⟨rfl, hb⟩
              have b0' := (hb.cell (p := ⟨w.heap.size, 0, none⟩) hgt).trans b0
              have b1' := (hb.cell (p := ⟨w.heap.size, 1, none⟩) hgt).trans b1
              have b2' := (hb.cell (p := ⟨w.heap.size, 2, none⟩) hgt).trans b2
              have b3' := (hb.cell (p := ⟨w.heap.size, 3, none⟩) hgt).trans b3
              have b4' := (hb.cell (p := ⟨w.heap.size, 4, none⟩) hgt).trans b4
              go_wp2
              all_goals go_ret
              all_goals exact ⟨ret_int (by rw [E0.out]; rfl), hbw.trans (hb.mono hbw.size)⟩
        · have E0 := hide (Hhd.out false (by rw [hdB5']; simp [c0]))
          have HK : Hid (∀ (L M : Nat) wx, L = ks.length → M = kids.length → Below w.heap.size w wx → Calls Try.prog 91 #[.agg #[.int .i64 5, .string tx, .int .i64 nm, .slice a L cap, .slice a' M cap']] wx fun e w' => e = .returned (.bool false) ∧ Below wx.heap.size wx w') := fun L M wx hL hM hx => by subst hL; subst hM; have := Hkeys.out wx hx; rw [(by simpa using c0 : keysB ks kids.length = false)] at this; exact this
          clear HX Hkb Hkeys Hhd hwt he
          clear c0
          go_wp2_with fail
          all_goals
            refine (HK.out _ _ _ (by first | rfl | omega | simp_all) (by first | rfl | omega | simp_all) hbw).mono ?_
            rintro e w1 ⟨rfl, hb⟩
            have b0' := (hb.cell (p := ⟨w.heap.size, 0, none⟩) hgt).trans b0
            have b1' := (hb.cell (p := ⟨w.heap.size, 1, none⟩) hgt).trans b1
            have b2' := (hb.cell (p := ⟨w.heap.size, 2, none⟩) hgt).trans b2
            have b3' := (hb.cell (p := ⟨w.heap.size, 3, none⟩) hgt).trans b3
            have b4' := (hb.cell (p := ⟨w.heap.size, 4, none⟩) hgt).trans b4
            go_wp2
            all_goals go_ret
            all_goals exact ⟨ret_int (by rw [E0.out]; rfl), hbw.trans (hb.mono hbw.size)⟩
      have E0 := hide (Hhd.out false (hdB0 k1 k2 k3 k4 k5 _ _ _ _))
      have j1 : (kd == 1) = false := by simpa using k1
      have j2 : (kd == 2) = false := by simpa using k2
      have j3 : (kd == 3) = false := by simpa using k3
      have j4 : (kd == 4) = false := by simpa using k4
      have j5 : (kd == 5) = false := by simpa using k5
      clear HX Hkb Hkeys Hhd hwt he k1 k2 k3 k4 k5
      go_wp2
      all_goals go_ret
      all_goals exact ⟨ret_int (by rw [E0.out]; rfl), hbw⟩
theorem look_any : ∀ n, lookC n
  | 0 => fun v => nomatch v
  | n + 1 => look_of (look_any n)
end Go.Proofs.Ytamlgjmboljcdaa
/- Right values: the program's reading of them. -/
namespace Go.Proofs.Ytamlgjmboljcdaa
open Go.RowKit Go.BigFrame
set_option linter.unusedVariables false

theorem asc_low {x : Int} (h : ascB x = false) (h2 : 32 ≤ x) : 126 < x := by
  unfold ascB at h; rw [decide_eq_false_iff_not] at h; omega
theorem itext_any (s : ByteArray) (w : World) (hs : s.size ≤ maxLen) : Calls Try.prog 122 #[.string s] w fun e w' => e = .returned (.bool (txB s)) ∧ w' = w := by
  unfold maxLen at hs
  by_cases hbig : 100 < s.size
  · have Hn := hide (txB_long hbig)
    have hbig' : (100 : Int) < (s.size : Int) := by omega
    clear hbig
    go_enter Try.func122, Try.ntmps122
    go_wp2
    go_ret
    exact ⟨ret_bool Hn.out.symm, rfl⟩
  have hbig' : (s.size : Int) ≤ 100 := by omega
  go_enter Try.func122, Try.ntmps122
  go_wp2
  go_loop [9] (fun i => ∃ k : Nat, k ≤ s.size ∧ i = .int .i64 k ∧ Hid (txTo s k)) (fun i => s.size - (intOf i).toNat)
  case atStart => exact ⟨0, Nat.zero_le _, rfl, fun j hj => by omega⟩
  case round =>
    obtain ⟨k, hk, rfl, Hok⟩ := hrel
    by_cases hlt : k < s.size
    · have hb := byt_bd s k
      rw [byt_get s k hlt] at hb
      have hsucc := fun h => txTo_succ Hok.out (k := k) h
      have hbad := fun h => txB_bad (s := s) hlt h
      rw [byt_get s k hlt] at hsucc hbad
      clear Hok
      have Hs : Hid (ascB (s[k]'hlt).toNat = true → txTo s (k + 1)) := hsucc
      have Hb : Hid (ascB (s[k]'hlt).toNat = false → txB s = false) := hbad
      clear hsucc hbad
      have h0 : ((s[k]'hlt).toNat : Int) < 32 ∧ Hid (ascB ((s[k]'hlt).toNat) = false) ∨ (32 : Int) ≤ ((s[k]'hlt).toNat : Int) ∧ (126 : Int) < ((s[k]'hlt).toNat : Int) ∧ Hid (ascB ((s[k]'hlt).toNat) = false) ∨ (32 : Int) ≤ ((s[k]'hlt).toNat : Int) ∧ ((s[k]'hlt).toNat : Int) ≤ 126 ∧ Hid (ascB ((s[k]'hlt).toNat) = true) := by
        unfold ascB Hid
        simp only [decide_eq_true_eq, decide_eq_false_iff_not]
        omega
      rcases h0 with ⟨h1, hn⟩ | ⟨h1, h2, hn⟩ | ⟨h1, h2, hn⟩
      · have Hn := hide (Hb.out hn.out)
        clear Hs Hb hn
        go_wp2
        go_ret
        exact ⟨ret_bool Hn.out.symm, rfl⟩
      · have Hn := hide (Hb.out hn.out)
        clear Hs Hb hn
        go_wp2
        go_ret
        exact ⟨ret_bool Hn.out.symm, rfl⟩
      · have Hn := hide (Hs.out hn.out)
        clear Hs Hb hn
        go_wp2
        go_round
        case rel => exact ⟨k + 1, by omega, by go_num, Hn⟩
        case measure => simp [intOf]; omega
    · have e : k = s.size := by omega
      subst e
      have Hn : Hid (txB s = true) := by show _ = _; rw [txB_end Hok.out, decide_eq_true (by omega)]
      clear Hok
      go_wp2
      go_ret
      exact ⟨ret_bool Hn.out.symm, rfl⟩
end Go.Proofs.Ytamlgjmboljcdaa
/- Right values: the program's reading of their fields, and their size. -/
namespace Go.Proofs.Ytamlgjmboljcdaa
open Go.RowKit Go.BigFrame
set_option linter.unusedVariables false

set_option maxHeartbeats 3200000 in
theorem fieldsOk_any (kd : Int) (tx : ByteArray) (nm : Int) (ks : List ByteArray) (m : Nat) (a a' : Option Addr) (cap cap' : Nat) (w : World) (hk : tx.size ≤ maxLen) (hl : ks.length ≤ maxLen) (hm : m ≤ maxLen) (hrow : strOf w a ks) :
    Calls Try.prog 120 #[.agg #[.int .i64 kd, .string tx, .int .i64 nm, .slice a ks.length cap, .slice a' m cap']] w fun e w' => e = .returned (.bool (hdB kd tx nm ks m)) ∧ Below w.heap.size w w' := by
  have Htx : Hid (∀ wx, Calls Try.prog 122 #[.string tx] wx fun e w' => e = .returned (.bool (txB tx)) ∧ w' = wx) := fun wx => itext_any tx wx hk
  have Hks : Hid (∀ (L : Nat) wx, L = ks.length → Below w.heap.size w wx → Calls Try.prog 99 #[.slice a L cap] wx fun e w' => e = .returned (.bool (valsB ks)) ∧ Below wx.heap.size wx w') :=
    fun L wx hL hx => by subst hL; exact iasc_any a cap ks wx hl (hrow.below hx)
  have he := empty_beq tx
  unfold maxLen at hl hm
  have HA : Hid (∀ o, Below w.heap.size w (w.alloc o)) := fun o => (Below.refl _ _).alloc (Nat.le_refl _) _
  have HR : Hid (∀ r : Bool, hdB kd tx nm ks m = r → Ending.returned (.bool r) = .returned (.bool (hdB kd tx nm ks m))) := fun r h => by rw [h]
  clear hrow hk
  obtain ⟨t1, h1⟩ : ∃ t, decide (tx.size = 0) = t := ⟨_, rfl⟩
  obtain ⟨t2, h2⟩ : ∃ t, (nm == 0) = t := ⟨_, rfl⟩
  obtain ⟨t3, h3⟩ : ∃ t, ((ks.length : Int) == 0) = t := ⟨_, rfl⟩
  obtain ⟨t4, h4⟩ : ∃ t, ((m : Int) == 0) = t := ⟨_, rfl⟩
  have g2 : decide (nm = 0) = t2 := by rw [← h2]; rfl
  have g3 : decide (ks.length = 0) = t3 := by rw [← h3, Bool.eq_iff_iff]; simp
  have g4 : decide (m = 0) = t4 := by rw [← h4, Bool.eq_iff_iff]; simp
  rw [h1] at he
  have G := hide (And.intro h1 (And.intro g2 (And.intro g3 g4)))
  clear h1 g2 g3 g4
  by_cases k1 : kd = 1
  · subst k1
    obtain ⟨T, hT⟩ : ∃ t, txB tx = t := ⟨_, rfl⟩
    rw [hT] at Htx
    have E : Hid (hdB 1 tx nm ks m = (T && t2 && t3 && t4)) := by show _ = _; rw [hdB1, hT, G.out.2.1, G.out.2.2.1, G.out.2.2.2]
    clear G HR
    go_enter Try.func120, Try.ntmps120
    go_wp2
    go_quiet (fail)
    go_wp2
    go_quiet (fail)
    clear Hks hT
    cases T <;> cases t2 <;> cases t3 <;> cases t4
    all_goals go_wp2_with (go_at_call 122; refine (Htx.out _).mono ?_; rintro e w' ⟨rfl, rfl⟩)
    all_goals go_ret
    all_goals exact ⟨ret_bool (by rw [E.out]; rfl), by repeat (first | exact HA.out _ | refine below_drewN ?_ _)⟩
  by_cases k2 : kd = 2
  · subst k2
    have E : Hid (hdB 2 tx nm ks m = (t1 && t3 && t4)) := by show _ = _; rw [hdB2, G.out.1, G.out.2.2.1, G.out.2.2.2]
    clear G HR
    go_enter Try.func120, Try.ntmps120
    go_wp2
    go_quiet (fail)
    go_wp2
    go_quiet (fail)
    cases t1 <;> cases t3 <;> cases t4
    all_goals go_wp2
    all_goals go_ret
    all_goals exact ⟨ret_bool (by rw [E.out]; rfl), by repeat (first | exact HA.out _ | refine below_drewN ?_ _)⟩
  by_cases k3 : kd = 3
  · subst k3
    obtain ⟨t5, h5⟩ : ∃ t, (nm == 1) = t := ⟨_, rfl⟩
    have g5 : decide (nm = 0 ∨ nm = 1) = (t2 || t5) := by rw [← h5, ← h2, Bool.eq_iff_iff]; simp
    have E : Hid (hdB 3 tx nm ks m = (t1 && (t2 || t5) && t3 && t4)) := by show _ = _; rw [hdB3, G.out.1, g5, G.out.2.2.1, G.out.2.2.2]
    clear G HR
    go_enter Try.func120, Try.ntmps120
    go_wp2
    go_quiet (fail)
    go_wp2
    go_quiet (fail)
    clear g5
    cases t1 <;> cases t3 <;> cases t4 <;> cases t2 <;> cases t5
    all_goals go_wp2
    all_goals go_ret
    all_goals exact ⟨ret_bool (by rw [E.out]; rfl), by repeat (first | exact HA.out _ | refine below_drewN ?_ _)⟩
  by_cases k4 : kd = 4
  · subst k4
    have E : Hid (hdB 4 tx nm ks m = (t1 && t2 && t3)) := by show _ = _; rw [hdB4, G.out.1, G.out.2.1, G.out.2.2.1]
    clear G HR
    go_enter Try.func120, Try.ntmps120
    go_wp2
    go_quiet (fail)
    go_wp2
    go_quiet (fail)
    cases t1 <;> cases t2 <;> cases t3
    all_goals go_wp2
    all_goals go_ret
    all_goals exact ⟨ret_bool (by rw [E.out]; rfl), by repeat (first | exact HA.out _ | refine below_drewN ?_ _)⟩
  by_cases k5 : kd = 5
  · subst k5
    obtain ⟨T, hT⟩ : ∃ t, valsB ks = t := ⟨_, rfl⟩
    rw [hT] at Hks
    obtain ⟨t5, h5⟩ : ∃ t, ((ks.length : Int) == (m : Int)) = t := ⟨_, rfl⟩
    have g5 : decide (ks.length = m) = t5 := by rw [← h5, Bool.eq_iff_iff]; simp; omega
    have E : Hid (hdB 5 tx nm ks m = (t1 && t2 && t5 && T)) := by show _ = _; rw [hdB5, G.out.1, G.out.2.1, g5, hT]
    clear G HR g5 hT
    obtain ⟨L, hL⟩ : ∃ L, ks.length = L := ⟨_, rfl⟩
    rw [hL] at h3 h5 hl ⊢
    have HL := hide hL.symm
    have HC : Hid (∀ wx, Below w.heap.size w wx → Calls Try.prog 99 #[.slice a L cap] wx fun e w' => e = .returned (.bool T) ∧ Below w.heap.size w w') := fun wx hx => (Hks.out L wx HL.out hx).mono fun e w' h => ⟨h.1, hx.trans (h.2.mono hx.size)⟩
    clear Hks hL HL
    go_enter Try.func120, Try.ntmps120
    go_wp2
    go_quiet (fail)
    go_wp2
    go_quiet (fail)
    cases t1 <;> cases t2 <;> cases t5
    all_goals go_wp2_with (go_at_call 99; refine (HC.out _ (by repeat (first | exact HA.out _ | refine below_drewN ?_ _))).mono ?_; rintro e w1 ⟨rfl, hb⟩)
    all_goals go_ret
    all_goals exact ⟨ret_bool (by rw [E.out]; rfl), by repeat (first | assumption | exact HA.out _ | refine below_drewN ?_ _)⟩
  have E := hide (hdB0 k1 k2 k3 k4 k5 tx nm ks m)
  have j1 : (kd == 1) = false := by simpa using k1
  have j2 : (kd == 2) = false := by simpa using k2
  have j3 : (kd == 3) = false := by simpa using k3
  have j4 : (kd == 4) = false := by simpa using k4
  have j5 : (kd == 5) = false := by simpa using k5
  clear G HR k1 k2 k3 k4 k5
  go_enter Try.func120, Try.ntmps120
  go_wp2
  go_quiet (fail)
  go_wp2
  go_quiet (fail)
  go_wp2
  go_ret
  exact ⟨ret_bool E.out.symm, by repeat (first | exact HA.out _ | refine below_drewN ?_ _)⟩
end Go.Proofs.Ytamlgjmboljcdaa
/- Right values: the program's size of them; both SizeOf and both ValueOk. -/
namespace Go.Proofs.Ytamlgjmboljcdaa
open Go.RowKit Go.BigFrame
set_option linter.unusedVariables false

def withinC (n : Nat) : Prop := ∀ (v : VT n) (x : Value) (d m : Nat) (w : World), okVT n v → valArg w 0 n x v → d ≤ 100 → m ≤ 300 →
  Calls Try.prog 114 #[x, .int .i64 d, .int .i64 m] w fun e w' => e = .returned (.int .i64 (upTo (tsz n d v) m : Nat)) ∧ Below w.heap.size w w'
set_option maxHeartbeats 1600000 in
theorem within_of {n : Nat} (ih : withinC n) : withinC (n + 1) := by
  intro v X d m w hok harg hd hm
  obtain ⟨kd, tx, nm, ks, kids, rfl⟩ := VT.parts v
  obtain ⟨a, cap, a', cap', rfl, ⟨hrow, hf⟩, hkids, hf'⟩ := harg
  obtain ⟨hk, hl, hz, hkl, hkz⟩ := hok
  simp only [VT.hd_mk, VT.kids_mk] at *
  have Hfld : Hid (∀ wx, Below w.heap.size w wx → Calls Try.prog 120 #[.agg #[.int .i64 kd, .string tx, .int .i64 nm, .slice a ks.length cap, .slice a' kids.length cap']] wx fun e w' => e = .returned (.bool (hdB kd tx nm ks kids.length)) ∧ Below wx.heap.size wx w') :=
    fun wx hx => fieldsOk_any kd tx nm ks kids.length a a' cap cap' wx hk hl hkl (hrow.of.below hx)
  unfold maxLen at hkl
  have HA : Hid (∀ o, Below w.heap.size w (w.alloc o)) := fun o => (Below.refl _ _).alloc (Nat.le_refl _) _
  cases d with
  | zero =>
    have E : Hid (upTo (tsz (n + 1) 0 (VT.mk ⟨kd, tx, nm, ks⟩ kids)) m = 0) := by show _ = _; unfold upTo; rw [show tsz (n + 1) 0 (VT.mk ⟨kd, tx, nm, ks⟩ kids) = 0 from rfl]; split <;> rfl
    clear hrow hf hkids hf' hk hl hz hkl hkz ih Hfld
    go_enter Try.func114, Try.ntmps114
    go_wp2
    go_ret
    exact ⟨ret_int (by rw [E.out]; rfl), HA.out _⟩
  | succ d =>
  have E : Hid (tsz (n + 1) (d + 1) (VT.mk ⟨kd, tx, nm, ks⟩ kids) = if hdB kd tx nm ks kids.length then addL (tsz n d) kids 1 else 0) := rfl
  generalize tsz (n + 1) (d + 1) (VT.mk ⟨kd, tx, nm, ks⟩ kids) = T at *
  have Hk := hide hkids
  have Hkz := hide hkz
  have Hi := hide ih
  obtain ⟨D, hD⟩ : ∃ D, d + 1 = D := ⟨_, rfl⟩
  have Hd : Hid (d + 1 ≤ 100 ∧ d + 1 = D) := ⟨hd, hD⟩
  rw [hD]
  have qD : ((D : Int) == 0) = false := by simp; omega
  have hD0 : 0 < D := by omega
  have hD1 : D ≤ 100 := by omega
  clear hrow hf hkids hf' hk hl hz hkz ih hD hd
  by_cases hmost : m ≤ kids.length
  · have Hg : Hid (upTo T m = 0) := by
      show _ = _
      rw [E.out]
      split
      · rcases addL_ge (f := tsz n d) kids 1 with h | h
        · rw [h]; unfold upTo; split <;> rfl
        · exact upTo_no (by omega)
      · unfold upTo; split <;> rfl
    have hmost' : (m : Int) ≤ (kids.length : Int) := by omega
    clear E hmost Hfld Hk Hkz Hi Hd
    go_enter Try.func114, Try.ntmps114
    go_wp2
    go_ret
    exact ⟨ret_int (by rw [Hg.out]; rfl), HA.out _⟩
  have hmost' : (kids.length : Int) < (m : Int) := by omega
  cases hb : hdB kd tx nm ks kids.length
  · rw [hb] at Hfld E
    have Hg : Hid (upTo T m = 0) := by show _ = _; rw [E.out.trans (if_neg (by decide))]; unfold upTo; split <;> rfl
    clear E hmost Hk Hkz Hi Hd hb
    go_enter Try.func114, Try.ntmps114
    go_wp2_with fail
    refine (Hfld.out _ (HA.out _)).mono ?_
    rintro e w1 ⟨rfl, hb1⟩
    go_wp2
    go_ret
    exact ⟨ret_int (by rw [Hg.out]; rfl), (HA.out _).trans (hb1.mono (by simp))⟩
  rw [hb] at Hfld E
  replace E := hide (E.out.trans (if_pos rfl))
  clear hb
  go_enter Try.func114, Try.ntmps114
  go_wp2_with fail
  refine (Hfld.out _ (HA.out _)).mono ?_
  rintro e w1 ⟨rfl, hb1⟩
  have p4 : w1.cell? ⟨w.heap.size, 4, none⟩ = some (.slice a' kids.length cap') := (hb1.cell (p := ⟨w.heap.size, 4, none⟩) (by simp)).trans (by simp [go_sem])
  have hb1 : Below w.heap.size w w1 := (HA.out _).trans (hb1.mono (by simp))
  go_wp2
  go_loopw [7, 28] (fun s i wr => ∃ (k N : Nat), k ≤ kids.length ∧ i = .int .i64 k ∧ s = .int .i64 N ∧ 1 ≤ N ∧ N ≤ m ∧ Hid (addL (tsz n d) (kids.drop k) N = addL (tsz n d) kids 1) ∧ Below w.heap.size w wr) (fun _ i _ => kids.length - (intOf i).toNat)
  case atStart => exact ⟨0, 1, Nat.zero_le _, rfl, rfl, by omega, by omega, rfl, hb1⟩
  case round =>
    obtain ⟨k, N, hk, rfl, rfl, hN0, hN1, Hx, hbw⟩ := hrel
    by_cases hlt : k < kids.length
    · obtain ⟨b, off, rfl, _, hat⟩ := Hk.out (by omega)
      have hv := (hat k hlt).below hbw
      have hz := (Hkz.out _ (List.getElem_mem hlt))
      have hn := addL_drop (tsz n d) kids k hlt N
      have hge := addL_ge (f := tsz n d) (kids.drop (k + 1)) (N + tsz n d (kids[k]'hlt))
      cases n with
      | zero => exact hv.elim
      | succ n =>
      obtain ⟨KD, TX, NM, KS, KIDS, hkv⟩ := VT.parts (kids[k]'hlt)
      rw [hkv] at hv hz hn hge
      clear hkv hat
      have hcon := fun (X : Value) (z q : Int) (wx : World) (hzz : z = (D : Int) - 1) (hqq : q = (m : Int) - (N : Int)) (hx : valArg wx 0 (n + 1) X (VT.mk ⟨KD, TX, NM, KS⟩ KIDS)) => (show z = (d : Int) by have := Hd.out; omega) ▸ (show q = ((m - N : Nat) : Int) by omega) ▸ Hi.out (VT.mk ⟨KD, TX, NM, KS⟩ KIDS) X d (m - N) wx hz hx (by have := Hd.out; omega) (by omega)
      generalize tsz (n + 1) d (VT.mk ⟨KD, TX, NM, KS⟩ KIDS) = y at *
      obtain ⟨h0c, h1c, h2c, ⟨av, capv, h3c, h3d⟩, al, capl, h4c, h4d⟩ := hv
      have Hdd : Hid (valArg wr 0 (n + 1) (.agg #[.int .i64 KD, .string TX, .int .i64 NM, .slice av KS.length capv, .slice al KIDS.length capl]) (VT.mk ⟨KD, TX, NM, KS⟩ KIDS)) := ⟨_, _, _, _, rfl, h3d, h4d⟩
      simp only [VT.hd_mk, VT.kids_mk] at h0c h1c h2c h3c h4c
      clear h3d h4d hz
      have hgone : Hid (y = 0 ∨ m < N + y → upTo T m = 0) := by
        intro h
        rw [E.out, ← Hx.out, hn]
        split
        · unfold upTo; split <;> rfl
        · rcases hge with h' | h'
          · rw [h']; unfold upTo; split <;> rfl
          · exact upTo_no (by omega)
      have Hal : Hid (∀ o, Below wr.heap.size wr (wr.alloc o)) := fun o => (Below.refl _ _).alloc (Nat.le_refl _) _
      by_cases hy0 : upTo y (m - N) = 0
      · rw [hy0] at hcon
        have Hcon := hide hcon
        have Hg : Hid (upTo T m = 0) := hgone.out (by
          by_cases h0 : y = 0
          · exact .inl h0
          · right
            unfold upTo at hy0
            split at hy0 <;> omega)
        clear hcon hgone hn hge Hx
        go_wp2_with fail
        refine (Hcon.out _ _ _ _ (by first | rfl | omega) (by first | rfl | omega) (Hdd.out.below (Hal.out _))).mono ?_
        rintro e w2 ⟨rfl, hb⟩
        go_wp2
        go_ret
        exact ⟨ret_int (by rw [Hg.out]; rfl), hbw.trans (((Hal.out _).trans (hb.mono (by simp))).mono hbw.size)⟩
      · have hyy : y ≤ m - N ∧ y ≠ 0 := by unfold upTo at hy0; split at hy0 <;> omega
        rw [upTo_of hyy.1] at hcon
        have Hcon := hide hcon
        have Hn : Hid (addL (tsz (n + 1) d) (kids.drop (k + 1)) (N + y) = addL (tsz (n + 1) d) kids 1) := by rw [← Hx.out, hn, if_neg hyy.2]; rfl
        have q0 : ((y : Int) == 0) = false := by simp; omega
        have q1 : (N : Int) + (y : Int) ≤ 300 := by omega
        clear hcon hgone hn hge Hx
        go_wp2_with fail
        refine (Hcon.out _ _ _ _ (by first | rfl | omega) (by first | rfl | omega) (Hdd.out.below (Hal.out _))).mono ?_
        rintro e w2 ⟨rfl, hb⟩
        go_wp2
        go_roundw
        case rel => exact ⟨k + 1, N + y, by omega, by go_num, by go_num, by omega, by omega, Hn, hbw.trans (((Hal.out _).trans (hb.mono (by simp))).mono hbw.size)⟩
        case measure => simp [intOf]; omega
    · have e : k = kids.length := by omega
      subst e
      have Hn : Hid (upTo T m = N) := by show _ = _; rw [E.out, ← Hx.out, List.drop_length]; exact upTo_of hN1
      clear Hx Hk Hkz Hi E Hd hlt hk
      go_wp2
      go_ret
      exact ⟨ret_int (by rw [Hn.out]), hbw⟩
theorem within_any : ∀ n, withinC n
  | 0 => fun v => nomatch v
  | n + 1 => within_of (within_any n)
end Go.Proofs.Ytamlgjmboljcdaa
/- Right values: both SizeOf and both ValueOk. -/
namespace Go.Proofs.Ytamlgjmboljcdaa
open Go.RowKit Go.BigFrame
set_option linter.unusedVariables false

def sizB (n : Nat) (v : VT n) : Nat := upTo (tsz n 6 v) 300
def vokB (n : Nat) (v : VT n) : Bool := decide ((0 : Int) < (sizB n v : Nat))
theorem sValueOk_any {n : Nat} (v : VT n) (x : Value) (w : World) (hok : okVT n v) (hx : valArg w 0 n x v) : Calls Try.prog 64 #[x] w fun e w' => e = .returned (.bool (vokB n v)) ∧ Below w.heap.size w w' := by
  cases n with
  | zero => exact hx.elim
  | succ n =>
  obtain ⟨kd, tx, nm, ks, kids, rfl⟩ := VT.parts v
  obtain ⟨a, cap, a', cap', rfl, hx1, hx2⟩ := hx
  have HC : Hid (∀ wx, Below w.heap.size w wx → Calls Try.prog 76 #[.agg #[.int .i64 kd, .string tx, .int .i64 nm, .slice a ks.length cap, .slice a' kids.length cap'], .int .i64 6] wx fun e w' => e = .returned (.int .i64 (upTo (tsz (n + 1) 6 (VT.mk ⟨kd, tx, nm, ks⟩ kids)) 300 : Nat)) ∧ Below w.heap.size w w') :=
    fun wx hb => (look_any (n + 1) (VT.mk ⟨kd, tx, nm, ks⟩ kids) _ 6 wx hok (valArg.below (n := n + 1) (v := VT.mk ⟨kd, tx, nm, ks⟩ kids) ⟨_, _, _, _, rfl, hx1, hx2⟩ hb) (by omega)).mono fun e w' h => ⟨h.1, hb.trans (h.2.mono hb.size)⟩
  clear hok hx1 hx2
  unfold vokB sizB
  generalize upTo (tsz (n + 1) 6 (VT.mk ⟨kd, tx, nm, ks⟩ kids)) 300 = N at *
  go_enter Try.func64, Try.ntmps64
  go_wp2_with fail
  refine (HC.out _ (by repeat (first | exact Below.refl _ _ | refine Below.alloc ?_ (Nat.le_refl _) _))).mono ?_
  rintro e w1 ⟨rfl, hb1⟩
  go_wp2
  go_ret
  exact ⟨ret_bool (by simp), hb1⟩
theorem iSizeOf_any {n : Nat} (v : VT n) (x : Value) (w : World) (hok : okVT n v) (hx : valArg w 0 n x v) : Calls Try.prog 100 #[x] w fun e w' => e = .returned (.int .i64 (sizB n v : Nat)) ∧ Below w.heap.size w w' := by
  cases n with
  | zero => exact hx.elim
  | succ n =>
  obtain ⟨kd, tx, nm, ks, kids, rfl⟩ := VT.parts v
  obtain ⟨a, cap, a', cap', rfl, hx1, hx2⟩ := hx
  have HC : Hid (∀ wx, Below w.heap.size w wx → Calls Try.prog 114 #[.agg #[.int .i64 kd, .string tx, .int .i64 nm, .slice a ks.length cap, .slice a' kids.length cap'], .int .i64 6, .int .i64 300] wx fun e w' => e = .returned (.int .i64 (upTo (tsz (n + 1) 6 (VT.mk ⟨kd, tx, nm, ks⟩ kids)) 300 : Nat)) ∧ Below w.heap.size w w') :=
    fun wx hb => (within_any (n + 1) (VT.mk ⟨kd, tx, nm, ks⟩ kids) _ 6 300 wx hok (valArg.below (n := n + 1) (v := VT.mk ⟨kd, tx, nm, ks⟩ kids) ⟨_, _, _, _, rfl, hx1, hx2⟩ hb) (by omega) (by omega)).mono fun e w' h => ⟨h.1, hb.trans (h.2.mono hb.size)⟩
  clear hok hx1 hx2
  unfold sizB
  generalize upTo (tsz (n + 1) 6 (VT.mk ⟨kd, tx, nm, ks⟩ kids)) 300 = N at *
  go_enter Try.func100, Try.ntmps100
  go_wp2_with fail
  refine (HC.out _ (by repeat (first | exact Below.refl _ _ | refine Below.alloc ?_ (Nat.le_refl _) _))).mono ?_
  rintro e w1 ⟨rfl, hb1⟩
  go_wp2
  go_ret
  exact ⟨rfl, hb1⟩
theorem iValueOk_any {n : Nat} (v : VT n) (x : Value) (w : World) (hok : okVT n v) (hx : valArg w 0 n x v) : Calls Try.prog 84 #[x] w fun e w' => e = .returned (.bool (vokB n v)) ∧ Below w.heap.size w w' := by
  cases n with
  | zero => exact hx.elim
  | succ n =>
  obtain ⟨kd, tx, nm, ks, kids, rfl⟩ := VT.parts v
  obtain ⟨a, cap, a', cap', rfl, hx1, hx2⟩ := hx
  have HC : Hid (∀ wx, Below w.heap.size w wx → Calls Try.prog 100 #[.agg #[.int .i64 kd, .string tx, .int .i64 nm, .slice a ks.length cap, .slice a' kids.length cap']] wx fun e w' => e = .returned (.int .i64 (sizB (n + 1) (VT.mk ⟨kd, tx, nm, ks⟩ kids) : Nat)) ∧ Below w.heap.size w w') :=
    fun wx hb => (iSizeOf_any (VT.mk ⟨kd, tx, nm, ks⟩ kids) _ wx hok (valArg.below (n := n + 1) (v := VT.mk ⟨kd, tx, nm, ks⟩ kids) ⟨_, _, _, _, rfl, hx1, hx2⟩ hb)).mono fun e w' h => ⟨h.1, hb.trans (h.2.mono hb.size)⟩
  clear hok hx1 hx2
  unfold vokB
  generalize sizB (n + 1) (VT.mk ⟨kd, tx, nm, ks⟩ kids) = N at *
  go_enter Try.func84, Try.ntmps84
  go_wp2_with fail
  refine (HC.out _ (by repeat (first | exact Below.refl _ _ | refine Below.alloc ?_ (Nat.le_refl _) _))).mono ?_
  rintro e w1 ⟨rfl, hb1⟩
  go_wp2
  go_ret
  exact ⟨ret_bool (by simp), hb1⟩
end Go.Proofs.Ytamlgjmboljcdaa
/- Data as cells: a row of plain texts; rows compared one by one. -/
namespace Go.Proofs.Ytamlgjmboljcdaa
open Go.RowKit
set_option linter.unusedVariables false

/-- the texts of a row of plain texts -/
def strL : UD → List ByteArray
  | .nil => []
  | .p (.string s) r => s :: strL r
  | .p _ r => strL r
  | .l _ _ _ r => strL r
theorem strL_get : ∀ (d : UD) (i : Nat), tyU d (uE 0) i → (strL d).length = d.len ∧ ∀ j (h : j < (strL d).length), d.at? j = some (.p (.string ((strL d)[j]'h))) ∧ ((strL d)[j]'h).size ≤ maxLen
  | .nil, i, _ => ⟨rfl, fun j h => by cases h⟩
  | .p v r, i, ⟨⟨f, hf, hv⟩, h2⟩ => by
    have hf' : f = .s := by
      have : (i % (uE 0).length) = 0 := by show i % 1 = 0; omega
      rw [this] at hf
      exact (Option.some.inj hf).symm
    subst hf'
    obtain ⟨s, rfl, hs⟩ := hv
    obtain ⟨h3, h4⟩ := strL_get r (i + 1) h2
    refine ⟨by show (strL r).length + 1 = _; rw [h3, UD.len_p], fun j h => ?_⟩
    cases j with
    | zero => exact ⟨rfl, hs⟩
    | succ j => exact h4 j (by simpa [strL] using h)
  | .l k n cs r, i, ⟨⟨t, hf, _⟩, _⟩ => by
    have : (i % (uE 0).length) = 0 := by show i % 1 = 0; omega
    rw [this] at hf
    cases hf
theorem UD.len_nil {d : UD} (h : d.len = 0) : d = .nil := by
  cases d with
  | nil => rfl
  | p v r => rw [UD.len_p] at h; omega
  | l k n cs r => rw [UD.len_l] at h; omega
theorem strL_inj : ∀ (a b : UD) (i j : Nat), tyU a (uE 0) i → tyU b (uE 0) j → strL a = strL b → a = b
  | .nil, .nil, _, _, _, _, _ => rfl
  | .nil, b, i, j, ha, hb, h => by
    have h1 := (strL_get b j hb).1
    rw [← h] at h1
    exact (UD.len_nil h1.symm).symm
  | a, .nil, i, j, ha, hb, h => by
    have h1 := (strL_get a i ha).1
    rw [h] at h1
    exact UD.len_nil h1.symm
  | .p v r, .p v' r', i, j, ha, hb, h => by
    have g1 := (strL_get _ i ha).2 0
    have g2 := (strL_get _ j hb).2 0
    obtain ⟨⟨f, hf, hv⟩, h2⟩ := ha
    obtain ⟨⟨f', hf', hv'⟩, h2'⟩ := hb
    have e1 : f = .s := by
      have : (i % (uE 0).length) = 0 := by show i % 1 = 0; omega
      rw [this] at hf; exact (Option.some.inj hf).symm
    have e2 : f' = .s := by
      have : (j % (uE 0).length) = 0 := by show j % 1 = 0; omega
      rw [this] at hf'; exact (Option.some.inj hf').symm
    subst e1 e2
    obtain ⟨s, rfl, _⟩ := hv
    obtain ⟨s', rfl, _⟩ := hv'
    obtain ⟨rfl, h3⟩ := List.cons.inj (show s :: strL r = s' :: strL r' from h)
    rw [strL_inj r r' (i + 1) (j + 1) h2 h2' h3]
  | .l k n cs r, _, i, _, ha, _, _ => by
    obtain ⟨⟨t, hf, _⟩, _⟩ := ha
    have : (i % (uE 0).length) = 0 := by show i % 1 = 0; omega
    rw [this] at hf
    cases hf
  | _, .l k n cs r, _, j, _, hb, _ => by
    obtain ⟨⟨t, hf, _⟩, _⟩ := hb
    have : (j % (uE 0).length) = 0 := by show j % 1 = 0; omega
    rw [this] at hf
    cases hf
theorem strL_len {n : Nat} {c : UD} (h : tyS 1 n c 0) : (strL c).length = n := by rw [(strL_get c 0 h.2.2.2.2).1, h.2.2.2.1, Nat.mul_one]
theorem strL_ext {n : Nat} {c c' : UD} (h : tyS 1 n c 0) (h' : tyS 1 n c' 0) (he : ∀ j (g : j < (strL c).length) (g' : j < (strL c').length), (strL c)[j]'g = (strL c')[j]'g') : c = c' :=
  strL_inj c c' 0 0 h.2.2.2.2 h'.2.2.2.2 (List.ext_getElem (by rw [strL_len h, strL_len h']) he)
/-- a slice's cells are alike where its rows are -/
theorem rows_ext {k n : Nat} {a b : UD} (ha : a.len = n * k) (hb : b.len = n * k) (h : ∀ i, i < n → rowU a k i = rowU b k i) : a = b := by
  have key : ∀ m, m ≤ n → a.dropN ((n - m) * k) = b.dropN ((n - m) * k) := by
    intro m
    induction m with
    | zero => intro _; rw [Nat.sub_zero, ← ha, UD.dropN_all, ha, ← hb, UD.dropN_all]
    | succ m ih =>
      intro hm
      rw [UD.drop_row a, UD.drop_row b, h _ (by omega), show n - (m + 1) + 1 = n - m by omega, ih (by omega)]
  have := key n (Nat.le_refl _)
  rw [Nat.sub_self, Nat.zero_mul, UD.dropN_zero, UD.dropN_zero] at this
  exact this
theorem tyS.ext {k n t : Nat} {a b : UD} (ha : tyS k n a t) (hb : tyS k n b t) (h : ∀ i, i < n → rowU a k i = rowU b k i) : a = b := rows_ext ha.2.2.2.1 hb.2.2.2.1 h
theorem bool_iff (p : Prop) : ∃ b : Bool, (b = true ↔ p) := by
  by_cases h : p
  · exact ⟨true, by simp [h]⟩
  · exact ⟨false, by simp [h]⟩
/-- what is true at some measure is so at a least one -/
theorem least_of {α : Type} (R : α → Nat → Prop) : ∃ μ : α → Nat, ∀ a m, R a m → R a (μ a) ∧ μ a ≤ m := by
  have one : ∀ a, ∃ k, ∀ m, R a m → R a k ∧ k ≤ m := by
    intro a
    by_cases h : ∃ m, R a m
    · obtain ⟨m, hm⟩ := h
      induction m using Nat.strongRecOn with
      | ind m ih =>
        by_cases h' : ∃ k, k < m ∧ R a k
        · obtain ⟨k, hk, hr⟩ := h'; exact ih k hk hr
        · refine ⟨m, fun q hq => ⟨hm, ?_⟩⟩
          rcases Nat.lt_or_ge q m with hlt | hge
          · exact (h' ⟨q, hlt, hq⟩).elim
          · exact hge
    · exact ⟨0, fun m hm => (h ⟨m, hm⟩).elim⟩
  exact ⟨fun a => Classical.choose (one a), fun a => Classical.choose_spec (one a)⟩
end Go.Proofs.Ytamlgjmboljcdaa
/- Values as cells and values as trees: the one out of the other; both ValueOk on cells. -/
namespace Go.Proofs.Ytamlgjmboljcdaa
open Go.RowKit Go.BigFrame
set_option linter.unusedVariables false

theorem strB_of {w : World} {lo hi n : Nat} {c : UD} {a : Option Addr} {cap : Nat} (ht : tyS 1 n c 0) (h : uS w lo hi 1 n c (.slice a n cap)) : strB w 0 a (strL c) ∧ fits a (strL c).length cap ∧ (strL c).length = n := by
  obtain ⟨h1, h2⟩ := strL_get c 0 ht.2.2.2.2
  have hl : (strL c).length = n := by rw [h1, ht.2.2.2.1, Nat.mul_one]
  have h' := h
  obtain ⟨a', cap', e, g1, g2⟩ := h'
  cases e
  refine ⟨fun hp => ?_, by rw [hl]; exact ⟨g1.1, g1.2.1⟩, hl⟩
  obtain ⟨b, off, rfl, -, hm⟩ := h.cells (by omega)
  refine ⟨b, off, rfl, Nat.zero_le _, fun i hi => ?_⟩
  obtain ⟨c', q1, q2⟩ := hm.get i _ (h2 i hi).1
  rw [q1, show c' = _ from q2]
/-- a value as cells and the same one as a tree -/
def Br : (N : Nat) → UD → VT N → Prop
  | 0, _, _ => False
  | N + 1, d, v => ∃ (z0 : Int) (z1 : ByteArray) (z2 : Int) (n3 : Nat) (c3 : UD) (n4 : Nat) (c4 : UD), d = .p (.int .i64 z0) (.p (.string z1) (.p (.int .i64 z2) (.l 1 n3 c3 (.l 5 n4 c4 .nil)))) ∧ v.hd = ⟨z0, z1, z2, strL c3⟩ ∧ v.kids.length = n4 ∧
    ∀ i (h : i < v.kids.length), Br N (rowU c4 5 i) v.kids[i]
theorem bridge : ∀ (N : Nat) (d : UD), uszD d < N → tyL d (uE 6) → ∃ v : VT N, okVT N v ∧ Br N d v ∧ ∀ (w : World) (lo hi : Nat) (xs : List Value), uH w lo hi d xs → valArg w 0 N (.agg xs.toArray) v := by
  intro N
  induction N with
  | zero => intro d h; omega
  | succ N ih =>
    intro d hN ht
    obtain ⟨z0, z1, z2, n3, c3, n4, c4, rfl, g0, g1, g2, g3, g4⟩ := partsValue ht
    simp only [uszD] at hN
    have each : ∀ i, i < n4 → ∃ q : VT N, okVT N q ∧ Br N (rowU c4 5 i) q ∧ ∀ (w : World) (lo hi : Nat) (xs : List Value), uH w lo hi (rowU c4 5 i) xs → valArg w 0 N (.agg xs.toArray) q := fun i hi =>
      ih (rowU c4 5 i) (by have := uszD_row c4 5 i; omega) (g4.row hi)
    obtain ⟨ss, hs1, hs2, hs3⟩ : ∃ ss : List ByteArray, ss = strL c3 ∧ ss.length = n3 ∧ okStrs ss := by
      obtain ⟨h1, h2⟩ := strL_get c3 0 g3.2.2.2.2
      refine ⟨_, rfl, by rw [h1, g3.2.2.2.1, Nat.mul_one], fun s hs => ?_⟩
      obtain ⟨j, hj, rfl⟩ := List.mem_iff_getElem.1 hs
      exact (h2 j hj).2
    have mk : ∀ (kids : List (VT N)) (hkl : kids.length = n4) (hq : ∀ i (h : i < kids.length), okVT N kids[i] ∧ Br N (rowU c4 5 i) kids[i] ∧ ∀ (w : World) (lo hi : Nat) (xs : List Value), uH w lo hi (rowU c4 5 i) xs → valArg w 0 N (.agg xs.toArray) kids[i]),
        ∃ v : VT (N + 1), okVT (N + 1) v ∧ Br (N + 1) (.p (.int .i64 z0) (.p (.string z1) (.p (.int .i64 z2) (.l 1 n3 c3 (.l 5 n4 c4 .nil))))) v ∧ ∀ (w : World) (lo hi : Nat) (xs : List Value), uH w lo hi (.p (.int .i64 z0) (.p (.string z1) (.p (.int .i64 z2) (.l 1 n3 c3 (.l 5 n4 c4 .nil))))) xs → valArg w 0 (N + 1) (.agg xs.toArray) v := by
      intro kids hkl hq
      refine ⟨VT.mk ⟨z0, z1, z2, ss⟩ kids, ⟨g1, by rw [VT.hd_mk, hs2]; exact g3.2.2.1, hs3, by rw [VT.kids_mk, hkl]; exact g4.2.2.1, fun x hx => ?_⟩, ⟨z0, z1, z2, n3, c3, n4, c4, rfl, by rw [hs1]; rfl, hkl, fun i h => (hq i h).2.1⟩, fun w lo hi xs h => ?_⟩
      · obtain ⟨j, hj, rfl⟩ := List.mem_iff_getElem.1 (show x ∈ kids from hx)
        exact (hq j hj).1
      · obtain ⟨_, rfl, ⟨_, rfl, ⟨_, rfl, ⟨v3, _, rfl, s3, ⟨v4, _, rfl, s4, rfl⟩⟩⟩⟩⟩ := h
        obtain ⟨a3, p3, rfl, t3⟩ := s3
        obtain ⟨a4, p4, rfl, t4⟩ := s4
        have H3 : uS w lo hi 1 n3 c3 (.slice a3 n3 p3) := ⟨_, _, rfl, t3⟩
        have H4 : uS w lo hi 5 n4 c4 (.slice a4 n4 p4) := ⟨_, _, rfl, t4⟩
        obtain ⟨q1, q2, q3⟩ := strB_of g3 H3
        rw [← hs1] at q1 q2
        refine ⟨a3, p3, a4, p4, by rw [VT.hd_mk, VT.kids_mk, hs2, hkl], ⟨q1, by rw [VT.hd_mk]; exact q2⟩, fun hp => ?_, by rw [VT.kids_mk, hkl]; exact ⟨t4.1.1, t4.1.2.1⟩⟩
        rw [VT.kids_mk] at hp
        obtain ⟨b, off, rfl, -, hm⟩ := H4.cells (by omega)
        refine ⟨b, off, rfl, Nat.zero_le _, fun i hi => ?_⟩
        have hi' : i < kids.length := hi
        obtain ⟨ys, hh, hc⟩ := (hm.row 5 i).hand
        have hv := (hq i hi').2.2 w lo _ ys hh
        have ht5 := g4.row (show i < n4 by omega)
        obtain ⟨y0, y1, y2, m3, e3, m4, e4, hR, -, -, -, -, -⟩ := partsValue ht5
        rw [hR] at hh
        obtain ⟨_, rfl, ⟨_, rfl, ⟨_, rfl, ⟨v3, _, rfl, s3, ⟨v4, _, rfl, s4, rfl⟩⟩⟩⟩⟩ := hh
        show vatAt w 0 N b (off + i * 5) kids[i]
        cases N with
        | zero => exact hv.elim
        | succ N =>
          obtain ⟨a1, c1, a2, c2, e, k1, k2, k3⟩ := hv
          have e' : ([.int .i64 y0, .string y1, .int .i64 y2, v3, v4] : List Value) = [.int .i64 kids[i].hd.kd, .string kids[i].hd.tx, .int .i64 kids[i].hd.nm, .slice a1 kids[i].hd.ks.length c1, .slice a2 kids[i].kids.length c2] := by
            have := Value.agg.inj e
            simpa using this
          simp only [List.cons.injEq, and_true] at e'
          obtain ⟨e0, e1, e2, e3, e4⟩ := e'
          exact ⟨(hc 0 _ rfl).trans (by rw [e0]), (hc 1 _ rfl).trans (by rw [e1]), (hc 2 _ rfl).trans (by rw [e2]), ⟨a1, c1, (hc 3 _ rfl).trans (by rw [e3]), k1⟩, a2, c2, (hc 4 _ rfl).trans (by rw [e4]), k2, k3⟩
    rcases Nat.eq_zero_or_pos n4 with h0 | hp
    · exact mk [] (by simpa using h0.symm) (fun i h => by cases h)
    · obtain ⟨q0, _⟩ := each 0 hp
      have : Inhabited (VT N) := ⟨q0⟩
      obtain ⟨q, hq⟩ := Go.Deep.choose_lt each
      exact mk ((List.range n4).map q) (by simp) (fun i h => by
        have hi : i < n4 := by simpa using h
        simpa using hq i hi)
/-- right values, as cells -/
def rgtU : Nat → UD → Prop
  | 0, _ => False
  | N + 1, d => ∃ (z0 : Int) (z1 : ByteArray) (z2 : Int) (n3 : Nat) (c3 : UD) (n4 : Nat) (c4 : UD), d = .p (.int .i64 z0) (.p (.string z1) (.p (.int .i64 z2) (.l 1 n3 c3 (.l 5 n4 c4 .nil)))) ∧ hdB z0 z1 z2 (strL c3) n4 = true ∧ ∀ i, i < n4 → rgtU N (rowU c4 5 i)
theorem addL_each {α : Type} {f : α → Nat} : ∀ (l : List α) (n : Nat), addL f l n ≠ 0 → ∀ x ∈ l, f x ≠ 0
  | [], n, _, x, hx => by cases hx
  | y :: r, n, h, x, hx => by
    unfold addL at h
    split at h
    · exact absurd rfl h
    · rename_i hy
      rcases List.mem_cons.1 hx with rfl | hx
      · exact hy
      · exact addL_each r _ h x hx
theorem rgt_br : ∀ (N dp : Nat) (d : UD) (v : VT N), Br N d v → tsz N dp v ≠ 0 → rgtU N d
  | 0, _, _, _, h, _ => h.elim
  | N + 1, 0, _, _, _, h => absurd rfl h
  | N + 1, dp + 1, d, v, ⟨z0, z1, z2, n3, c3, n4, c4, e, hh, hk, hr⟩, h => by
    rw [tsz_pos, hh, hk] at h
    split at h
    · rename_i hb
      refine ⟨z0, z1, z2, n3, c3, n4, c4, e, hb, fun i hi => ?_⟩
      exact rgt_br N dp _ _ (hr i (by omega)) (addL_each _ _ h _ (List.getElem_mem _))
    · exact absurd rfl h
theorem vok_both (d : UD) (ht : tyL d (uE 6)) : ∃ b : Bool, (b = true → ∃ N, rgtU N d) ∧
    (∀ (w : World) (lo hi : Nat) (xs : List Value), uH w lo hi d xs → Calls Try.prog 64 #[.agg xs.toArray] w fun e w' => e = .returned (.bool b) ∧ Below w.heap.size w w') ∧
    (∀ (w : World) (lo hi : Nat) (xs : List Value), uH w lo hi d xs → Calls Try.prog 84 #[.agg xs.toArray] w fun e w' => e = .returned (.bool b) ∧ Below w.heap.size w w') := by
  obtain ⟨v, h1, h2, h3⟩ := bridge (uszD d + 1) d (by omega) ht
  refine ⟨vokB _ v, fun hb => ⟨_, rgt_br _ 6 d v h2 ?_⟩, fun w lo hi xs h => sValueOk_any v _ w h1 (h3 w lo hi xs h), fun w lo hi xs h => iValueOk_any v _ w h1 (h3 w lo hi xs h)⟩
  unfold vokB sizB upTo at hb
  rw [decide_eq_true_eq] at hb
  split at hb <;> omega
end Go.Proofs.Ytamlgjmboljcdaa
/- Data as cells: what a reading of arguments says, for every type at once. -/
namespace Go.Proofs.Ytamlgjmboljcdaa
open Go.RowKit
open Go.ChangeShapes Go.WideShapes Go.ChangeAt
set_option linter.unusedVariables false

theorem tyL.app : ∀ {a b : UD} {fs gs : List UF}, tyL a fs → tyL b gs → tyL (a.app b) (fs ++ gs)
  | .nil, b, fs, gs, h, k => by rw [UD.app_nil, show fs = [] from h]; exact k
  | .p v r, b, _, gs, ⟨f, fr, e, h1, h2⟩, k => by subst e; rw [UD.app_p]; exact ⟨f, fr ++ gs, rfl, h1, tyL.app h2 k⟩
  | .l m n cs r, b, _, gs, ⟨t, fr, e, h1, h2⟩, k => by subst e; rw [UD.app_l]; exact ⟨t, fr ++ gs, rfl, h1, tyL.app h2 k⟩
theorem uH.app {w : World} {lo hi : Nat} : ∀ {a b : UD} {xs ys : List Value}, uH w lo hi a xs → uH w lo hi b ys → uH w lo hi (a.app b) (xs ++ ys)
  | .nil, b, xs, ys, h, k => by rw [UD.app_nil, show xs = [] from h]; exact k
  | .p v r, b, _, ys, ⟨zs, e, h⟩, k => by subst e; rw [UD.app_p]; exact ⟨zs ++ ys, rfl, uH.app h k⟩
  | .l m n cs r, b, _, ys, ⟨c, zs, e, h1, h⟩, k => by subst e; rw [UD.app_l]; exact ⟨c, zs ++ ys, rfl, h1, uH.app h k⟩
theorem tyL.len : ∀ {d : UD} {fs : List UF}, tyL d fs → d.len = fs.length
  | .nil, fs, h => by rw [show fs = [] from h]; rfl
  | .p v r, _, ⟨f, fr, e, h1, h2⟩ => by subst e; rw [UD.len_p, tyL.len h2]; rfl
  | .l m n cs r, _, ⟨t, fr, e, h1, h2⟩ => by subst e; rw [UD.len_l, tyL.len h2]; rfl
theorem uM.app {w : World} {lo hi b : Nat} : ∀ {d e : UD} {o : Nat}, uM w lo hi d b o → uM w lo hi e b (o + d.len) → uM w lo hi (d.app e) b o
  | .nil, e, o, h, k => by rw [UD.app_nil]; exact k
  | .p v r, e, o, h, k => by rw [UD.app_p]; exact ⟨h.1, uM.app h.2 (by rw [UD.len_p] at k; rw [show o + 1 + r.len = o + (r.len + 1) by omega]; exact k)⟩
  | .l m n cs r, e, o, h, k => by rw [UD.app_l]; exact ⟨h.1, uM.app h.2 (by rw [UD.len_l] at k; rw [show o + 1 + r.len = o + (r.len + 1) by omega]; exact k)⟩
theorem uM.of_hand {w : World} {lo hi b : Nat} : ∀ {d : UD} {xs : List Value} {o : Nat}, uH w lo hi d xs → (∀ j c, xs[j]? = some c → w.cell? ⟨b, o + j, none⟩ = some c) → uM w lo hi d b o
  | .nil, _, _, _, _ => trivial
  | .p v r, _, o, ⟨ys, e, h⟩, hc => by
    subst e
    exact ⟨hc 0 v rfl, uM.of_hand h (fun j x hx => by have := hc (j + 1) x (by simpa using hx); rw [← this]; congr 2; omega)⟩
  | .l k n cs r, _, o, ⟨c, ys, e, h1, h2⟩, hc => by
    subst e
    obtain ⟨a, cap, rfl, h3⟩ := h1
    exact ⟨⟨a, cap, hc 0 _ rfl, h3⟩, uM.of_hand h2 (fun j x hx => by have := hc (j + 1) x (by simpa using hx); rw [← this]; congr 2; omega)⟩
theorem tyU.row {fs : List UF} (hf : 0 < fs.length) : ∀ {d rest : UD} {i j : Nat}, tyL d (fs.drop j) → i % fs.length = j → tyU rest fs (i + d.len) → tyU (d.app rest) fs i
  | .nil, rest, i, j, h, hi, k => by rw [UD.app_nil]; exact k
  | .p v r, rest, i, j, ⟨f, fr, e, h1, h2⟩, hi, k => by
    rw [UD.app_p]
    have hj : j < fs.length := by rw [← hi]; exact Nat.mod_lt _ hf
    rw [List.drop_eq_getElem_cons hj] at e
    obtain ⟨e1, e2⟩ := List.cons.inj e
    refine ⟨⟨f, by rw [hi, List.getElem?_eq_getElem hj, e1], h1⟩, ?_⟩
    rw [UD.len_p] at k
    rw [← e2] at h2
    by_cases hl : j + 1 < fs.length
    · exact tyU.row hf h2 (by rw [Nat.add_mod, hi, Nat.mod_eq_of_lt (show 1 < fs.length by omega), Nat.mod_eq_of_lt hl]) (by rw [show i + 1 + r.len = i + (r.len + 1) by omega]; exact k)
    · rw [List.drop_eq_nil_of_le (by omega)] at h2
      rw [tyL.nil h2, UD.app_nil]
      rw [tyL.nil h2] at k
      exact k
  | .l m n cs r, rest, i, j, ⟨t, fr, e, h1, h2⟩, hi, k => by
    rw [UD.app_l]
    have hj : j < fs.length := by rw [← hi]; exact Nat.mod_lt _ hf
    rw [List.drop_eq_getElem_cons hj] at e
    obtain ⟨e1, e2⟩ := List.cons.inj e
    refine ⟨⟨t, by rw [hi, List.getElem?_eq_getElem hj, e1], h1⟩, ?_⟩
    rw [UD.len_l] at k
    rw [← e2] at h2
    by_cases hl : j + 1 < fs.length
    · exact tyU.row hf h2 (by rw [Nat.add_mod, hi, Nat.mod_eq_of_lt (show 1 < fs.length by omega), Nat.mod_eq_of_lt hl]) (by rw [show i + 1 + r.len = i + (r.len + 1) by omega]; exact k)
    · rw [List.drop_eq_nil_of_le (by omega)] at h2
      rw [tyL.nil h2, UD.app_nil]
      rw [tyL.nil h2] at k
      exact k

/-- a type of the program is flatly these cells; TY: which type a number stands for -/
inductive Flat (P : Program) (TY : Nat → TypeId) (G : Nat → Prop) : TypeId → List UF → Prop where
  | i64 {t : TypeId} : P.underlying t = some (.int .i64) → Flat P TY G t [.i .i64]
  | u8 {t : TypeId} : P.underlying t = some (.int .u8) → Flat P TY G t [.i .u8]
  | str {t : TypeId} : P.underlying t = some .string → Flat P TY G t [.s]
  | bool {t : TypeId} : P.underlying t = some .bool → Flat P TY G t [.b]
  | slice {t : TypeId} (n : Nat) : P.underlying t = some (.slice (TY n)) → G n → P.cellsOf (TY n) = (uE n).length → 0 < (uE n).length → Flat P TY G t [.l (uE n).length n]
  | struct {t : TypeId} {fields : Array Field} (segs : List (List UF)) : P.underlying t = some (.struct fields) → segs.length = fields.size →
      (∀ (i : Nat) (f : Field) (s : List UF), fields[i]? = some f → segs[i]? = some s → Flat P TY G f.type s) → (∀ (i : Nat) (f : Field) (s : List UF), fields[i]? = some f → segs[i]? = some s → P.cellsOf f.type = s.length ∧ f.offset = (segs.take i).flatten.length) → Flat P TY G t segs.flatten

section
variable {H : Type} {enc : TypeId × Value → H} {P : Program} {w : World} {base : Nat} {spare : Nat → Bool} {held : Bool}
theorem open_rows {fs : List UF} (hf : 0 < fs.length) {b off : Nat} : ∀ (m len : Nat), m ≤ len → (∀ i, i < len → ∃ d xs, tyL d fs ∧ uH w 0 w.heap.size d xs ∧ ∀ j c, xs[j]? = some c → w.cell? ⟨b, off + (i * fs.length + j), none⟩ = some c) →
    ∃ cs : UD, tyU cs fs ((len - m) * fs.length) ∧ cs.len = m * fs.length ∧ uM w 0 w.heap.size cs b (off + (len - m) * fs.length)
  | 0, len, _, _ => ⟨.nil, trivial, by simp [UD.len, UD.toL], trivial⟩
  | m + 1, len, hm, h => by
    obtain ⟨cs, h1, h2, h3⟩ := open_rows hf (b := b) (off := off) m len (by omega) h
    obtain ⟨d, xs, g1, g2, g3⟩ := h (len - (m + 1)) (by omega)
    have hl := g1.len
    have e : (len - m) * fs.length = (len - (m + 1)) * fs.length + fs.length := by rw [show len - m = (len - (m + 1)) + 1 by omega, Nat.succ_mul]
    refine ⟨d.app cs, tyU.row hf (j := 0) (by rw [List.drop_zero]; exact g1) (Nat.mul_mod_left _ _) (by rw [hl, ← e]; exact h1), ?_, uM.app (uM.of_hand g2 (fun j c hc => ?_)) ?_⟩
    · have : (d.app cs).len = d.len + cs.len := by unfold UD.len; rw [UD.app_toL, List.length_append]
      rw [this, hl, h2, Nat.succ_mul]; omega
    · rw [← g3 j c hc]; congr 2; omega
    · rw [hl, show off + (len - (m + 1)) * fs.length + fs.length = off + (len - m) * fs.length by rw [e]; omega]; exact h3
theorem openU {TY : Nat → TypeId} {G : Nat → Prop} (HE : ∀ n, G n → Flat P TY G (TY n) (uE n)) : ∀ (fuel : Nat) (t : TypeId) (fs : List UF), Flat P TY G t fs → ∀ (cs : List Value) (x : DataW H × List MemPlace),
    cs.length = fs.length → DataW.trod enc P w base spare held fuel t cs = some x → ∃ d : UD, tyL d fs ∧ uH w 0 w.heap.size d cs := by
  intro fuel
  induction fuel using Nat.strongRecOn with
  | ind fuel ih =>
  intro t fs hF
  induction hF generalizing fuel with
  | i64 ht =>
    intro cs x hl h
    obtain ⟨z, rfl, -, hw⟩ := DataW.trod_int ht h
    have hb : -9223372036854775808 ≤ z ∧ z ≤ 9223372036854775807 := by have h := Go.Joins.in64_of_wf hw; unfold Go.Joins.In64 at h; omega
    exact ⟨.p (.int .i64 z) .nil, ⟨_, _, rfl, ⟨z, rfl, hb⟩, rfl⟩, ⟨_, rfl, rfl⟩⟩
  | u8 ht =>
    intro cs x hl h
    obtain ⟨z, rfl, -, hw⟩ := DataW.trod_int ht h
    have hb : 0 ≤ z ∧ z ≤ 255 := by
      have m1 : IntKind.u8.min = 0 := rfl
      have m2 : IntKind.u8.max = 255 := rfl
      simp [Lit.wf] at hw; omega
    exact ⟨.p (.int .u8 z) .nil, ⟨_, _, rfl, ⟨z, rfl, hb⟩, rfl⟩, ⟨_, rfl, rfl⟩⟩
  | str ht =>
    intro cs x hl h
    obtain ⟨z, rfl, -, hw⟩ := DataW.trod_string ht h
    exact ⟨.p (.string z) .nil, ⟨_, _, rfl, ⟨z, rfl, hw⟩, rfl⟩, ⟨_, rfl, rfl⟩⟩
  | bool ht =>
    intro cs x hl h
    obtain ⟨z, rfl, -⟩ := DataW.trod_bool ht h
    exact ⟨.p (.bool z) .nil, ⟨_, _, rfl, ⟨z, rfl⟩, rfl⟩, ⟨_, rfl, rfl⟩⟩
  | slice n ht hg hc hpos =>
    intro cs x hl h
    rcases DataW.trod_slice ht h with ⟨rfl, -⟩ | ⟨a, len, cap, elems, rest, k, hf, rfl, rfl, hb, hle, hm, hlen, hel, _⟩
    · exact ⟨.l (uE n).length 0 .nil .nil, ⟨n, _, rfl, ⟨hpos, rfl, Nat.zero_le _, by simp [UD.len, UD.toL], trivial⟩, rfl⟩, ⟨_, _, rfl, ⟨none, 0, rfl, ⟨Nat.le_refl _, fun _ => rfl, hpos, by simp [UD.len, UD.toL]⟩, fun h => by cases h⟩, rfl⟩⟩
    · rw [hc] at hel
      rcases Nat.eq_zero_or_pos len with rfl | hp
      · exact ⟨.l (uE n).length 0 .nil .nil, ⟨n, _, rfl, ⟨hpos, rfl, Nat.zero_le _, by simp [UD.len, UD.toL], trivial⟩, rfl⟩, ⟨_, _, rfl, ⟨some a, cap, rfl, ⟨hle, (fun h => by cases h), hpos, by simp [UD.len, UD.toL]⟩, fun h => by cases h⟩, rfl⟩⟩
      have each : ∀ i, i < len → ∃ cs', w.cells? base (a.add (i * (uE n).length)) (uE n).length = some cs' ∧ ∃ d, tyL d (uE n) ∧ uH w 0 w.heap.size d cs' := fun i hi => by
        have key := hel i hi
        rw [List.getElem?_eq_getElem (by omega)] at key
        obtain ⟨cs', h1, h2⟩ := Option.bind_eq_some_iff.1 key
        obtain ⟨_, hlen', _⟩ := World.cells?_some h1
        exact ⟨cs', h1, ih k (by omega) (TY n) (uE n) (HE n hg) cs' _ hlen' h2⟩
      obtain ⟨b, off, spot⟩ := a
      have hspot : spot = none ∧ b < w.heap.size := by
        obtain ⟨cs', h1, _⟩ := each 0 hp
        obtain ⟨_, hlen', hcell⟩ := World.cells?_some h1
        have e0 := hcell 0 (by omega)
        rw [Go.Deep.add_add] at e0
        rw [List.getElem?_eq_getElem (by omega)] at e0
        exact ⟨by simpa [Addr.add] using World.cell?_spot e0, by simpa [Addr.add] using World.block_lt_of_cell? _ _ e0⟩
      obtain ⟨rfl, hbl⟩ := hspot
      obtain ⟨ds, h1, h2, h3⟩ := open_rows (w := w) hpos (b := b) (off := off) len len (Nat.le_refl _) (fun i hi => by
        obtain ⟨cs', h1, d, h2, h3⟩ := each i hi
        refine ⟨d, cs', h2, h3, fun j c hc => ?_⟩
        obtain ⟨_, hlen', hcell⟩ := World.cells?_some h1
        have hj : j < cs'.length := (List.getElem?_eq_some_iff.1 hc).1
        have e0 := hcell j (by omega)
        rw [Go.Deep.add_add, Go.WideShapes.add_plain] at e0
        rw [e0, hc])
      rw [Nat.sub_self, Nat.zero_mul] at h1 h3
      exact ⟨.l (uE n).length len ds .nil, ⟨n, _, rfl, ⟨hpos, rfl, by omega, h2, h1⟩, rfl⟩, ⟨_, _, rfl, ⟨some ⟨b, off, none⟩, cap, rfl, ⟨hle, (fun h => by cases h), hpos, h2⟩, fun _ => ⟨b, off, rfl, Nat.zero_le _, hbl, by simpa using h3⟩⟩, rfl⟩⟩
  | @struct t fields segs ht hs hF hO ihF =>
    intro cs x hl h
    obtain ⟨xs, k, hk, -, hcl, hxl, hf⟩ := DataW.trod_struct ht h
    have key : ∀ m, m ≤ segs.length → ∃ d, tyL d (segs.drop (segs.length - m)).flatten ∧ uH w 0 w.heap.size d (cs.drop (segs.take (segs.length - m)).flatten.length) := by
      intro m
      induction m with
      | zero =>
        intro _
        refine ⟨.nil, ?_, ?_⟩
        · rw [Nat.sub_zero, List.drop_length]; rfl
        · rw [Nat.sub_zero, List.take_length, ← hl, List.drop_length]; rfl
      | succ m ihm =>
        intro hm
        obtain ⟨d, h1, h2⟩ := ihm (by omega)
        have hi : segs.length - (m + 1) < segs.length := by omega
        obtain ⟨fld, hfld⟩ : ∃ fld, fields[segs.length - (m + 1)]? = some fld := ⟨_, Array.getElem?_eq_getElem (by omega)⟩
        have hseg := List.getElem?_eq_getElem hi
        obtain ⟨o1, o2⟩ := hO _ _ _ hfld hseg
        have ht2 := hf _ _ hfld
        rw [List.getElem?_eq_getElem (by rw [hxl, ← hs]; exact hi)] at ht2
        have e1 : segs.length - m = (segs.length - (m + 1)) + 1 := by omega
        have etake : (segs.take (segs.length - m)).flatten.length = (segs.take (segs.length - (m + 1))).flatten.length + (segs[segs.length - (m + 1)]'hi).length := by
          rw [e1, List.take_add_one, hseg, List.flatten_append, List.length_append]; simp
        have hle : (segs.take (segs.length - m)).flatten.length ≤ cs.length := by
          rw [hl]
          have := congrArg (fun l => l.flatten.length) (List.take_append_drop (segs.length - m) segs)
          simp only [List.flatten_append, List.length_append] at this
          omega
        obtain ⟨d1, g1, g2⟩ := ihF _ _ _ hfld hseg k (fun q hq => ih q (by omega)) _ _ (by rw [List.length_take, List.length_drop, o1, o2]; omega) ht2
        refine ⟨d1.app d, ?_, ?_⟩
        · rw [List.drop_eq_getElem_cons hi, List.flatten_cons, show segs.length - (m + 1) + 1 = segs.length - m by omega]
          exact tyL.app g1 h1
        · rw [o1, o2] at g2
          have := uH.app g2 h2
          rw [etake, ← List.drop_drop, List.take_append_drop] at this
          exact this
    obtain ⟨d, h1, h2⟩ := key segs.length (Nat.le_refl _)
    rw [Nat.sub_self, List.drop_zero] at h1
    rw [Nat.sub_self, List.take_zero] at h2
    exact ⟨d, h1, by simpa using h2⟩
end
end Go.Proofs.Ytamlgjmboljcdaa
/- Data as cells: lists that a call builds by append. -/
namespace Go.Proofs.Ytamlgjmboljcdaa
open Go.RowKit
set_option linter.unusedVariables false

theorem callFunc_enter {P : Program} {f : FuncId} {fn : Func} (h : P.funcs[f]? = some fn) (hn : (fn.name == "runtime.NumGoroutine") = false) (hb : fn.body.isNone = false) (xs : Array Value) (w : World) : (callFunc f xs).run P w = .ok (.enter f xs) w := by
  have hn' : ¬ fn.name = "runtime.NumGoroutine" := by simpa using hn
  have hb' : ¬ fn.body = none := by intro e; rw [e] at hb; cases hb
  simp [callFunc, h, hn', hb', go_sem]
/-- a call of a Go function, by its contract, as a step of a region that draws -/
theorem step_call_of {P : Program} {w : World} {ops : Array Oper} {o : Oper} {a : Act} {K : Act → World → Prop} {Q : Exit → Act → World → Prop} {E : Prop} (hgd : o.guard = none) (f : FuncId) (args : Array Operand) (ts : Array TypeId)
    (ho : o.op = .call { callee := .value (.func f), args := args, argTypes := ts }) (hcf : ∀ xs w, (callFunc f xs).run P w = .ok (.enter f xs) w) (xs : Array Value) (hx : args.map a.eval = xs) {R : Ending → World → Prop} (hc : Calls P f xs w R) (h : ∀ e w', R e w' → ∃ v, e = .returned v ∧ K (a.put o.dst v) w') :
    if Region.wanted o (yielded ops a.tmps) = true then Oper.wp P o a w K Q else E := by
  subst hx
  have hw : Region.wanted o (yielded ops a.tmps) = true := by simp [Region.wanted, hgd]
  rw [if_pos hw]
  unfold Oper.wp execOp
  simp only [ho, resolve, invoke, Sem.run_bind]
  have e : (Deferred.ofValue (a.eval (Operand.func f)) (Array.map a.eval args)).run P w = .ok { target := .fn (.func f) #[], args := args.map a.eval } w := by simp [Act.eval, Deferred.ofValue, go_sem]
  rw [e, Result.andThen_ok]
  simp only [Array.append_empty]
  rw [hcf]
  rw [Oper.upon_enter]
  refine hc.mono ?_
  intro e w' hr
  obtain ⟨v, rfl, hk⟩ := h e w' hr
  exact hk
/-- a list of n things of k cells that the call builds, in blocks from base on -/
def AS (base : Nat) (w : World) (e : TypeId) (k : Nat) (v : Value) (cs : UD) (n : Nat) : Prop :=
  cs.len = n * k ∧ ∃ xs S, w.ownsRow base e k v n xs ∧ oH w cs xs S ∧ own2 S base w.heap.size ∧ ∀ g ∈ blkOf v, g ∉ S
theorem AS.nil (base : Nat) (w : World) (e : TypeId) (k : Nat) : AS base w e k (.slice none 0 0) .nil 0 :=
  ⟨by simp [UD.len, UD.toL], [], [], World.ownsRow_nil w base e k, ⟨rfl, rfl⟩, own2.nil _ _, fun g hg => by cases hg⟩
theorem AS.below {base : Nat} {w w' : World} {e : TypeId} {k : Nat} {v : Value} {cs : UD} {n : Nat} (h : AS base w e k v cs n) (hb : Below w.heap.size w w') : AS base w' e k v cs n := by
  obtain ⟨h0, xs, S, h1, h2, h3, h4⟩ := h
  exact ⟨h0, xs, S, uowns_frame h1 (fun x hx => hb.block x (ublk_lt h1 x hx).2), h2.below hb, h3.mono (Nat.le_refl _) hb.size, h4⟩
theorem AS.slice {base : Nat} {w : World} {e : TypeId} {k : Nat} {v : Value} {cs : UD} {n : Nat} (h : AS base w e k v cs n) : ∃ a p, v = .slice a n p := by
  obtain ⟨h0, xs, S, h1, h2, h3, h4⟩ := h
  exact uowns_slice h1
theorem AS.done {base : Nat} {w : World} {e : TypeId} {k : Nat} {v : Value} {cs : UD} {n : Nat} (h : AS base w e k v cs n) (hk : 0 < k) (hb : base ≤ w.heap.size) : ∃ S, oS w k n cs v S ∧ own2 S base w.heap.size := by
  obtain ⟨h0, xs, S, h1, h2, h3, h4⟩ := h
  have h1' : w.ownsRow 0 e k v n xs := by
    refine ⟨h1.1, ?_⟩
    rcases h1.2 with hh | ⟨g, cap, cur, a1, a2, a3⟩
    · exact .inl hh
    · exact .inr ⟨g, cap, cur, a1, Nat.zero_le _, a3⟩
  refine ⟨blkOf v ++ S, ⟨hk, e, xs, S, h1', h2, rfl⟩, ?_, fun s hs => ?_⟩
  · refine List.nodup_append.2 ⟨?_, h3.1, fun a ha b hb hab => h4 a ha (hab ▸ hb)⟩
    unfold blkOf
    split
    · simp
    · exact List.nodup_nil
  · rcases List.mem_append.1 hs with hs | hs
    · exact ublk_lt h1 s hs
    · exact h3.2 s hs
theorem grown_frame {w w' : World} {row : Option Nat} (hg : w.grownBy w' row) {S : List Nat} (hS : ∀ s ∈ S, s < w.heap.size) (hr : ∀ g, row = some g → g ∉ S) : ∀ s ∈ S, w'.heap[s]? = w.heap[s]? :=
  fun s hs => hg.block s (hS s hs) (fun e => hr s e.symm hs)
theorem AS.snoc {base b0 : Nat} {w1 w2 : World} {e : TypeId} {k : Nat} {v : Value} {cs : UD} {n : Nat} {xs : List Value} {S : List Nat} (hlen : cs.len = n * k) (hw : w1.ownsRow base e k v n xs) (ho : oH w1 cs xs S) (hS : own2 S base b0)
    (hne : ∀ g ∈ blkOf v, g ∉ S) (hvb : ∀ g ∈ blkOf v, g < b0) {R : UD} {ys : List Value} {T : List Nat} (hR : oH w1 R ys T) (hT : own2 T b0 w1.heap.size) (hb : base ≤ b0) (hb2 : b0 ≤ w1.heap.size) (hRl : R.len = k) {g cap : Nat}
    (hown : w2.ownsRow base e k (.slice (some ⟨g, 0, none⟩) (n + 1) cap) (n + 1) (xs ++ ys)) (hgrow : w1.grownBy w2 v.ownBlock) (hat : v.ownBlock = some g ∨ g = w1.heap.size) : AS base w2 e k (.slice (some ⟨g, 0, none⟩) (n + 1) cap) (cs.app R) (n + 1) := by
  have hrow : ∀ g', v.ownBlock = some g' → g' ∈ blkOf v := fun g' h => by unfold blkOf; rw [h]; simp
  have hvT : ∀ g' ∈ blkOf v, g' ∉ T := fun g' h ht => by have := hvb g' h; have := hT.2 g' ht; omega
  refine ⟨?_, xs ++ ys, S ++ T, hown, oH.app (ho.frame _ _ _ (grown_frame hgrow (ho.lt _ _ _) (fun g' h => hne g' (hrow g' h)))) (hR.frame _ _ _ (grown_frame hgrow (hR.lt _ _ _) (fun g' h => hvT g' (hrow g' h)))),
    (own2.app hS hT (Nat.le_refl _) hb hb2).mono (Nat.le_refl _) hgrow.size, fun g' hg' => ?_⟩
  · have : (cs.app R).len = cs.len + R.len := by unfold UD.len; rw [UD.app_toL, List.length_append]
    rw [this, hlen, hRl, Nat.succ_mul]
  · have e1 : g' = g := by simpa [blkOf, Value.ownBlock] using hg'
    subst e1
    rw [List.mem_append]
    rcases hat with h | h
    · exact fun hx => hx.elim (hne g' (hrow g' h)) (hvT g' (hrow g' h))
    · intro hx
      rcases hx with hx | hx
      · have := hS.2 g' hx; omega
      · have := hT.2 g' hx; omega
theorem cells_new (w : World) (xs : List Value) (t : TypeId) : ∀ j u, xs[j]? = some u → (w.alloc (.cells xs.toArray t)).cell? ((⟨w.heap.size, 0, none⟩ : Addr).add j) = some u := by
  intro j u h
  rw [Go.WideShapes.add_plain, Nat.zero_add]
  exact (objU.new w t xs).cell j u h
theorem one_cell {w : World} {lo hi : Nat} : ∀ {d : UD} {fs : List UF} {xs : List Value}, tyL d fs → uH w lo hi d xs → ∀ u ∈ xs, u.oneCell' = true
  | .nil, _, _, _, h, u, hu => by rw [show _ = [] from h] at hu; cases hu
  | .p v r, _, _, ⟨f, fr, e, h1, h2⟩, ⟨ys, e2, h⟩, u, hu => by
    subst e2
    rcases List.mem_cons.1 hu with rfl | hu
    · cases f with
      | i k => obtain ⟨z, rfl, _⟩ := h1; rfl
      | s => obtain ⟨z, rfl, _⟩ := h1; rfl
      | b => obtain ⟨z, rfl⟩ := h1; rfl
      | l k t => cases h1
    · exact one_cell h2 h u hu
  | .l k n cs r, _, _, ⟨t, fr, e, h1, h2⟩, ⟨c, ys, e2, g, h⟩, u, hu => by
    subst e2
    rcases List.mem_cons.1 hu with rfl | hu
    · obtain ⟨a, cap, rfl, _⟩ := g; rfl
    · exact one_cell h2 h u hu
/-- all the cells of a slice, one by one -/
theorem uM.list {w : World} {lo hi : Nat} {b o : Nat} {d : UD} (h : uM w lo hi d b o) : ∃ xs, uH w lo hi d xs ∧ ∀ j u, xs[j]? = some u → w.cell? ((⟨b, o, none⟩ : Addr).add j) = some u := by
  obtain ⟨xs, h1, h2⟩ := h.hand
  exact ⟨xs, h1, fun j u hj => by rw [Go.WideShapes.add_plain]; exact h2 j u hj⟩
/-- plain cells alone: copied they are one's own -/
theorem plain_own {w w' : World} {lo hi : Nat} {fs : List UF} (hp : ∀ f ∈ fs, ∀ k t, f ≠ .l k t) : ∀ {d : UD} {xs : List Value} {i : Nat}, tyU d fs i → uH w lo hi d xs → oH w' d xs []
  | .nil, _, _, _, h => ⟨h, rfl⟩
  | .p v r, _, i, h, ⟨ys, e, g⟩ => ⟨ys, e, plain_own hp h.2 g⟩
  | .l k n cs r, _, i, ⟨⟨t, h1, _⟩, _⟩, _ => (hp _ (List.mem_of_getElem? h1) k t rfl).elim
end Go.Proofs.Ytamlgjmboljcdaa
/- A struct of many cells loaded whole: one letter. -/
namespace Go.Proofs.Ytamlgjmboljcdaa
open Go.RowKit Go.BigFrame
set_option linter.unusedVariables false
theorem wpList_load_eq {P : Program} {ops : Array Oper} {rest : List Oper} {o : Oper} {a : Act} {w : World} {Q : Exit → Act → World → Prop} (hgd : o.guard = none) (t : TypeId) (x : Operand) (ho : o.op = .load t x) (ad : Addr) (hx : a.eval x = .pointer (some ad)) (v : Value)
    (hl : Sem.run P (Instr.loadAt t (.pointer (some ad))) w = .ok v w) (h : wpList P ops Q rest (a.put o.dst v) w) : wpList P ops Q (o :: rest) a w := by
  refine wpList_plain hgd fun K hK => ?_
  unfold Oper.wp execOp
  simp only [ho, Sem.run_bind, Sem.run_pure, hx, hl, Result.andThen_ok]
  exact hK _ _ h
theorem split_head {n : Nat} {xs : List Value} (h : xs.length = n + 1) : ∃ x r, xs = x :: r ∧ r.length = n := by
  cases xs with
  | nil => cases h
  | cons x r => exact ⟨x, r, rfl, by simpa using h⟩
theorem split_end {xs : List Value} (h : xs.length = 0) : xs = [] := List.eq_nil_of_length_eq_zero h
theorem step_load_eq {P : Program} {w : World} {ops : Array Oper} {o : Oper} {a : Act} {K : Act → World → Prop} {Q : Exit → Act → World → Prop} {E : Prop} (hgd : o.guard = none) (t : TypeId) (x : Operand) (ho : o.op = .load t x) (ad : Addr) (hx : a.eval x = .pointer (some ad)) (v : Value)
    (hl : Sem.run P (Instr.loadAt t (.pointer (some ad))) w = .ok v w) (h : K (a.put o.dst v) w) : if Region.wanted o (yielded ops a.tmps) = true then Oper.wp P o a w K Q else E := by
  have hw : Region.wanted o (yielded ops a.tmps) = true := by simp [Region.wanted, hgd]
  rw [if_pos hw]
  unfold Oper.wp execOp
  simp only [ho, Sem.run_bind, Sem.run_pure, hx, hl, Result.andThen_ok]
  exact h
theorem load_whole {P : Program} {t : TypeId} {k : Nat} {ad : Addr} {w : World} {xs : List Value} (ha : ∀ w, (isAgg t).run P w = .ok true w) (hs : ∀ w, (Go.sizeOf t).run P w = .ok k w) (hk : xs.length = k) (h : ∀ j v, xs[j]? = some v → w.cell? (ad.add j) = some v) : Sem.run P (Instr.loadAt t (.pointer (some ad))) w = .ok (.agg xs.toArray) w := by
  have hl := run_loadCellsFrom_list P w ad xs k hk h
  simp only [Instr.loadAt, Instr.sureAddr, Sem.run_bind, Sem.run_pure, Result.andThen_ok, loadVar, ha, hs, loadCells, hl, if_true]
end Go.Proofs.Ytamlgjmboljcdaa
/- Data as cells: structs of many cells, loaded and stored whole; copying field by field, each step one law. -/
namespace Go.Proofs.Ytamlgjmboljcdaa
open Go.RowKit Go.BigFrame
set_option linter.unusedVariables false

theorem OutS.setCells {b : Nat} : ∀ (vs : List Value) (o : Nat) (w : World), OutS [b] w (w.setCells b o vs)
  | [], o, w => OutS.refl _ _
  | v :: r, o, w => ((OutS.refl [b] w).setCell (p := ⟨b, o, none⟩) (by simp) v).trans (OutS.setCells r (o + 1) _)
theorem objU.there {w : World} {b : Nat} {t : TypeId} {xs : List Value} (h : objU w b t xs) (o n : Nat) (hn : o + n ≤ xs.length) : w.there b o n := fun j hj =>
  ⟨by rw [h.cell (o + j) xs[o + j] (List.getElem?_eq_getElem (by omega))]; rfl, h.fz _⟩
theorem objU.range {w : World} {b : Nat} {t : TypeId} {xs : List Value} (h : objU w b t xs) (o : Nat) (ys : List Value) (hy : ∀ j v, ys[j]? = some v → xs[o + j]? = some v) : w.rangeAt b o ys := fun j v hv => h.cell _ _ (hy j v hv)
theorem objU.whole {w : World} {b : Nat} {t : TypeId} {xs : List Value} (h : objU w b t xs) : w.rangeAt b 0 xs := h.range 0 xs (fun j v hv => by rw [Nat.zero_add]; exact hv)
theorem objU.setCells {b : Nat} {t : TypeId} : ∀ (ys zs : List Value) (pre post : List Value) (w : World), objU w b t (pre ++ (zs ++ post)) → zs.length = ys.length → objU (w.setCells b pre.length ys) b t (pre ++ (ys ++ post))
  | [], zs, pre, post, w, h, hl => by
    have : zs = [] := List.eq_nil_of_length_eq_zero hl
    subst this
    exact h
  | y :: ys, [], pre, post, w, h, hl => by cases hl
  | y :: ys, z :: zs, pre, post, w, h, hl => by
    have h1 := h.set pre.length y
    have e1 : (pre ++ (z :: zs ++ post)).set pre.length y = (pre ++ [y]) ++ (zs ++ post) := by
      rw [List.set_append_right _ _ (Nat.le_refl _), Nat.sub_self]; simp
    rw [e1] at h1
    have h2 := objU.setCells ys zs (pre ++ [y]) post _ h1 (by simpa using hl)
    rw [World.setCells]
    have e2 : (pre ++ [y]).length = pre.length + 1 := by simp
    rw [e2] at h2
    have e3 : pre ++ [y] ++ (ys ++ post) = pre ++ (y :: ys ++ post) := by simp
    rw [e3] at h2
    exact h2
/-- loads and stores, each a step; the value and the place said by the caller -/
theorem wpList_load_one {P : Program} {ops : Array Oper} {rest : List Oper} {o : Oper} {a : Act} {w : World} {Q : Exit → Act → World → Prop} (hgd : o.guard = none) (t : TypeId) (x : Operand) (ho : o.op = .load t x)
    (b j : Nat) (hx : a.eval x = .pointer (some ⟨b, j, none⟩)) (v : Value) (hu : (P.underlying t).map TypeDesc.isRow = some false) (hc : w.cell? ⟨b, j, none⟩ = some v) (h : wpList P ops Q rest (a.put o.dst v) w) : wpList P ops Q (o :: rest) a w := by
  refine wpList_load_eq hgd t x ho ⟨b, j, none⟩ hx v ?_ h
  cases hd : P.underlying t with
  | none => rw [hd] at hu; cases hu
  | some d =>
    rw [hd] at hu
    have hagg : (isAgg t).run P w = .ok false w := by
      unfold isAgg
      rw [Sem.run_bind, run_underlying hd w]
      cases d <;> simp_all [TypeDesc.isRow]
    simp only [Instr.loadAt, Instr.sureAddr, Sem.run_bind, Sem.run_pure, Result.andThen_ok, loadVar, hagg, Bool.false_eq_true, if_false, run_load, hc]
theorem load_row_eq {P : Program} {t : TypeId} {b j : Nat} {w : World} {ys : List Value} (hu : (P.underlying t).map TypeDesc.isRow = some true) (hi : (P.info? t).map (·.size) = some ys.length) (hr : w.rangeAt b j ys) : Sem.run P (Instr.loadAt t (.pointer (some ⟨b, j, none⟩))) w = .ok (.agg ys.toArray) w := by
  cases hd : P.underlying t with
  | none => rw [hd] at hu; cases hu
  | some d =>
    rw [hd] at hu
    exact run_loadAt_mid w b j t ys d hr hd (by simpa using hu) hi
theorem wpList_load_row2 {P : Program} {ops : Array Oper} {rest : List Oper} {o : Oper} {a : Act} {w : World} {Q : Exit → Act → World → Prop} (hgd : o.guard = none) (t : TypeId) (x : Operand) (ho : o.op = .load t x)
    (b j : Nat) (hx : a.eval x = .pointer (some ⟨b, j, none⟩)) (ys : List Value) (hu : (P.underlying t).map TypeDesc.isRow = some true) (hi : (P.info? t).map (·.size) = some ys.length) (hr : w.rangeAt b j ys) (h : wpList P ops Q rest (a.put o.dst (.agg ys.toArray)) w) : wpList P ops Q (o :: rest) a w :=
  wpList_load_eq hgd t x ho ⟨b, j, none⟩ hx _ (load_row_eq hu hi hr) h
theorem yieldsIf_load_row {P : Program} {ops : Array Oper} {S : World → Prop} {op : Oper} {a : Act} (hw : Region.wanted op (yielded ops a.tmps) = true) (t : TypeId) (x : Operand) (ho : op.op = .load t x)
    (b o : Nat) (hx : a.eval x = .pointer (some ⟨b, o, none⟩)) (ys : List Value) (hS : ∀ w, S w → w.rangeAt b o ys)
    (hu : (P.underlying t).map TypeDesc.isRow = some true) (hi : (P.info? t).map (·.size) = some ys.length) : YieldsIf P ops S op (.agg ys.toArray) a := by
  cases hd : P.underlying t with
  | none => rw [hd] at hu; cases hu
  | some d =>
    rw [hd] at hu
    exact yieldsIf_load_mid hw t x ho b o hx ys d hS hd (by simpa using hu) hi
theorem run_storeAt_cells {P : Program} {w : World} {b j : Nat} {t : TypeId} {v : Value} {ys : List Value} (hv : v.cells = ys.toArray) (h1 : ∀ u ∈ ys, u.oneCell' = true) (hi : (P.info? t).map (·.size) = some ys.length) (ht : w.there b j ys.length) :
    (Instr.storeAt t (.pointer (some ⟨b, j, none⟩)) v).run P w = .ok () (w.setCells b j ys) := by
  have := run_storeCells_cells (P := P) b j ys 0 w (fun q hq => by simpa using (ht q hq).1) (fun q hq => by simpa using (ht q hq).2) h1
  cases hq : P.info? t with
  | none => simp [hq] at hi
  | some i =>
    have hs : ys.length = i.size := by simp [hq] at hi; omega
    simp only [Nat.add_zero] at this
    simp [Instr.storeAt, Instr.sureAddr, storeVar, sizeOf, typeInfo, hq, hv, hs, this]
/-- behind a store the world is a letter -/
def Behind (φ : World → Prop) (w : World) : Prop := ∀ w', w' = w → φ w'
theorem wpList_store_cells {P : Program} {ops : Array Oper} {rest : List Oper} {o : Oper} {a : Act} {w : World} {Q : Exit → Act → World → Prop} (hgd : o.guard = none) (t : TypeId) (x y : Operand) (ho : o.op = .store t x y) (hd : o.dst = none)
    (b j : Nat) (hx : a.eval x = .pointer (some ⟨b, j, none⟩)) (v : Value) (hy : a.eval y = v) (ys : List Value) (hv : v.cells = ys.toArray) (h1 : ∀ u ∈ ys, u.oneCell' = true) (hi : (P.info? t).map (·.size) = some ys.length) (ht : w.there b j ys.length)
    (h : Behind (wpList P ops Q rest a) (w.setCells b j ys)) : wpList P ops Q (o :: rest) a w := by
  refine wpList_plain hgd fun K hK => ?_
  unfold Oper.wp execOp
  simp only [ho, hx, hy, Sem.run_bind, run_storeAt_cells hv h1 hi ht, Result.andThen_ok]
  exact hK _ _ (by rw [hd]; exact h _ rfl)
theorem one1 {v : Value} (h : v.oneCell' = true) : ∀ u ∈ [v], u.oneCell' = true := fun u hu => by simp at hu; subst hu; exact h
theorem one_int {k : IntKind} {z : Int} : (Value.int k z).oneCell' = true := rfl
theorem one_string {z : ByteArray} : (Value.string z).oneCell' = true := rfl
theorem one_bool {z : Bool} : (Value.bool z).oneCell' = true := rfl
theorem one_slice {a : Option Addr} {n p : Nat} : (Value.slice a n p).oneCell' = true := rfl
theorem cells_one {v : Value} (h : v.oneCell' = true) : v.cells = [v].toArray := by cases v <;> first | rfl | cases h
theorem wpList_store_v {P : Program} {ops : Array Oper} {rest : List Oper} {o : Oper} {a : Act} {w : World} {Q : Exit → Act → World → Prop} (hgd : o.guard = none) (t : TypeId) (x y : Operand) (ho : o.op = .store t x y) (hd : o.dst = none)
    (b j : Nat) (hx : a.eval x = .pointer (some ⟨b, j, none⟩)) (v : Value) (hy : a.eval y = v) (h1 : v.oneCell' = true) (hi : (P.info? t).map (·.size) = some 1) (ht : w.there b j 1)
    (h : Behind (wpList P ops Q rest a) (w.setCells b j [v])) : wpList P ops Q (o :: rest) a w :=
  wpList_store_cells hgd t x y ho hd b j hx v hy [v] (cells_one h1) (one1 h1) hi ht h
theorem ones_own {w : World} : ∀ {d : UD} {fs : List UF} {xs : List Value} {S : List Nat}, tyL d fs → oH w d xs S → ∀ u ∈ xs, u.oneCell' = true
  | .nil, _, _, _, _, h, u, hu => by rw [h.1] at hu; cases hu
  | .p v r, _, _, S, ⟨f, fr, e, h1, h2⟩, ⟨ys, e2, h⟩, u, hu => by
    subst e2
    rcases List.mem_cons.1 hu with rfl | hu
    · cases f with
      | i k => obtain ⟨z, rfl, _⟩ := h1; rfl
      | s => obtain ⟨z, rfl, _⟩ := h1; rfl
      | b => obtain ⟨z, rfl⟩ := h1; rfl
      | l k t => cases h1
    · exact ones_own h2 h u hu
  | .l k n cs r, _, _, _, ⟨t, fr, e, h1, h2⟩, ⟨c, ys, S1, S2, e2, eS, hk, ⟨t', zs, g1, g2⟩, h⟩, u, hu => by
    subst e2
    rcases List.mem_cons.1 hu with rfl | hu
    · obtain ⟨a, cap, rfl⟩ := uowns_slice g1; rfl
    · exact ones_own h2 h u hu
theorem cells_agg {ys : List Value} : (Value.agg ys.toArray).cells = ys.toArray := rfl

/-- where the copying of a struct, field by field, stands: j cells are copied, dd is what they are -/
def CP (w0 w : World) (A R O : Nat) (TA TO : TypeId) (AX Z : List Value) (dd : UD) (j : Nat) : Prop :=
  ∃ done S, objU w A TA AX ∧ objU w R TO Z ∧ objU w O TO (done ++ Z.drop j) ∧ done.length = j ∧ oH w dd done S ∧ own2 S (O + 1) w.heap.size ∧ Below w0.heap.size w0 w ∧ w0.heap.size ≤ A ∧ A < O ∧ w0.heap.size ≤ R ∧ R < O ∧ O < w.heap.size
theorem CP.start {w : World} {TA TO : TypeId} {AX Z : List Value} : CP w (((w.alloc (.cells AX.toArray TA)).alloc (.cells Z.toArray TO)).alloc (.cells Z.toArray TO)) w.heap.size (w.heap.size + 1) (w.heap.size + 1 + 1) TA TO AX Z .nil 0 := by
  refine ⟨[], [], ((objU.new2 _ _ rfl).old _).old _, (objU.new2 _ _ (by simp)).old _, ?_, rfl, oH.nil _, own2.nil _ _, (((Below.refl _ _).alloc (Nat.le_refl _) _).alloc (by simp) _).alloc (by simp; omega) _, Nat.le_refl _, by omega, by omega, by omega, by simp⟩
  simpa using objU.new2 (w := (w.alloc (.cells AX.toArray TA)).alloc (.cells Z.toArray TO)) TO Z (b := w.heap.size + 1 + 1) (by simp)
theorem CP.below {w0 w w' : World} {A R O : Nat} {TA TO : TypeId} {AX Z : List Value} {dd : UD} {j : Nat} (h : CP w0 w A R O TA TO AX Z dd j) (hb : Below w.heap.size w w') : CP w0 w' A R O TA TO AX Z dd j := by
  obtain ⟨done, S, h1, h2, h3, h4, h5, h6, h7, h8, h9, h10, h11, h12⟩ := h
  exact ⟨done, S, h1.below hb, h2.below hb, h3.below hb, h4, h5.below hb, h6.mono (Nat.le_refl _) hb.size, h7.trans (hb.mono h7.size), h8, h9, h10, h11, Nat.lt_of_lt_of_le h12 hb.size⟩
theorem CP.bel {w0 w : World} {A R O : Nat} {TA TO : TypeId} {AX Z : List Value} {dd : UD} {j : Nat} (h : CP w0 w A R O TA TO AX Z dd j) : Below w0.heap.size w0 w := by
  obtain ⟨done, S, h1, h2, h3, h4, h5, h6, h7, _⟩ := h; exact h7
theorem CP.cell {w0 w : World} {A R O : Nat} {TA TO : TypeId} {AX Z : List Value} {dd : UD} {j : Nat} (h : CP w0 w A R O TA TO AX Z dd j) {q : Nat} {v : Value} (hv : AX[q]? = some v) : w.cell? ⟨A, q, none⟩ = some v := by
  obtain ⟨done, S, h1, _⟩ := h; exact h1.cell q v hv
theorem CP.range {w0 w : World} {A R O : Nat} {TA TO : TypeId} {AX Z : List Value} {dd : UD} {j : Nat} (h : CP w0 w A R O TA TO AX Z dd j) {q : Nat} {ys : List Value} (hv : ∀ i v, ys[i]? = some v → AX[q + i]? = some v) : w.rangeAt A q ys := by
  obtain ⟨done, S, h1, _⟩ := h; exact h1.range q ys hv
theorem CP.there {w0 w : World} {A R O : Nat} {TA TO : TypeId} {AX Z : List Value} {dd : UD} {j : Nat} (h : CP w0 w A R O TA TO AX Z dd j) (n : Nat) (hn : j + n ≤ Z.length) : w.there O j n := by
  obtain ⟨done, S, h1, h2, h3, h4, _⟩ := h
  exact h3.there j n (by rw [List.length_append, List.length_drop, h4]; omega)
/-- cells are stored behind those that are copied: ys came of a call that ended in w1 (or w1 is w, where it is plain) -/
theorem CP.step {w0 w w1 : World} {A R O : Nat} {TA TO : TypeId} {AX Z : List Value} {dd : UD} {j : Nat} (h : CP w0 w A R O TA TO AX Z dd j) (hb : Below w.heap.size w w1) {dp : UD} {ys : List Value} {T : List Nat} (ho : oH w1 dp ys T) (hT : own2 T w.heap.size w1.heap.size) {w' : World} (e : w' = w1.setCells O j ys) {j' : Nat} (hj : j' = j + ys.length) (hn : j' ≤ Z.length) : CP w0 w' A R O TA TO AX Z (dd.app dp) j' := by
  have hlt := h
  obtain ⟨done, S, h1, h2, h3, h4, h5, h6, h7, h8, h9, h10, h11, h12⟩ := h.below hb
  obtain ⟨done', S', g1, g2, g3, g4, g5, g6, g7, g8, g9, g10, g11, g12⟩ := hlt
  subst e hj
  have hout : OutS [O] w1 (w1.setCells O j ys) := OutS.setCells ys j w1
  have hS' : ∀ s ∈ S', s < w.heap.size := g5.lt _ _ _
  refine ⟨done' ++ ys, S' ++ T, (g1.below hb).outS hout (by simp; omega), (g2.below hb).outS hout (by simp; omega), ?_, by rw [List.length_append, g4], oH.app ((g5.below hb).outS hout (fun g hg hx => ?_)) (ho.outS hout (fun g hg hx => ?_)), ?_, ?_, h8, h9, h10, h11, ?_⟩
  · have e1 : Z.drop j = (Z.drop j).take ys.length ++ Z.drop (j + ys.length) := by rw [← List.drop_drop]; exact (List.take_append_drop _ _).symm
    have g3' := g3.below hb
    rw [e1] at g3'
    have := objU.setCells ys ((Z.drop j).take ys.length) done' (Z.drop (j + ys.length)) w1 g3' (by rw [List.length_take, List.length_drop]; omega)
    rw [g4] at this
    rw [List.append_assoc]; exact this
  · simp at hx; have := g6.2 g hg; omega
  · simp at hx; have := hT.2 g hg; omega
  · have hsz := hout.size
    exact (g6.app hT (Nat.le_refl _) (by omega) hb.size).mono (Nat.le_refl _) hsz
  · exact h7.trans (hout.below (B := w0.heap.size) (fun t ht => by simp at ht; omega) h7.size)
  · exact Nat.lt_of_lt_of_le h12 hout.size
theorem CP.plain {w0 w : World} {A R O : Nat} {TA TO : TypeId} {AX Z : List Value} {dd : UD} {j : Nat} (h : CP w0 w A R O TA TO AX Z dd j) {v : Value} {w' : World} (e : w' = w.setCells O j [v]) {j' : Nat} (hj : j' = j + 1) (hn : j' ≤ Z.length) : CP w0 w' A R O TA TO AX Z (dd.app (.p v .nil)) j' :=
  h.step (Below.refl _ _) (oH.consP v (oH.nil _)) (own2.nil _ _) e hj hn
theorem CP.list {w0 w w1 : World} {A R O : Nat} {TA TO : TypeId} {AX Z : List Value} {dd : UD} {j : Nat} (h : CP w0 w A R O TA TO AX Z dd j) (hb : Below w.heap.size w w1) {k n : Nat} {cs : UD} {c : Value} {T : List Nat} (ho : oS w1 k n cs c T) (hT : own2 T w.heap.size w1.heap.size) {w' : World} (e : w' = w1.setCells O j [c]) {j' : Nat} (hj : j' = j + 1) (hn : j' ≤ Z.length) : CP w0 w' A R O TA TO AX Z (dd.app (.l k n cs .nil)) j' := by
  have := oH.consS ho (oH.nil _)
  rw [List.append_nil] at this
  exact h.step hb this hT e hj hn
/-- all is copied -/
theorem CP.fin {w0 w : World} {A R O : Nat} {TA TO : TypeId} {AX Z : List Value} {dd : UD} {j : Nat} (h : CP w0 w A R O TA TO AX Z dd j) {D : UD} (hD : dd = D) (hj : j = Z.length) : ∃ done S, Hid (w.rangeAt O 0 done) ∧ done.length = j ∧ Hid (w.there R 0 done.length) ∧ oH w D done S ∧ ∀ w', w' = w.setCells R 0 done → objU w' R TO done ∧ oH w' D done S ∧ S.Nodup ∧ (∀ s ∈ S, w0.heap.size ≤ s) ∧ Below w0.heap.size w0 w' := by
  subst hD
  obtain ⟨done, S, h1, h2, h3, h4, h5, h6, h7, h8, h9, h10, h11, h12⟩ := h
  have e0 : Z.drop j = [] := List.drop_eq_nil_of_le (by omega)
  rw [e0, List.append_nil] at h3
  refine ⟨done, S, h3.whole, h4, h2.there 0 _ (by omega), h5, fun w' e => ?_⟩
  subst e
  have hout : OutS [R] w (w.setCells R 0 done) := OutS.setCells done 0 w
  have h2' := objU.setCells done Z [] [] w (by simpa using h2) (by omega)
  refine ⟨by simpa using h2', h5.outS hout (fun g hg hx => ?_), h6.1, fun s hs => by have := h6.2 s hs; omega, h7.trans (hout.below (B := w0.heap.size) (fun t ht => by simp at ht; omega) h7.size)⟩
  simp at hx; have := h6.2 g hg; omega
theorem results_row {P : Program} {fn : Func} {p : Tmp} {ty : TypeId} (h : fn.results = #[.cell p ty]) (tmps : Array Value) (w : World) (g : Nat) (t : TypeId) (ys : List Value)
    (hp : tmps.getD p undef = .pointer (some ⟨g, 0, none⟩)) (hg : objU w g t ys) (hu : (P.underlying ty).map TypeDesc.isRow = some true) (hi : (P.info? ty).map (·.size) = some ys.length) :
    (results fn tmps).run P w = .ok (.agg ys.toArray) w := by
  cases hd : P.underlying ty with
  | none => rw [hd] at hu; cases hu
  | some d =>
    rw [hd] at hu
    exact results_cell_row h tmps w g t ys.toArray (0, 0) d hp hg hd (by cases d <;> simp_all [TypeDesc.isRow]) (by simpa using hi)

/-! rows of structs -/
theorem wSet_eq : ∀ (ys : List Value) (w : World) (g i : Nat), w.setCells g i ys = wSet w g i ys
  | [], w, g, i => rfl
  | y :: ys, w, g, i => by rw [World.setCells, wSet, wSet_eq ys]
theorem range_below {w w' : World} {b o : Nat} {xs : List Value} (h : w.rangeAt b o xs) (hb : Below w.heap.size w w') : w'.rangeAt b o xs := fun j v hv =>
  (hb.cell (p := ⟨b, o + j, none⟩) (World.block_lt_of_cell? _ _ (h j v hv))).trans (h j v hv)
theorem TS.there {w0 w : World} {e : TypeId} {k n : Nat} {cs : UD} {q : Nat} (h : TS w0 w e k n cs q) (p m : Nat) (hm : p + m ≤ n * k) : w.there w0.heap.size p m := fun j hj => by
  obtain ⟨v, hv⟩ := h.cell (p + j) (by omega)
  exact ⟨by rw [hv]; rfl, h.fz _⟩
theorem TS.row {w0 w w2 w' : World} {e : TypeId} {k n : Nat} {cs : UD} {q : Nat} (h : TS w0 w e k n cs q) (hb : Below w.heap.size w w2) {ys : List Value} {T : List Nat} (ho : oH w2 (rowU cs k q) ys T) (hnd : T.Nodup) (hT : ∀ t ∈ T, w.heap.size ≤ t) (hl : cs.len = n * k) (hq : q < n) (e' : w' = w2.setCells w0.heap.size (q * k) ys) : TS w0 w' e k n cs (q + 1) := by
  subst e'
  rw [wSet_eq]
  exact h.step hb ho hnd hT hl hq
theorem MS.there {w0 w : World} {e : TypeId} {k n : Nat} {cap : Nat} {g : Nat} {cs : UD} {j0 : Nat} {S : List Nat} {xs0 : List Value} {i : Nat} (h : MS w0 w e k n (.slice (some ⟨g, 0, none⟩) n cap) g cs j0 S xs0 i) (p : Nat) (hn : p < n * k) : w.there g p 1 := fun j hj => by
  obtain ⟨xs, h1, _⟩ := h
  have : j = 0 := by omega
  subst this
  exact ⟨by rw [Nat.add_zero, h1.cellAt p hn, List.getElem?_eq_getElem (by rw [h1.1]; exact hn)]; rfl, h1.frozenAt p⟩
theorem setCells_one (w : World) (b o : Nat) (v : Value) : w.setCells b o [v] = w.setCell ⟨b, o, none⟩ v := by rw [World.setCells, World.setCells]
theorem MS.cellS {w0 wx wy : World} {e : TypeId} {k n : Nat} {cap : Nat} {g : Nat} {cs : UD} {j0 : Nat} {S : List Nat} {xs0 : List Value} {i i' : Nat} (h : MS w0 wx e k n (.slice (some ⟨g, 0, none⟩) n cap) g cs j0 S xs0 i) {v u : Value} (he : cs.at? i = some (.p v)) {m : Nat} (hc : j0 + cnt (cs.takeN i) = m) (hu : u = mkP m v) (ey : wy = wx.setCells g i [u]) (hi : i' = i + 1) : MS w0 wy e k n (.slice (some ⟨g, 0, none⟩) n cap) g cs j0 S xs0 i' := by
  subst hi ey hc
  rw [setCells_one]
  exact h.plain he hu
theorem at_row {cs : UD} {K q : Nat} {R : UD} (hR : rowU cs K q = R) {j : Nat} {e : UE} (hj : j < K) (h : R.at? j = some e) : cs.at? (q * K + j) = some e := by
  rw [← rowU_at cs K q j hj, hR]; exact h
theorem ct_next {cs : UD} {k0 i m : Nat} {e : UE} (hc : k0 + cnt (cs.takeN i) = m) (h : cs.at? i = some e) : k0 + cnt (cs.takeN (i + 1)) = m + cntE e := by
  rw [cnt_succ cs i e h, ← Nat.add_assoc, hc]
theorem ct_end {cs : UD} {k0 q K m : Nat} (h : k0 + cnt (cs.takeN (q * K + K)) = m) : k0 + cnt (cs.takeN ((q + 1) * K)) = m := by
  rw [Nat.succ_mul]; exact h
/-! structs taken apart -/
theorem at_mid {pre ys post AX : List Value} {j i : Nat} {v : Value} (hA : AX = pre ++ (ys ++ post)) (hj : pre.length = j) (h : ys[i]? = some v) : AX[j + i]? = some v := by
  subst hA hj
  have hi := (List.getElem?_eq_some_iff.1 h).1
  rw [List.getElem?_append_right (by omega), List.getElem?_append_left (by omega), ← h]
  congr 1; omega
theorem tyL.split : ∀ {d : UD} {f1 f2 : List UF}, tyL d (f1 ++ f2) → ∃ d1 d2, d = d1.app d2 ∧ tyL d1 f1 ∧ tyL d2 f2
  | d, [], f2, h => ⟨.nil, d, (UD.app_nil d).symm, rfl, h⟩
  | .nil, f :: fr, f2, h => by cases h
  | .p v r, f :: fr, f2, h => by
    obtain ⟨g, gr, e, h1, h2⟩ := h
    cases e
    obtain ⟨d1, d2, rfl, h3, h4⟩ := tyL.split (f1 := fr) (f2 := f2) h2
    exact ⟨.p v d1, d2, (UD.app_p v d1 d2).symm, ⟨_, _, rfl, h1, h3⟩, h4⟩
  | .l k n cs r, f :: fr, f2, h => by
    obtain ⟨t, gr, e, h1, h2⟩ := h
    cases e
    obtain ⟨d1, d2, rfl, h3, h4⟩ := tyL.split (f1 := fr) (f2 := f2) h2
    exact ⟨.l k n cs d1, d2, (UD.app_l k n cs d1 d2).symm, ⟨_, _, rfl, h1, h3⟩, h4⟩
theorem uH.split {w : World} {lo hi : Nat} : ∀ {d1 d2 : UD} {xs : List Value}, uH w lo hi (d1.app d2) xs → ∃ x1 x2, xs = x1 ++ x2 ∧ x1.length = d1.len ∧ uH w lo hi d1 x1 ∧ uH w lo hi d2 x2
  | .nil, d2, xs, h => ⟨[], xs, rfl, rfl, rfl, by rw [UD.app_nil] at h; exact h⟩
  | .p v r, d2, xs, h => by
    rw [UD.app_p] at h
    obtain ⟨ys, rfl, h⟩ := h
    obtain ⟨x1, x2, rfl, hl, h1, h2⟩ := uH.split h
    exact ⟨v :: x1, x2, rfl, by rw [UD.len_p, ← hl]; rfl, ⟨x1, rfl, h1⟩, h2⟩
  | .l k n cs r, d2, xs, h => by
    rw [UD.app_l] at h
    obtain ⟨c, ys, rfl, hc, h⟩ := h
    obtain ⟨x1, x2, rfl, hl, h1, h2⟩ := uH.split h
    exact ⟨c :: x1, x2, rfl, by rw [UD.len_l, ← hl]; rfl, ⟨c, x1, rfl, hc, h1⟩, h2⟩
theorem UD.app_assoc (a b c : UD) : (a.app b).app c = a.app (b.app c) := by apply UD.ext; simp only [UD.app_toL, List.append_assoc]
theorem UD.app_nil_r (a : UD) : a.app .nil = a := by apply UD.ext; rw [UD.app_toL]; simp [UD.toL]
theorem tyL_cast {a b : UD} {fs : List UF} (e : a = b) (h : tyL a fs) : tyL b fs := e ▸ h
theorem oH_cast {w : World} {a b : UD} {xs : List Value} {S : List Nat} (e : a = b) (h : oH w b xs S) : oH w a xs S := e ▸ h
theorem mk_app : ∀ (a b : UD) (j : Nat), mk (a.app b) j = (mk a j).app (mk b (j + cnt a))
  | .nil, b, j => by rw [UD.app_nil]; simp only [mk, cnt, Nat.add_zero, UD.app_nil]
  | .p v r, b, j => by rw [UD.app_p, mk, mk, UD.app_p, mk_app r, cnt]; congr 2; congr 1; omega
  | .l k n cs r, b, j => by rw [UD.app_l, mk, mk, UD.app_l, mk_app r, cnt]; congr 2; congr 1; omega
theorem mkT_app : ∀ (a b : UD) (j : Nat), mkT (a.app b) j = (mkT a j).app (mkT b (j + cntT a))
  | .nil, b, j => by rw [UD.app_nil]; simp only [mkT, cntT, Nat.add_zero, UD.app_nil]
  | .p v r, b, j => by rw [UD.app_p, mkT, mkT, UD.app_p, mkT_app r, cntT]
  | .l k n cs r, b, j => by rw [UD.app_l, mkT, mkT, UD.app_l, mkT_app r, cntT]; congr 2; congr 1; omega
theorem cntT_app : ∀ (a b : UD), cntT (a.app b) = cntT a + cntT b
  | .nil, b => by rw [UD.app_nil]; simp [cntT]
  | .p v r, b => by rw [UD.app_p, cntT, cntT, cntT_app r]
  | .l k n cs r, b => by rw [UD.app_l, cntT, cntT, cntT_app r]; omega
end Go.Proofs.Ytamlgjmboljcdaa
/- Data as cells: the helpers of the laws over Obj. -/
namespace Go.Proofs.Ytamlgjmboljcdaa
open Go.RowKit Go.BigFrame
set_option linter.unusedVariables false

theorem Try.rObj_int : (Try.prog.underlying 3).map TypeDesc.isRow = some false := by kernel_rfl
theorem Try.zObj_int : (Try.prog.info? 3).map (·.size) = some 1 := by kernel_rfl
theorem Try.rObj_string : (Try.prog.underlying 9).map TypeDesc.isRow = some false := by kernel_rfl
theorem Try.zObj_string : (Try.prog.info? 9).map (·.size) = some 1 := by kernel_rfl
theorem Try.rObj_bool : (Try.prog.underlying 4).map TypeDesc.isRow = some false := by kernel_rfl
theorem Try.zObj_bool : (Try.prog.info? 4).map (·.size) = some 1 := by kernel_rfl
theorem Try.rObj_Lstring : (Try.prog.underlying 38).map TypeDesc.isRow = some false := by kernel_rfl
theorem Try.zObj_Lstring : (Try.prog.info? 38).map (·.size) = some 1 := by kernel_rfl
theorem Try.rObj_laws_Value : (Try.prog.underlying 86).map TypeDesc.isRow = some true := by kernel_rfl
theorem Try.zObj_laws_Value : (Try.prog.info? 86).map (·.size) = some 5 := by kernel_rfl
theorem Try.rObj_impl_Value : (Try.prog.underlying 41).map TypeDesc.isRow = some true := by kernel_rfl
theorem Try.zObj_impl_Value : (Try.prog.info? 41).map (·.size) = some 5 := by kernel_rfl
theorem Try.rObj_Limpl_Value : (Try.prog.underlying 39).map TypeDesc.isRow = some false := by kernel_rfl
theorem Try.zObj_Limpl_Value : (Try.prog.info? 39).map (·.size) = some 1 := by kernel_rfl
theorem Try.rObj_laws_Obj : (Try.prog.underlying 88).map TypeDesc.isRow = some true := by kernel_rfl
theorem Try.zObj_laws_Obj : (Try.prog.info? 88).map (·.size) = some 17 := by kernel_rfl
theorem Try.rObj_impl_Obj : (Try.prog.underlying 43).map TypeDesc.isRow = some true := by kernel_rfl
theorem Try.zObj_impl_Obj : (Try.prog.info? 43).map (·.size) = some 17 := by kernel_rfl
end Go.Proofs.Ytamlgjmboljcdaa
/- Objects: what is asked of one alone: its numbers, its Waits. -/
namespace Go.Proofs.Ytamlgjmboljcdaa
open Go.RowKit Go.BigFrame
set_option linter.unusedVariables false

def waitsB (ss : List ByteArray) : Bool := valsB ss && decide (ss.length ≤ 4)
theorem fromOne_any (x b : Int) (w : World) : Calls Try.prog 43 #[.int .i64 x, .int .i64 b] w fun e w' => e = .returned (.bool (inB x 1 b)) ∧ w' = w := by
  go_enter Try.func43, Try.ntmps43
  go_wp2
  all_goals go_ret
  all_goals exact ⟨ret_bool (by rw [Bool.eq_iff_iff]; simp [inB]; omega), rfl⟩
theorem iwaits_any (a : Option Addr) (cap : Nat) (ss : List ByteArray) (w : World) (hl : ss.length ≤ maxLen) (hrow : strOf w a ss) :
    Calls Try.prog 83 #[.slice a ss.length cap] w fun e w' => e = .returned (.bool (waitsB ss)) ∧ Below w.heap.size w w' := by
  have H := uhide (iasc_any a cap ss w hl hrow)
  unfold waitsB
  clear hrow
  generalize valsB ss = V at *
  generalize ss.length = n at *
  by_cases h4 : n ≤ 4
  · go_enter Try.func83, Try.ntmps83
    have h4' : ((n : Int) ≤ 4) := by omega
    go_wp2_with fail
    refine H.out.mono ?_
    rintro e w1 ⟨rfl, hb⟩
    go_wp2
    go_ret
    exact ⟨ret_bool (by simp [h4]), hb⟩
  · go_enter Try.func83, Try.ntmps83
    have h4' : ¬ ((n : Int) ≤ 4) := by omega
    go_wp2
    go_ret
    exact ⟨ret_bool (by simp), Below.refl _ _⟩
set_option maxHeartbeats 800000 in
theorem l7Waits_any (ss : List ByteArray) (a : Option Addr) (cap : Nat) (w : World) (hl : ss.length ≤ maxLen) (hz : okStrs ss) (hrow : strOf w a ss) :
    Calls Try.prog 63 #[.slice a ss.length cap] w fun e w' => e = .returned (.bool (waitsB ss)) ∧ Below w.heap.size w w' := by
  unfold maxLen at hl
  have Hr := hide hrow
  have Hz : Hid (∀ i, (ssAt ss i).size ≤ maxLen) := fun i => by
    unfold ssAt
    by_cases hi : i < ss.length
    · rw [List.getElem?_eq_getElem hi]; exact hz _ (List.getElem_mem hi)
    · rw [List.getElem?_eq_none (by omega)]; exact Nat.zero_le _
  clear hrow hz
  go_enter Try.func63, Try.ntmps63
  go_wp2
  go_loopw [3] (fun i wr => ∃ (k : Nat), k ≤ ss.length ∧ i = .int .i64 k ∧ Hid (∀ j, j < k → okV ss j) ∧ Below w.heap.size w wr) (fun i _ => ss.length - (intOf i).toNat)
  case atStart => exact ⟨0, Nat.zero_le _, rfl, fun j hj => by omega, Below.refl _ _⟩
  case round =>
    obtain ⟨k, hk, rfl, Hx, hbw⟩ := hrel
    by_cases hlt : k < ss.length
    · obtain ⟨b, off, rfl, hat⟩ := Hr.out (by omega)
      have hc := strAt_cells hat
      have hbb : b < w.heap.size := World.block_lt_of_cell? _ _ (hat k hlt)
      have c0 := (hbw.cell (p := ⟨b, off + k, none⟩) hbb).trans (hc k hlt)
      have cp : 0 < k → wr.cell? ⟨b, off + (k - 1), none⟩ = some (.string (ssAt ss (k - 1))) := fun h => (hbw.cell (p := ⟨b, off + (k - 1), none⟩) hbb).trans (hc (k - 1) (by omega))
      have hzK := Hz.out k
      have Hs : Hid (okV ss k → ∀ j, j < k + 1 → okV ss j) := fun h => okV_succ Hx.out h
      have Hb : Hid (¬ okV ss k → waitsB ss = false) := fun h => by unfold waitsB; rw [valsB_bad hlt h, Bool.false_and]
      have hcs := okV_cases ss k
      clear hat hc Hx
      generalize ssAt ss k = K at *
      generalize ssAt ss (k - 1) = P at *
      have hK := fun wx => (sname_any K wx hzK)
      clear hzK
      rcases hcs with ⟨h1, hok⟩ | ⟨h1, h3, hok⟩ | ⟨h1, h3, h4, hok⟩ | ⟨h1, h3, h4, hok⟩
      · rw [h1] at hK
        have HK := hide hK
        have Hn := hide (Hb.out hok.out)
        clear hK h1 cp Hs Hb Hz Hr
        go_wp2
        go_quiet ((go_at_call 62; exact Calls.quiet_of_same (HK.out _)))
        go_wp2
        go_ret
        exact ⟨ret_bool Hn.out.symm, below_drewN hbw _⟩
      · rw [h1] at hK
        have HK := hide hK
        have hk0 : k = 0 := h3.out
        have h3' : decide ((0 : Int) < (k : Int)) = false := by rw [decide_eq_false_iff_not]; omega
        have h3'' : decide (0 < k) = false := by rw [decide_eq_false_iff_not]; omega
        have h3a : (k : Int) ≤ 0 := by omega
        have Hn := hide (Hs.out hok.out)
        clear hK h1 cp h3 hk0 Hs Hb Hz Hr
        go_wp2
        go_quiet ((go_at_call 62; exact Calls.quiet_of_same (HK.out _)))
        go_wp2
        go_roundw
        case rel => exact ⟨k + 1, by omega, by go_num, Hn, below_drewN hbw _⟩
        case measure => simp [intOf]; omega
      · rw [h1] at hK
        have HK := hide hK
        have cp := cp h3
        have h3' : (0 : Int) < (k : Int) := by omega
        have Hn := hide (Hs.out hok.out)
        clear hK h1 Hs Hb Hz Hr
        go_wp2
        go_quiet ((go_at_call 62; exact Calls.quiet_of_same (HK.out _)))
        go_wp2
        go_roundw
        case rel => exact ⟨k + 1, by omega, by go_num, Hn, below_drewN hbw _⟩
        case measure => simp [intOf]; omega
      · rw [h1] at hK
        have HK := hide hK
        have cp := cp h3
        have h3' : (0 : Int) < (k : Int) := by omega
        have Hn := hide (Hb.out hok.out)
        clear hK h1 Hs Hb Hz Hr
        go_wp2
        go_quiet ((go_at_call 62; exact Calls.quiet_of_same (HK.out _)))
        go_wp2
        go_ret
        exact ⟨ret_bool Hn.out.symm, below_drewN hbw _⟩
    · have e : k = ss.length := by omega
      subst e
      have Hv : Hid (waitsB ss = decide (ss.length ≤ 4)) := by show _ = _; unfold waitsB; rw [valsB_end Hx.out, Bool.true_and]
      clear Hx Hr Hz
      go_wp2
      go_ret
      exact ⟨ret_bool (by rw [Hv.out, Bool.eq_iff_iff]; simp; omega), hbw⟩
end Go.Proofs.Ytamlgjmboljcdaa
/- Data as cells: the helpers of the laws over Obj. -/
namespace Go.Proofs.Ytamlgjmboljcdaa
open Go.RowKit Go.BigFrame
set_option linter.unusedVariables false
set_option linter.unusedSimpArgs false

set_option maxRecDepth 20000 in
set_option maxHeartbeats 1600000 in
theorem uszObj_any {lo hi : Nat} (d : UD) (xs : List Value) (left : Int) (w : World) (ht : tyL d (uE 8)) (hx : uH w lo hi d xs) (h0 : 0 ≤ left) (h1 : left ≤ 1048576) :
    Calls Try.prog 59 #[.agg xs.toArray, .int .i64 left] w fun e w' => e = .returned (.int .i64 (leftI left (wt d))) ∧ Below w.heap.size w w' := by
  replace ht : tyL d [.i .i64, .s, .i .i64, .i .i64, .i .i64, .b, .l 1 0, .i .i64, .s, .i .i64, .l 1 0, .l 5 6, .i .i64, .s, .i .i64, .l 1 0, .l 5 6] := ht
  obtain ⟨z0, _, rfl, g0, h0⟩ := tyL.i ht
  obtain ⟨z1, _, rfl, g1, h1⟩ := tyL.s h0
  clear h0
  obtain ⟨z2, _, rfl, g2, h2⟩ := tyL.i h1
  clear h1
  obtain ⟨z3, _, rfl, g3, h3⟩ := tyL.i h2
  clear h2
  obtain ⟨z4, _, rfl, g4, h4⟩ := tyL.i h3
  clear h3
  obtain ⟨z5, _, rfl, h5⟩ := tyL.b h4
  clear h4
  obtain ⟨n6, c6, _, rfl, g6, h6⟩ := tyL.l h5
  clear h5
  obtain ⟨d7, _, rfl, g7, h7⟩ := tyL.split (f1 := uE 6) (f2 := [.i .i64, .s, .i .i64, .l 1 0, .l 5 6]) h6
  clear h6
  obtain ⟨d8, _, rfl, g8, h8⟩ := tyL.split (f1 := uE 6) (f2 := []) h7
  clear h7
  obtain rfl := tyL.nil h8
  clear h8
  obtain ⟨_, rfl, h0⟩ := hx
  obtain ⟨_, rfl, h1⟩ := h0
  obtain ⟨_, rfl, h2⟩ := h1
  obtain ⟨_, rfl, h3⟩ := h2
  obtain ⟨_, rfl, h4⟩ := h3
  obtain ⟨_, rfl, h5⟩ := h4
  obtain ⟨v6, _, rfl, s6, h6⟩ := h5
  obtain ⟨y7, _, rfl, l7, s7, h7⟩ := uH.split h6
  replace l7 : y7.length = 5 := l7.trans (tyL.len g7)
  clear h6
  obtain ⟨y8, _, rfl, l8, s8, h8⟩ := uH.split h7
  replace l8 : y8.length = 5 := l8.trans (tyL.len g8)
  clear h7
  obtain rfl := h8
  obtain ⟨M1, hM1⟩ : ∃ M, M = (n6 + wt c6) := ⟨_, rfl⟩
  have HC1 : Hid (∀ (wx : World) (l : Int), Below w.heap.size w wx → 0 ≤ l → l ≤ 1048576 → Calls Try.prog 74 #[v6, .int .i64 l] wx fun e w' => e = .returned (.int .i64 (leftI l M1)) ∧ Below wx.heap.size wx w') := fun wx l hb q0 q1 => hM1 ▸ uszStringS_any (lo := lo) (hi := hi) n6 c6 _ l wx g6 q0 q1 (s6.below hb)
  obtain ⟨M2, hM2⟩ : ∃ M, M = (wt d7) := ⟨_, rfl⟩
  have HC2 : Hid (∀ (wx : World) (l : Int), Below w.heap.size w wx → 0 ≤ l → l ≤ 1048576 → Calls Try.prog 75 #[.agg y7.toArray, .int .i64 l] wx fun e w' => e = .returned (.int .i64 (leftI l M2)) ∧ Below wx.heap.size wx w') := fun wx l hb q0 q1 => hM2 ▸ uszValue_any (lo := lo) (hi := hi) d7 _ l wx g7 (s7.below hb) q0 q1
  obtain ⟨M3, hM3⟩ : ∃ M, M = (wt d8) := ⟨_, rfl⟩
  have HC3 : Hid (∀ (wx : World) (l : Int), Below w.heap.size w wx → 0 ≤ l → l ≤ 1048576 → Calls Try.prog 75 #[.agg y8.toArray, .int .i64 l] wx fun e w' => e = .returned (.int .i64 (leftI l M3)) ∧ Below wx.heap.size wx w') := fun wx l hb q0 q1 => hM3 ▸ uszValue_any (lo := lo) (hi := hi) d8 _ l wx g8 (s8.below hb) q0 q1
  have E : Hid (leftI left (wt (UD.p (.int .i64 z0) (UD.p (.string z1) (UD.p (.int .i64 z2) (UD.p (.int .i64 z3) (UD.p (.int .i64 z4) (UD.p (.bool z5) (UD.l 1 n6 c6 (UD.app d7 (UD.app d8 UD.nil)))))))))) = leftI left (z1.size + (M1 + (M2 + (M3 + 0))))) := by show _ = _; congr 1 <;> (simp only [wt, wtP, wt_app, hM1, hM2, hM3] <;> omega)
  generalize leftI left (wt (UD.p (.int .i64 z0) (UD.p (.string z1) (UD.p (.int .i64 z2) (UD.p (.int .i64 z3) (UD.p (.int .i64 z4) (UD.p (.bool z5) (UD.l 1 n6 c6 (UD.app d7 (UD.app d8 UD.nil)))))))))) = R at *
  have HA : Hid (∀ o, Below w.heap.size w (w.alloc o)) := fun o => (Below.refl _ _).alloc (Nat.le_refl _) _
  unfold maxLen at g1
  obtain ⟨AX, hAX⟩ : ∃ AX : List Value, AX = (Value.int .i64 z0 :: (Value.string z1 :: (Value.int .i64 z2 :: (Value.int .i64 z3 :: (Value.int .i64 z4 :: (Value.bool z5 :: (v6 :: ((y7 ++ ((y8 ++ []))))))))))) := ⟨_, rfl⟩
  rw [← hAX]
  have hlen : AX.length = 17 := by rw [hAX]; simp [l7, l8]
  have e0 : AX[0]? = some (.int .i64 z0) := at_mid (i := 0) (pre := (([] : List Value))) (ys := [.int .i64 z0]) (post := (Value.string z1 :: (Value.int .i64 z2 :: (Value.int .i64 z3 :: (Value.int .i64 z4 :: (Value.bool z5 :: (v6 :: ((y7 ++ ((y8 ++ []))))))))))) (by rw [hAX]; simp) (by simp) rfl
  have e1 : AX[1]? = some (.string z1) := at_mid (i := 0) (pre := ([Value.int .i64 z0])) (ys := [.string z1]) (post := (Value.int .i64 z2 :: (Value.int .i64 z3 :: (Value.int .i64 z4 :: (Value.bool z5 :: (v6 :: ((y7 ++ ((y8 ++ [])))))))))) (by rw [hAX]; simp) (by simp) rfl
  have e2 : AX[2]? = some (.int .i64 z2) := at_mid (i := 0) (pre := ([Value.int .i64 z0, Value.string z1])) (ys := [.int .i64 z2]) (post := (Value.int .i64 z3 :: (Value.int .i64 z4 :: (Value.bool z5 :: (v6 :: ((y7 ++ ((y8 ++ []))))))))) (by rw [hAX]; simp) (by simp) rfl
  have e3 : AX[3]? = some (.int .i64 z3) := at_mid (i := 0) (pre := ([Value.int .i64 z0, Value.string z1, Value.int .i64 z2])) (ys := [.int .i64 z3]) (post := (Value.int .i64 z4 :: (Value.bool z5 :: (v6 :: ((y7 ++ ((y8 ++ [])))))))) (by rw [hAX]; simp) (by simp) rfl
  have e4 : AX[4]? = some (.int .i64 z4) := at_mid (i := 0) (pre := ([Value.int .i64 z0, Value.string z1, Value.int .i64 z2, Value.int .i64 z3])) (ys := [.int .i64 z4]) (post := (Value.bool z5 :: (v6 :: ((y7 ++ ((y8 ++ []))))))) (by rw [hAX]; simp) (by simp) rfl
  have e5 : AX[5]? = some (.bool z5) := at_mid (i := 0) (pre := ([Value.int .i64 z0, Value.string z1, Value.int .i64 z2, Value.int .i64 z3, Value.int .i64 z4])) (ys := [.bool z5]) (post := (v6 :: ((y7 ++ ((y8 ++ [])))))) (by rw [hAX]; simp) (by simp) rfl
  have e6 : AX[6]? = some (v6) := at_mid (i := 0) (pre := ([Value.int .i64 z0, Value.string z1, Value.int .i64 z2, Value.int .i64 z3, Value.int .i64 z4, Value.bool z5])) (ys := [v6]) (post := ((y7 ++ ((y8 ++ []))))) (by rw [hAX]; simp) (by simp) rfl
  have e7 : ∀ i v, y7[i]? = some v → AX[7 + i]? = some v := fun i v h => at_mid (pre := ([Value.int .i64 z0, Value.string z1, Value.int .i64 z2, Value.int .i64 z3, Value.int .i64 z4, Value.bool z5, v6])) (ys := y7) (post := ((y8 ++ []))) (by rw [hAX]; simp) (by simp) h
  have e8 : ∀ i v, y8[i]? = some v → AX[12 + i]? = some v := fun i v h => at_mid (pre := ([Value.int .i64 z0, Value.string z1, Value.int .i64 z2, Value.int .i64 z3, Value.int .i64 z4, Value.bool z5, v6] ++ y7)) (ys := y8) (post := []) (by rw [hAX]; simp) (by simp [l7]) h
  clear hAX
  have E0 := uhide e0
  clear e0
  have E1 := uhide e1
  clear e1
  have E2 := uhide e2
  clear e2
  have E3 := uhide e3
  clear e3
  have E4 := uhide e4
  clear e4
  have E5 := uhide e5
  clear e5
  have E6 := uhide e6
  clear e6
  have YZ7 : Hid ((Try.prog.info? 86).map (·.size) = some y7.length) := by show _ = _; rw [l7]; exact Try.zObj_laws_Value
  clear l7
  have E7 := uhide e7
  clear e7
  have YZ8 : Hid ((Try.prog.info? 86).map (·.size) = some y8.length) := by show _ = _; rw [l8]; exact Try.zObj_laws_Value
  clear l8
  have E8 := uhide e8
  clear e8
  have OA0 : Hid (objU (w.alloc (.cells AX.toArray 88)) w.heap.size 88 AX) := objU.new2 _ _ rfl
  clear ht g0 g2 g3 g4 g6 s6 g7 s7 g8 s8 hM1 hM2 hM3
  by_cases k0 : left - (z1.size : Int) < 0
  · have EN : Hid (R = -1) := by show _ = _; rw [E.out]; exact leftI_neg _ (by omega) (by unfold leftI; split <;> omega)
    clear E
    go_enter Try.func59, Try.ntmps59
    go_wp2_with (first
    | ((with_reducible refine wpList_load_one ?qqg100 9 ?qqx100 ?qqo100 w.heap.size 1 ?qqh100 (.string z1) Try.rObj_string (OA0.out.cell 1 _ E1.out) ?_); (case qqg100 => rfl); (case qqo100 => rfl); (case qqh100 => simp [Act.eval, Act.put]))
    | ((with_reducible refine wpList_load_one ?qqg101 38 ?qqx101 ?qqo101 w.heap.size 6 ?qqh101 (v6) Try.rObj_Lstring (OA0.out.cell 6 _ E6.out) ?_); (case qqg101 => rfl); (case qqo101 => rfl); (case qqh101 => simp [Act.eval, Act.put]))
    | ((with_reducible refine wpList_load_row2 ?qqg102 86 ?qqx102 ?qqo102 w.heap.size 7 ?qqh102 y7 Try.rObj_laws_Value YZ7.out (OA0.out.range 7 _ E7.out) ?_); (case qqg102 => rfl); (case qqo102 => rfl); (case qqh102 => simp [Act.eval, Act.put]))
    | ((with_reducible refine wpList_load_row2 ?qqg103 86 ?qqx103 ?qqo103 w.heap.size 12 ?qqh103 y8 Try.rObj_laws_Value YZ8.out (OA0.out.range 12 _ E8.out) ?_); (case qqg103 => rfl); (case qqo103 => rfl); (case qqh103 => simp [Act.eval, Act.put]))
    )
    go_ret
    exact ⟨ret_intU EN.out.symm, HA.out _⟩
  replace E : Hid (R = leftI (left - (z1.size : Int)) (M1 + (M2 + (M3 + 0)))) := by
    obtain ⟨q1, q2, q3⟩ := leftI_pos (x := left) (a := z1.size) (M1 + (M2 + (M3 + 0))) (by unfold leftI; split <;> omega)
    show _ = _; rw [E.out, q1, q2]
  obtain ⟨y1q, hy1⟩ : ∃ y, y = leftI (left - (z1.size : Int)) M1 := ⟨_, rfl⟩
  have Y1q := uhide hy1
  by_cases k1 : y1q < 0
  · have EN : Hid (R = -1) := by show _ = _; rw [E.out]; exact leftI_neg _ (by omega) (by rw [← hy1]; exact k1)
    clear E hy1
    go_enter Try.func59, Try.ntmps59
    go_wp2_with (first
    | ((with_reducible refine wpList_load_one ?qqg117 9 ?qqx117 ?qqo117 w.heap.size 1 ?qqh117 (.string z1) Try.rObj_string (OA0.out.cell 1 _ E1.out) ?_); (case qqg117 => rfl); (case qqo117 => rfl); (case qqh117 => simp [Act.eval, Act.put]))
    | ((with_reducible refine wpList_load_one ?qqg118 38 ?qqx118 ?qqo118 w.heap.size 6 ?qqh118 (v6) Try.rObj_Lstring (OA0.out.cell 6 _ E6.out) ?_); (case qqg118 => rfl); (case qqo118 => rfl); (case qqh118 => simp [Act.eval, Act.put]))
    | ((with_reducible refine wpList_load_row2 ?qqg119 86 ?qqx119 ?qqo119 w.heap.size 7 ?qqh119 y7 Try.rObj_laws_Value YZ7.out (OA0.out.range 7 _ E7.out) ?_); (case qqg119 => rfl); (case qqo119 => rfl); (case qqh119 => simp [Act.eval, Act.put]))
    | ((with_reducible refine wpList_load_row2 ?qqg120 86 ?qqx120 ?qqo120 w.heap.size 12 ?qqh120 y8 Try.rObj_laws_Value YZ8.out (OA0.out.range 12 _ E8.out) ?_); (case qqg120 => rfl); (case qqo120 => rfl); (case qqh120 => simp [Act.eval, Act.put]))
    )
    refine (HC1.out _ _ (HA.out _) (by omega) (by omega)).mono ?_
    rintro e w1 ⟨rfl, hb1⟩
    have OA1 := uhide (OA0.out.below hb1)
    have B1 : Hid (Below w.heap.size w w1) := (HA.out _).trans (hb1.mono (by simp))
    clear hb1
    rw [show leftI (left - (z1.size : Int)) M1 = y1q from Y1q.out.symm]
    go_wp2
    go_ret
    exact ⟨ret_intU EN.out.symm, B1.out⟩
  replace E : Hid (R = leftI y1q (M2 + (M3 + 0))) := by
    obtain ⟨q1, q2, q3⟩ := leftI_pos (x := (left - (z1.size : Int))) (a := M1) (M2 + (M3 + 0)) (by rw [← hy1]; exact k1)
    show _ = _; rw [E.out, q1, ← hy1]
  have u1 : y1q ≤ (left - (z1.size : Int)) := by rw [hy1]; unfold leftI; split <;> omega
  clear hy1
  obtain ⟨y2q, hy2⟩ : ∃ y, y = leftI y1q M2 := ⟨_, rfl⟩
  have Y2q := uhide hy2
  by_cases k2 : y2q < 0
  · have EN : Hid (R = -1) := by show _ = _; rw [E.out]; exact leftI_neg _ (by omega) (by rw [← hy2]; exact k2)
    clear E hy2
    go_enter Try.func59, Try.ntmps59
    go_wp2_with (first
    | ((with_reducible refine wpList_load_one ?qqg143 9 ?qqx143 ?qqo143 w.heap.size 1 ?qqh143 (.string z1) Try.rObj_string (OA0.out.cell 1 _ E1.out) ?_); (case qqg143 => rfl); (case qqo143 => rfl); (case qqh143 => simp [Act.eval, Act.put]))
    | ((with_reducible refine wpList_load_one ?qqg144 38 ?qqx144 ?qqo144 w.heap.size 6 ?qqh144 (v6) Try.rObj_Lstring (OA0.out.cell 6 _ E6.out) ?_); (case qqg144 => rfl); (case qqo144 => rfl); (case qqh144 => simp [Act.eval, Act.put]))
    | ((with_reducible refine wpList_load_row2 ?qqg145 86 ?qqx145 ?qqo145 w.heap.size 7 ?qqh145 y7 Try.rObj_laws_Value YZ7.out (OA0.out.range 7 _ E7.out) ?_); (case qqg145 => rfl); (case qqo145 => rfl); (case qqh145 => simp [Act.eval, Act.put]))
    | ((with_reducible refine wpList_load_row2 ?qqg146 86 ?qqx146 ?qqo146 w.heap.size 12 ?qqh146 y8 Try.rObj_laws_Value YZ8.out (OA0.out.range 12 _ E8.out) ?_); (case qqg146 => rfl); (case qqo146 => rfl); (case qqh146 => simp [Act.eval, Act.put]))
    )
    refine (HC1.out _ _ (HA.out _) (by omega) (by omega)).mono ?_
    rintro e w1 ⟨rfl, hb1⟩
    have OA1 := uhide (OA0.out.below hb1)
    have B1 : Hid (Below w.heap.size w w1) := (HA.out _).trans (hb1.mono (by simp))
    clear hb1
    rw [show leftI (left - (z1.size : Int)) M1 = y1q from Y1q.out.symm]
    go_wp2_with (first
    | ((with_reducible refine wpList_load_one ?qqg155 9 ?qqx155 ?qqo155 w.heap.size 1 ?qqh155 (.string z1) Try.rObj_string (OA1.out.cell 1 _ E1.out) ?_); (case qqg155 => rfl); (case qqo155 => rfl); (case qqh155 => simp [Act.eval, Act.put]))
    | ((with_reducible refine wpList_load_one ?qqg156 38 ?qqx156 ?qqo156 w.heap.size 6 ?qqh156 (v6) Try.rObj_Lstring (OA1.out.cell 6 _ E6.out) ?_); (case qqg156 => rfl); (case qqo156 => rfl); (case qqh156 => simp [Act.eval, Act.put]))
    | ((with_reducible refine wpList_load_row2 ?qqg157 86 ?qqx157 ?qqo157 w.heap.size 7 ?qqh157 y7 Try.rObj_laws_Value YZ7.out (OA1.out.range 7 _ E7.out) ?_); (case qqg157 => rfl); (case qqo157 => rfl); (case qqh157 => simp [Act.eval, Act.put]))
    | ((with_reducible refine wpList_load_row2 ?qqg158 86 ?qqx158 ?qqo158 w.heap.size 12 ?qqh158 y8 Try.rObj_laws_Value YZ8.out (OA1.out.range 12 _ E8.out) ?_); (case qqg158 => rfl); (case qqo158 => rfl); (case qqh158 => simp [Act.eval, Act.put]))
    )
    refine (HC2.out _ _ B1.out (by omega) (by omega)).mono ?_
    rintro e w2 ⟨rfl, hb2⟩
    have OA2 := uhide (OA1.out.below hb2)
    have B2 : Hid (Below w.heap.size w w2) := B1.out.trans (hb2.mono B1.out.size)
    clear hb2
    rw [show leftI y1q M2 = y2q from Y2q.out.symm]
    go_wp2
    go_ret
    exact ⟨ret_intU EN.out.symm, B2.out⟩
  replace E : Hid (R = leftI y2q (M3 + 0)) := by
    obtain ⟨q1, q2, q3⟩ := leftI_pos (x := y1q) (a := M2) (M3 + 0) (by rw [← hy2]; exact k2)
    show _ = _; rw [E.out, q1, ← hy2]
  have u2 : y2q ≤ y1q := by rw [hy2]; unfold leftI; split <;> omega
  clear hy2
  obtain ⟨y3q, hy3⟩ : ∃ y, y = leftI y2q M3 := ⟨_, rfl⟩
  have Y3q := uhide hy3
  by_cases k3 : y3q < 0
  · have EN : Hid (R = -1) := by show _ = _; rw [E.out]; exact leftI_neg _ (by omega) (by rw [← hy3]; exact k3)
    clear E hy3
    go_enter Try.func59, Try.ntmps59
    go_wp2_with (first
    | ((with_reducible refine wpList_load_one ?qqg181 9 ?qqx181 ?qqo181 w.heap.size 1 ?qqh181 (.string z1) Try.rObj_string (OA0.out.cell 1 _ E1.out) ?_); (case qqg181 => rfl); (case qqo181 => rfl); (case qqh181 => simp [Act.eval, Act.put]))
    | ((with_reducible refine wpList_load_one ?qqg182 38 ?qqx182 ?qqo182 w.heap.size 6 ?qqh182 (v6) Try.rObj_Lstring (OA0.out.cell 6 _ E6.out) ?_); (case qqg182 => rfl); (case qqo182 => rfl); (case qqh182 => simp [Act.eval, Act.put]))
    | ((with_reducible refine wpList_load_row2 ?qqg183 86 ?qqx183 ?qqo183 w.heap.size 7 ?qqh183 y7 Try.rObj_laws_Value YZ7.out (OA0.out.range 7 _ E7.out) ?_); (case qqg183 => rfl); (case qqo183 => rfl); (case qqh183 => simp [Act.eval, Act.put]))
    | ((with_reducible refine wpList_load_row2 ?qqg184 86 ?qqx184 ?qqo184 w.heap.size 12 ?qqh184 y8 Try.rObj_laws_Value YZ8.out (OA0.out.range 12 _ E8.out) ?_); (case qqg184 => rfl); (case qqo184 => rfl); (case qqh184 => simp [Act.eval, Act.put]))
    )
    refine (HC1.out _ _ (HA.out _) (by omega) (by omega)).mono ?_
    rintro e w1 ⟨rfl, hb1⟩
    have OA1 := uhide (OA0.out.below hb1)
    have B1 : Hid (Below w.heap.size w w1) := (HA.out _).trans (hb1.mono (by simp))
    clear hb1
    rw [show leftI (left - (z1.size : Int)) M1 = y1q from Y1q.out.symm]
    go_wp2_with (first
    | ((with_reducible refine wpList_load_one ?qqg193 9 ?qqx193 ?qqo193 w.heap.size 1 ?qqh193 (.string z1) Try.rObj_string (OA1.out.cell 1 _ E1.out) ?_); (case qqg193 => rfl); (case qqo193 => rfl); (case qqh193 => simp [Act.eval, Act.put]))
    | ((with_reducible refine wpList_load_one ?qqg194 38 ?qqx194 ?qqo194 w.heap.size 6 ?qqh194 (v6) Try.rObj_Lstring (OA1.out.cell 6 _ E6.out) ?_); (case qqg194 => rfl); (case qqo194 => rfl); (case qqh194 => simp [Act.eval, Act.put]))
    | ((with_reducible refine wpList_load_row2 ?qqg195 86 ?qqx195 ?qqo195 w.heap.size 7 ?qqh195 y7 Try.rObj_laws_Value YZ7.out (OA1.out.range 7 _ E7.out) ?_); (case qqg195 => rfl); (case qqo195 => rfl); (case qqh195 => simp [Act.eval, Act.put]))
    | ((with_reducible refine wpList_load_row2 ?qqg196 86 ?qqx196 ?qqo196 w.heap.size 12 ?qqh196 y8 Try.rObj_laws_Value YZ8.out (OA1.out.range 12 _ E8.out) ?_); (case qqg196 => rfl); (case qqo196 => rfl); (case qqh196 => simp [Act.eval, Act.put]))
    )
    refine (HC2.out _ _ B1.out (by omega) (by omega)).mono ?_
    rintro e w2 ⟨rfl, hb2⟩
    have OA2 := uhide (OA1.out.below hb2)
    have B2 : Hid (Below w.heap.size w w2) := B1.out.trans (hb2.mono B1.out.size)
    clear hb2
    rw [show leftI y1q M2 = y2q from Y2q.out.symm]
    go_wp2_with (first
    | ((with_reducible refine wpList_load_one ?qqg205 9 ?qqx205 ?qqo205 w.heap.size 1 ?qqh205 (.string z1) Try.rObj_string (OA2.out.cell 1 _ E1.out) ?_); (case qqg205 => rfl); (case qqo205 => rfl); (case qqh205 => simp [Act.eval, Act.put]))
    | ((with_reducible refine wpList_load_one ?qqg206 38 ?qqx206 ?qqo206 w.heap.size 6 ?qqh206 (v6) Try.rObj_Lstring (OA2.out.cell 6 _ E6.out) ?_); (case qqg206 => rfl); (case qqo206 => rfl); (case qqh206 => simp [Act.eval, Act.put]))
    | ((with_reducible refine wpList_load_row2 ?qqg207 86 ?qqx207 ?qqo207 w.heap.size 7 ?qqh207 y7 Try.rObj_laws_Value YZ7.out (OA2.out.range 7 _ E7.out) ?_); (case qqg207 => rfl); (case qqo207 => rfl); (case qqh207 => simp [Act.eval, Act.put]))
    | ((with_reducible refine wpList_load_row2 ?qqg208 86 ?qqx208 ?qqo208 w.heap.size 12 ?qqh208 y8 Try.rObj_laws_Value YZ8.out (OA2.out.range 12 _ E8.out) ?_); (case qqg208 => rfl); (case qqo208 => rfl); (case qqh208 => simp [Act.eval, Act.put]))
    )
    refine (HC3.out _ _ B2.out (by omega) (by omega)).mono ?_
    rintro e w3 ⟨rfl, hb3⟩
    have OA3 := uhide (OA2.out.below hb3)
    have B3 : Hid (Below w.heap.size w w3) := B2.out.trans (hb3.mono B2.out.size)
    clear hb3
    rw [show leftI y2q M3 = y3q from Y3q.out.symm]
    go_wp2
    go_ret
    exact ⟨ret_intU EN.out.symm, B3.out⟩
  replace E : Hid (R = leftI y3q (0)) := by
    obtain ⟨q1, q2, q3⟩ := leftI_pos (x := y2q) (a := M3) (0) (by rw [← hy3]; exact k3)
    show _ = _; rw [E.out, q1, ← hy3]
  have u3 : y3q ≤ y2q := by rw [hy3]; unfold leftI; split <;> omega
  clear hy3
  replace E : Hid (R = y3q) := E.out.trans (leftI_zero (by omega))
  go_enter Try.func59, Try.ntmps59
  go_wp2_with (first
    | ((with_reducible refine wpList_load_one ?qqg227 9 ?qqx227 ?qqo227 w.heap.size 1 ?qqh227 (.string z1) Try.rObj_string (OA0.out.cell 1 _ E1.out) ?_); (case qqg227 => rfl); (case qqo227 => rfl); (case qqh227 => simp [Act.eval, Act.put]))
    | ((with_reducible refine wpList_load_one ?qqg228 38 ?qqx228 ?qqo228 w.heap.size 6 ?qqh228 (v6) Try.rObj_Lstring (OA0.out.cell 6 _ E6.out) ?_); (case qqg228 => rfl); (case qqo228 => rfl); (case qqh228 => simp [Act.eval, Act.put]))
    | ((with_reducible refine wpList_load_row2 ?qqg229 86 ?qqx229 ?qqo229 w.heap.size 7 ?qqh229 y7 Try.rObj_laws_Value YZ7.out (OA0.out.range 7 _ E7.out) ?_); (case qqg229 => rfl); (case qqo229 => rfl); (case qqh229 => simp [Act.eval, Act.put]))
    | ((with_reducible refine wpList_load_row2 ?qqg230 86 ?qqx230 ?qqo230 w.heap.size 12 ?qqh230 y8 Try.rObj_laws_Value YZ8.out (OA0.out.range 12 _ E8.out) ?_); (case qqg230 => rfl); (case qqo230 => rfl); (case qqh230 => simp [Act.eval, Act.put]))
    )
  refine (HC1.out _ _ (HA.out _) (by omega) (by omega)).mono ?_
  rintro e w1 ⟨rfl, hb1⟩
  have OA1 := uhide (OA0.out.below hb1)
  have B1 : Hid (Below w.heap.size w w1) := (HA.out _).trans (hb1.mono (by simp))
  clear hb1
  rw [show leftI (left - (z1.size : Int)) M1 = y1q from Y1q.out.symm]
  go_wp2_with (first
    | ((with_reducible refine wpList_load_one ?qqg239 9 ?qqx239 ?qqo239 w.heap.size 1 ?qqh239 (.string z1) Try.rObj_string (OA1.out.cell 1 _ E1.out) ?_); (case qqg239 => rfl); (case qqo239 => rfl); (case qqh239 => simp [Act.eval, Act.put]))
    | ((with_reducible refine wpList_load_one ?qqg240 38 ?qqx240 ?qqo240 w.heap.size 6 ?qqh240 (v6) Try.rObj_Lstring (OA1.out.cell 6 _ E6.out) ?_); (case qqg240 => rfl); (case qqo240 => rfl); (case qqh240 => simp [Act.eval, Act.put]))
    | ((with_reducible refine wpList_load_row2 ?qqg241 86 ?qqx241 ?qqo241 w.heap.size 7 ?qqh241 y7 Try.rObj_laws_Value YZ7.out (OA1.out.range 7 _ E7.out) ?_); (case qqg241 => rfl); (case qqo241 => rfl); (case qqh241 => simp [Act.eval, Act.put]))
    | ((with_reducible refine wpList_load_row2 ?qqg242 86 ?qqx242 ?qqo242 w.heap.size 12 ?qqh242 y8 Try.rObj_laws_Value YZ8.out (OA1.out.range 12 _ E8.out) ?_); (case qqg242 => rfl); (case qqo242 => rfl); (case qqh242 => simp [Act.eval, Act.put]))
    )
  refine (HC2.out _ _ B1.out (by omega) (by omega)).mono ?_
  rintro e w2 ⟨rfl, hb2⟩
  have OA2 := uhide (OA1.out.below hb2)
  have B2 : Hid (Below w.heap.size w w2) := B1.out.trans (hb2.mono B1.out.size)
  clear hb2
  rw [show leftI y1q M2 = y2q from Y2q.out.symm]
  go_wp2_with (first
    | ((with_reducible refine wpList_load_one ?qqg251 9 ?qqx251 ?qqo251 w.heap.size 1 ?qqh251 (.string z1) Try.rObj_string (OA2.out.cell 1 _ E1.out) ?_); (case qqg251 => rfl); (case qqo251 => rfl); (case qqh251 => simp [Act.eval, Act.put]))
    | ((with_reducible refine wpList_load_one ?qqg252 38 ?qqx252 ?qqo252 w.heap.size 6 ?qqh252 (v6) Try.rObj_Lstring (OA2.out.cell 6 _ E6.out) ?_); (case qqg252 => rfl); (case qqo252 => rfl); (case qqh252 => simp [Act.eval, Act.put]))
    | ((with_reducible refine wpList_load_row2 ?qqg253 86 ?qqx253 ?qqo253 w.heap.size 7 ?qqh253 y7 Try.rObj_laws_Value YZ7.out (OA2.out.range 7 _ E7.out) ?_); (case qqg253 => rfl); (case qqo253 => rfl); (case qqh253 => simp [Act.eval, Act.put]))
    | ((with_reducible refine wpList_load_row2 ?qqg254 86 ?qqx254 ?qqo254 w.heap.size 12 ?qqh254 y8 Try.rObj_laws_Value YZ8.out (OA2.out.range 12 _ E8.out) ?_); (case qqg254 => rfl); (case qqo254 => rfl); (case qqh254 => simp [Act.eval, Act.put]))
    )
  refine (HC3.out _ _ B2.out (by omega) (by omega)).mono ?_
  rintro e w3 ⟨rfl, hb3⟩
  have OA3 := uhide (OA2.out.below hb3)
  have B3 : Hid (Below w.heap.size w w3) := B2.out.trans (hb3.mono B2.out.size)
  clear hb3
  rw [show leftI y2q M3 = y3q from Y3q.out.symm]
  go_wp2
  go_ret
  exact ⟨ret_intU E.out.symm, B3.out⟩
set_option maxRecDepth 20000 in
set_option maxHeartbeats 800000 in
set_option maxRecDepth 20000 in
theorem uszObjS_any {lo hi : Nat} (n : Nat) (cs : UD) (c : Value) (left : Int) (w : World) (ht : tyS 17 n cs 8) (h0 : 0 ≤ left) (h1 : left ≤ 1048576) (hx : uS w lo hi 17 n cs c) :
    Calls Try.prog 35 #[c, .int .i64 left] w fun e w' => e = .returned (.int .i64 (leftI left (n + wt cs))) ∧ Below w.heap.size w w' := by
  obtain ⟨a, cap, rfl, hx2⟩ := hx
  have Hx : Hid (uS w lo hi 17 n cs (.slice a n cap)) := ⟨a, cap, rfl, hx2⟩
  have hmx := ht.2.2.1
  unfold maxLen at hmx
  have Ht := uhide ht
  clear hx2 ht
  by_cases c1 : left - (n : Int) < 0
  · have E : Hid (leftI left (n + wt cs) = -1) := by show _ = _; unfold leftI; rw [if_pos (by omega)]
    go_enter Try.func35, Try.ntmps35
    go_wp2
    go_ret
    exact ⟨ret_intU E.out.symm, Below.refl _ _⟩
  have E : Hid (leftI left (n + wt cs) = leftI (left - n) (wt (cs.dropN (0 * 17)))) := by
    show _ = _
    obtain ⟨g1, g2, g3⟩ := leftI_pos (x := left) (a := n) (wt cs) (by unfold leftI; split <;> omega)
    rw [g1, g2, Nat.zero_mul, UD.dropN_zero]
  go_enter Try.func35, Try.ntmps35
  go_wp2
  go_loopw [1, 5] (fun l i wr => ∃ (q : Nat) (x : Int), q ≤ n ∧ i = .int .i64 q ∧ l = .int .i64 x ∧ 0 ≤ x ∧ x ≤ 1048576 ∧ Hid (leftI left (n + wt cs) = leftI x (wt (cs.dropN (q * 17)))) ∧ Below w.heap.size w wr) (fun _ i _ => n - (intOf i).toNat)
  case atStart => exact ⟨0, _, Nat.zero_le _, rfl, rfl, by omega, by omega, E, Below.refl _ _⟩
  case round =>
    obtain ⟨q, x, hq, rfl, rfl, hx0, hx1, Hs, hbw⟩ := hrel
    by_cases hlt : q < n
    · obtain ⟨b, off, rfl, hbb, hm⟩ := (Hx.out.below hbw).cells (by omega)
      have htr := Ht.out.row hlt
      have hr := hm.row 17 q
      have hw : wt (cs.dropN (q * 17)) = wt (rowU cs 17 q) + wt (cs.dropN ((q + 1) * 17)) := by rw [UD.drop_row cs 17 q, wt_app]
      have hsz := uszD_row cs 17 q
      obtain ⟨xs, hh, hcl⟩ := hr.hand
      have Hcon : Hid (∀ wx, Below wr.heap.size wr wx → Calls Try.prog 59 #[.agg xs.toArray, .int .i64 x] wx fun e w' => e = .returned (.int .i64 (leftI x (wt (rowU cs 17 q)))) ∧ Below wx.heap.size wx w') := fun wx hb => uszObj_any (lo := lo) (hi := hi) _ _ x wx htr (hh.below hb) hx0 hx1
      have hxl : xs.length = 17 := by rw [hh.len, tyL.len htr]; rfl
      have lld := load_whole (P := Try.prog) (t := 88) (k := 17) (ad := ⟨b, off + q * 17, none⟩) (w := wr) Try.isAgg88 Try.sizeOf88 hxl (fun j v h => by rw [Go.WideShapes.add_plain]; exact hcl j v h)
      clear hcl hr hm htr hsz hh
      generalize xs.toArray = XS at *
      have LLD := uhide lld
      clear lld hxl
      generalize wt (rowU cs 17 q) = m at *
      have hneg0 := fun h => leftI_neg (x := x) (a := m) (wt (cs.dropN ((q + 1) * 17))) hx0 h
      have hpos0 := fun h => leftI_pos (x := x) (a := m) (wt (cs.dropN ((q + 1) * 17))) h
      have hle0 : leftI x m ≤ x := by unfold leftI; split <;> omega
      generalize leftI x m = y at *
      by_cases hneg : y < 0
      · have hr : Hid (leftI left (n + wt cs) = -1) := by show _ = _; rw [Hs.out, hw]; exact hneg0 hneg
        clear hw Hs E hneg0 hpos0
        go_wp2_with (with_reducible refine wpList_load_eq rfl 88 _ rfl ⟨b, off + q * 17, none⟩ (by simp [Act.eval]) (.agg XS) LLD.out ?_)
        refine (Hcon.out _ (by repeat (first | exact Below.refl _ _ | refine Below.alloc ?_ (by simp) _))).mono ?_
        rintro e w1 ⟨rfl, hb⟩
        go_wp2
        go_ret
        exact ⟨ret_intU hr.out.symm, hbw.trans (hb.mono hbw.size)⟩
      · have hr : Hid (leftI left (n + wt cs) = leftI y (wt (cs.dropN ((q + 1) * 17)))) := by
          show _ = _
          rw [Hs.out, hw]; exact (hpos0 hneg).1
        clear hw Hs E hneg0 hpos0
        go_wp2_with (with_reducible refine wpList_load_eq rfl 88 _ rfl ⟨b, off + q * 17, none⟩ (by simp [Act.eval]) (.agg XS) LLD.out ?_)
        refine (Hcon.out _ (by repeat (first | exact Below.refl _ _ | refine Below.alloc ?_ (by simp) _))).mono ?_
        rintro e w1 ⟨rfl, hb⟩
        go_wp2
        go_roundw
        case rel => exact ⟨q + 1, _, by omega, by go_num, rfl, by omega, by omega, hr, hbw.trans (hb.mono hbw.size)⟩
        case measure => simp [intOf]; omega
    · have e : q = n := by omega
      subst e
      have hr : Hid (leftI left (q + wt cs) = x) := by
        show _ = _
        rw [Hs.out, ← Ht.out.2.2.2.1, UD.dropN_all]
        exact leftI_zero hx0
      clear Hs E
      go_wp2
      go_ret
      exact ⟨ret_intU hr.out.symm, hbw⟩
end Go.Proofs.Ytamlgjmboljcdaa
