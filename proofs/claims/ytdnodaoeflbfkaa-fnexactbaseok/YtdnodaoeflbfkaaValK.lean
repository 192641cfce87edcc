/- Right values: the program's size of them; both SizeOf and both ValueOk. -/
import Derived.Test.YtdnodaoeflbfkaaValJ
namespace Go.Proofs.Ytdnodaoeflbfkaa
open Go.RowKit Go.BigFrame
set_option linter.unusedVariables false

def withinC (n : Nat) : Prop := ∀ (v : VT n) (x : Value) (d m : Nat) (w : World), okVT n v → valArg w 0 n x v → d ≤ 100 → m ≤ 300 →
  Calls Try.prog 261 #[x, .int .i64 d, .int .i64 m] w fun e w' => e = .returned (.int .i64 (upTo (tsz n d v) m : Nat)) ∧ Below w.heap.size w w'
set_option maxHeartbeats 1600000 in
theorem within_of {n : Nat} (ih : withinC n) : withinC (n + 1) := by
  intro v X d m w hok harg hd hm
  obtain ⟨kd, tx, nm, ks, kids, rfl⟩ := VT.parts v
  obtain ⟨a, cap, a', cap', rfl, ⟨hrow, hf⟩, hkids, hf'⟩ := harg
  obtain ⟨hk, hl, hz, hkl, hkz⟩ := hok
  simp only [VT.hd_mk, VT.kids_mk] at *
  have Hfld : Hid (∀ wx, Below w.heap.size w wx → Calls Try.prog 269 #[.agg #[.int .i64 kd, .string tx, .int .i64 nm, .slice a ks.length cap, .slice a' kids.length cap']] wx fun e w' => e = .returned (.bool (hdB kd tx nm ks kids.length)) ∧ Below wx.heap.size wx w') :=
    fun wx hx => fieldsOk_any kd tx nm ks kids.length a a' cap cap' wx hk hl hkl (hrow.of.below hx)
  unfold maxLen at hkl
  have HA : Hid (∀ o, Below w.heap.size w (w.alloc o)) := fun o => (Below.refl _ _).alloc (Nat.le_refl _) _
  cases d with
  | zero =>
    have E : Hid (upTo (tsz (n + 1) 0 (VT.mk ⟨kd, tx, nm, ks⟩ kids)) m = 0) := by show _ = _; unfold upTo; rw [show tsz (n + 1) 0 (VT.mk ⟨kd, tx, nm, ks⟩ kids) = 0 from rfl]; split <;> rfl
    clear hrow hf hkids hf' hk hl hz hkl hkz ih Hfld
    go_enter Try.func261, Try.ntmps261
    go_wp2
    go_ret
    exact ⟨ret_int (by rw [E.out]; rfl), HA.out _⟩
  | succ d =>
  have E : Hid (tsz (n + 1) (d + 1) (VT.mk ⟨kd, tx, nm, ks⟩ kids) = if hdB kd tx nm ks kids.length then addL (tsz n d) kids 1 else 0) := rfl
  generalize tsz (n + 1) (d + 1) (VT.mk ⟨kd, tx, nm, ks⟩ kids) = T at *
  have Hk := hide hkids
  have Hkz := hide hkz
  have Hi := hide ih
  obtain ⟨D, hD⟩ : ∃ D, d + 1 = D := ⟨_, rfl⟩
  have Hd : Hid (d + 1 ≤ 100 ∧ d + 1 = D) := ⟨hd, hD⟩
  rw [hD]
  have qD : ((D : Int) == 0) = false := by simp; omega
  have hD0 : 0 < D := by omega
  have hD1 : D ≤ 100 := by omega
  clear hrow hf hkids hf' hk hl hz hkz ih hD hd
  by_cases hmost : m ≤ kids.length
  · have Hg : Hid (upTo T m = 0) := by
      show _ = _
      rw [E.out]
      split
      · rcases addL_ge (f := tsz n d) kids 1 with h | h
        · rw [h]; unfold upTo; split <;> rfl
        · exact upTo_no (by omega)
      · unfold upTo; split <;> rfl
    have hmost' : (m : Int) ≤ (kids.length : Int) := by omega
    clear E hmost Hfld Hk Hkz Hi Hd
    go_enter Try.func261, Try.ntmps261
    go_wp2
    go_ret
    exact ⟨ret_int (by rw [Hg.out]; rfl), HA.out _⟩
  have hmost' : (kids.length : Int) < (m : Int) := by omega
  cases hb : hdB kd tx nm ks kids.length
  · rw [hb] at Hfld E
    have Hg : Hid (upTo T m = 0) := by show _ = _; rw [E.out.trans (if_neg (by decide))]; unfold upTo; split <;> rfl
    clear E hmost Hk Hkz Hi Hd hb
    go_enter Try.func261, Try.ntmps261
    go_wp2_with fail
    refine (Hfld.out _ (HA.out _)).mono ?_
    rintro e w1 ⟨rfl, hb1⟩
    go_wp2
    go_ret
    exact ⟨ret_int (by rw [Hg.out]; rfl), (HA.out _).trans (hb1.mono (by simp))⟩
  rw [hb] at Hfld E
  replace E := hide (E.out.trans (if_pos rfl))
  clear hb
  go_enter Try.func261, Try.ntmps261
  go_wp2_with fail
  refine (Hfld.out _ (HA.out _)).mono ?_
  rintro e w1 ⟨rfl, hb1⟩
  have p4 : w1.cell? ⟨w.heap.size, 4, none⟩ = some (.slice a' kids.length cap') := (hb1.cell (p := ⟨w.heap.size, 4, none⟩) (by simp)).trans (by simp [go_sem])
  have hb1 : Below w.heap.size w w1 := (HA.out _).trans (hb1.mono (by simp))
  go_wp2
  go_loopw [7, 28] (fun s i wr => ∃ (k N : Nat), k ≤ kids.length ∧ i = .int .i64 k ∧ s = .int .i64 N ∧ 1 ≤ N ∧ N ≤ m ∧ Hid (addL (tsz n d) (kids.drop k) N = addL (tsz n d) kids 1) ∧ Below w.heap.size w wr) (fun _ i _ => kids.length - (intOf i).toNat)
  case atStart => exact ⟨0, 1, Nat.zero_le _, rfl, rfl, by omega, by omega, rfl, hb1⟩
  case round =>
    obtain ⟨k, N, hk, rfl, rfl, hN0, hN1, Hx, hbw⟩ := hrel
    by_cases hlt : k < kids.length
    · obtain ⟨b, off, rfl, _, hat⟩ := Hk.out (by omega)
      have hv := (hat k hlt).below hbw
      have hz := (Hkz.out _ (List.getElem_mem hlt))
      have hn := addL_drop (tsz n d) kids k hlt N
      have hge := addL_ge (f := tsz n d) (kids.drop (k + 1)) (N + tsz n d (kids[k]'hlt))
      cases n with
      | zero => exact hv.elim
      | succ n =>
      obtain ⟨KD, TX, NM, KS, KIDS, hkv⟩ := VT.parts (kids[k]'hlt)
      rw [hkv] at hv hz hn hge
      clear hkv hat
      have hcon := fun (X : Value) (z q : Int) (wx : World) (hzz : z = (D : Int) - 1) (hqq : q = (m : Int) - (N : Int)) (hx : valArg wx 0 (n + 1) X (VT.mk ⟨KD, TX, NM, KS⟩ KIDS)) => (show z = (d : Int) by have := Hd.out; omega) ▸ (show q = ((m - N : Nat) : Int) by omega) ▸ Hi.out (VT.mk ⟨KD, TX, NM, KS⟩ KIDS) X d (m - N) wx hz hx (by have := Hd.out; omega) (by omega)
      generalize tsz (n + 1) d (VT.mk ⟨KD, TX, NM, KS⟩ KIDS) = y at *
      obtain ⟨h0c, h1c, h2c, ⟨av, capv, h3c, h3d⟩, al, capl, h4c, h4d⟩ := hv
      have Hdd : Hid (valArg wr 0 (n + 1) (.agg #[.int .i64 KD, .string TX, .int .i64 NM, .slice av KS.length capv, .slice al KIDS.length capl]) (VT.mk ⟨KD, TX, NM, KS⟩ KIDS)) := ⟨_, _, _, _, rfl, h3d, h4d⟩
      simp only [VT.hd_mk, VT.kids_mk] at h0c h1c h2c h3c h4c
      clear h3d h4d hz
      have hgone : Hid (y = 0 ∨ m < N + y → upTo T m = 0) := by
        intro h
        rw [E.out, ← Hx.out, hn]
        split
        · unfold upTo; split <;> rfl
        · rcases hge with h' | h'
          · rw [h']; unfold upTo; split <;> rfl
          · exact upTo_no (by omega)
      have Hal : Hid (∀ o, Below wr.heap.size wr (wr.alloc o)) := fun o => (Below.refl _ _).alloc (Nat.le_refl _) _
      by_cases hy0 : upTo y (m - N) = 0
      · rw [hy0] at hcon
        have Hcon := hide hcon
        have Hg : Hid (upTo T m = 0) := hgone.out (by
          by_cases h0 : y = 0
          · exact .inl h0
          · right
            unfold upTo at hy0
            split at hy0 <;> omega)
        clear hcon hgone hn hge Hx
        go_wp2_with fail
        refine (Hcon.out _ _ _ _ (by first | rfl | omega) (by first | rfl | omega) (Hdd.out.below (Hal.out _))).mono ?_
        rintro e w2 ⟨rfl, hb⟩
        go_wp2
        go_ret
        exact ⟨ret_int (by rw [Hg.out]; rfl), hbw.trans (((Hal.out _).trans (hb.mono (by simp))).mono hbw.size)⟩
      · have hyy : y ≤ m - N ∧ y ≠ 0 := by unfold upTo at hy0; split at hy0 <;> omega
        rw [upTo_of hyy.1] at hcon
        have Hcon := hide hcon
        have Hn : Hid (addL (tsz (n + 1) d) (kids.drop (k + 1)) (N + y) = addL (tsz (n + 1) d) kids 1) := by rw [← Hx.out, hn, if_neg hyy.2]; rfl
        have q0 : ((y : Int) == 0) = false := by simp; omega
        have q1 : (N : Int) + (y : Int) ≤ 300 := by omega
        clear hcon hgone hn hge Hx
        go_wp2_with fail
        refine (Hcon.out _ _ _ _ (by first | rfl | omega) (by first | rfl | omega) (Hdd.out.below (Hal.out _))).mono ?_
        rintro e w2 ⟨rfl, hb⟩
        go_wp2
        go_roundw
        case rel => exact ⟨k + 1, N + y, by omega, by go_num, by go_num, by omega, by omega, Hn, hbw.trans (((Hal.out _).trans (hb.mono (by simp))).mono hbw.size)⟩
        case measure => simp [intOf]; omega
    · have e : k = kids.length := by omega
      subst e
      have Hn : Hid (upTo T m = N) := by show _ = _; rw [E.out, ← Hx.out, List.drop_length]; exact upTo_of hN1
      clear Hx Hk Hkz Hi E Hd hlt hk
      go_wp2
      go_ret
      exact ⟨ret_int (by rw [Hn.out]), hbw⟩
theorem within_any : ∀ n, withinC n
  | 0 => fun v => nomatch v
  | n + 1 => within_of (within_any n)
end Go.Proofs.Ytdnodaoeflbfkaa
