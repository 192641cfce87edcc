/- The texts of values, by the spec: all kinds; both ValueText's inner texts. -/
import Derived.Test.YtkdiinjkpmkcpaaDoorVTxN
import Derived.Test.YtkdiinjkpmkcpaaDoorVTxJ
namespace Go.Proofs.YtkdiinjkpmkcpaaDoor
open Go.RowKit Go.BigFrame
set_option linter.unusedVariables false

def psC (n : Nat) : Prop := ∀ (v : VT n) (x : Value) (w : World), rgt n v → valArg w 0 n x v →
  Calls Tryd.prog 11 #[x] w fun e w' => e = .returned (.string (vtx n v)) ∧ Below w.heap.size w w'
theorem part_zero (o : ByteArray) (ps : List ByteArray) (k : Nat) (h : k < ps.length) (hk : k = 0) : o ++ ps[k] = o ++ jn 44 (ps.take (k + 1)) := by subst hk; rw [jn_zero 44 ps h]
theorem part_succ (o : ByteArray) (ps : List ByteArray) (k : Nat) (h : k < ps.length) (hk : 0 < k) : ((o ++ jn 44 (ps.take k)) ++ ⟨#[44]⟩) ++ ps[k] = o ++ jn 44 (ps.take (k + 1)) := by
  rw [jn_succ 44 ps k h hk, bs_assoc, bs_assoc, bs_assoc]
set_option maxRecDepth 100000 in
set_option maxHeartbeats 3200000 in
theorem print_of {n : Nat} (ih : psC n) : psC (n + 1) := by
  intro v X w hr harg
  obtain ⟨kd, tx, nm, ks, kids, rfl⟩ := VT.parts v
  obtain ⟨a, cap, a', cap', rfl, ⟨hrow, hf⟩, hkids, hf'⟩ := harg
  obtain ⟨hkd, htx, hkeys, hksz, hnm, hlen, hsz, hrk⟩ := hr
  simp only [VT.hd_mk, VT.kids_mk] at *
  have HA : Hid (∀ o, Below w.heap.size w (w.alloc o)) := fun o => (Below.refl _ _).alloc (Nat.le_refl _) _
  by_cases k1 : kd = 1
  · subst k1
    rw [vtx1]
    have HC : Hid (∀ wx, Below w.heap.size w wx → Calls Tryd.prog 22 #[.string tx] wx fun e w' => e = .returned (.string ((qB ++ escB tx) ++ qB)) ∧ Below w.heap.size w w') := fun wx hx => (l4Quoted_any tx wx htx).mono fun e w' h => ⟨h.1, hx.trans (h.2.mono hx.size)⟩
    clear hrow hkids hkeys hksz hsz hrk ih
    generalize (qB ++ escB tx) ++ qB = R at *
    go_enter Tryd.func11, Tryd.ntmps11
    go_wp2_with fail
    refine (HC.out _ (HA.out _)).mono ?_
    rintro e w1 ⟨rfl, hb1⟩
    go_wp2
    go_ret
    exact ⟨rfl, hb1⟩
  by_cases k2 : kd = 2
  · subst k2
    rw [vtx2]
    have HC : Hid (∀ wx, Below w.heap.size w wx → Calls Tryd.prog 23 #[.int .i64 nm] wx fun e w' => e = .returned (.string (numB nm)) ∧ Below w.heap.size w w') := fun wx hx => (l4Int_any nm wx hnm.1 hnm.2).mono fun e w' h => ⟨h.1, hx.trans (h.2.mono hx.size)⟩
    clear hrow hkids hkeys hksz hsz hrk ih
    generalize numB nm = R at *
    go_enter Tryd.func11, Tryd.ntmps11
    go_wp2_with fail
    refine (HC.out _ (HA.out _)).mono ?_
    rintro e w1 ⟨rfl, hb1⟩
    go_wp2
    go_ret
    exact ⟨rfl, hb1⟩
  by_cases k3 : kd = 3
  · subst k3
    rw [vtx3]
    clear hrow hkids hkeys hksz hsz hrk ih
    by_cases c : nm = 1
    · subst c
      rw [if_pos rfl]
      go_enter Tryd.func11, Tryd.ntmps11
      go_wp2
      go_ret
      exact ⟨rfl, HA.out _⟩
    · rw [if_neg c]
      have q : (nm == 1) = false := by simpa using c
      go_enter Tryd.func11, Tryd.ntmps11
      go_wp2
      go_ret
      exact ⟨rfl, HA.out _⟩
  have hpl : (kids.map (vtx n)).length = kids.length := by simp
  have hps : ∀ p ∈ kids.map (vtx n), p.size ≤ 76800 := fun p hp => by obtain ⟨x, hx, rfl⟩ := List.mem_map.1 hp; exact hsz x hx
  have Hk := hide hkids
  have Hrk := hide hrk
  have Hi := hide ih
  by_cases k4 : kd = 4
  · subst k4
    rw [vtx4]
    have hpp := hpl
    have hjs : ∀ p ∈ kids.map (vtx n), p.size ≤ 76821 := fun p hp => by have := hps p hp; omega
    have HPK : Hid (∀ k (h : k < kids.length), (kids.map (vtx n))[k]'(by omega) = vtx n (kids[k]'h)) := fun k h => by simp
    have HJ : Hid (∀ k, k ≤ kids.length → (jn 44 ((kids.map (vtx n)).take k)).size ≤ 23100000) := fun k hk => by
      have h := jn_size 44 76821 _ hjs k (by omega)
      have := Nat.mul_le_mul_left 76822 (Nat.le_trans hk hlen)
      omega
    have HZ : Hid (∀ k (h : k < kids.length), k = 0 → (⟨#[91]⟩ : ByteArray) ++ (kids.map (vtx n))[k]'(by omega) = (⟨#[91]⟩ : ByteArray) ++ jn 44 ((kids.map (vtx n)).take (k + 1))) := fun k h hk => part_zero _ _ k (by omega) hk
    have HS : Hid (∀ k (h : k < kids.length), 0 < k → (((⟨#[91]⟩ : ByteArray) ++ jn 44 ((kids.map (vtx n)).take k)) ++ ⟨#[44]⟩) ++ (kids.map (vtx n))[k]'(by omega) = (⟨#[91]⟩ : ByteArray) ++ jn 44 ((kids.map (vtx n)).take (k + 1))) := fun k h hk => part_succ _ _ k (by omega) hk
    have HE : Hid (kids.map (vtx n) = (kids.map (vtx n)).take kids.length) := (List.take_of_length_le (by omega)).symm
    have hSsz : Hid (∀ k, k ≤ kids.length → ((⟨#[91]⟩ : ByteArray) ++ jn 44 ((kids.map (vtx n)).take k)).size ≤ 24000000) := fun k hk => by
      rw [ByteArray.size_append]; have := HJ.out k hk; show 1 + _ ≤ _; omega
    have hps2 : Hid (∀ k (h : k < kids.length), (vtx n (kids[k]'h)).size ≤ 76800) := fun k h => hsz _ (List.getElem_mem h)
    have hSP : Hid (∀ k, k ≤ kids.length → ∀ S : ByteArray, S = (⟨#[91]⟩ : ByteArray) ++ jn 44 ((kids.map (vtx n)).take k) → S.size ≤ 24000000) := fun k hk S hS => by rw [hS]; exact hSsz.out k hk
    have Hpk2 : Hid (((⟨#[91]⟩ : ByteArray) ++ jn 44 (kids.map (vtx n))) ++ ⟨#[93]⟩ = ((⟨#[91]⟩ : ByteArray) ++ jn 44 ((kids.map (vtx n)).take kids.length)) ++ ⟨#[93]⟩) := by show _ = _; rw [← HE.out]
    have hkl3 : kids.length ≤ 300 := hlen
    clear hrow hkids hksz hsz hrk ih hps hjs HE hSsz HJ
    go_enter Tryd.func11, Tryd.ntmps11
    go_wp2
    go_loopw [3, 5] (fun s i wr => ∃ (k : Nat) (S : ByteArray), k ≤ kids.length ∧ i = .int .i64 k ∧ s = .string S ∧ S.size ≤ 24000000 ∧ Hid (S = (⟨#[91]⟩ : ByteArray) ++ jn 44 ((kids.map (vtx n)).take k)) ∧
        wr.cell? ⟨w.heap.size, 0, none⟩ = some (.int .i64 4) ∧ wr.cell? ⟨w.heap.size, 3, none⟩ = some (.slice a ks.length cap) ∧ wr.cell? ⟨w.heap.size, 4, none⟩ = some (.slice a' kids.length cap') ∧ Below w.heap.size w wr ∧ w.heap.size < wr.heap.size) (fun _ i _ => kids.length - (intOf i).toNat)
    case atStart => exact ⟨0, (⟨#[91]⟩ : ByteArray), Nat.zero_le _, rfl, rfl, by decide, (by show _ = _; rw [List.take_zero, jn_nil, bs_none]), by simp, by simp, by simp, HA.out _, by simp⟩
    case round =>
      obtain ⟨k, S, hk, rfl, rfl, hS, HSS, b0, b3, b4, hbw, hgt⟩ := hrel
      by_cases hlt : k < kids.length
      · obtain ⟨b, off, rfl, _, hat⟩ := Hk.out (by omega)
        have hv := (hat k hlt).below hbw
        have hrk := Hrk.out _ (List.getElem_mem hlt)
        have hT := hps2.out k hlt
        have hp := HPK.out k hlt
        have hz := HZ.out k hlt
        have hs := HS.out k hlt
        rw [hp] at hs hz
        cases n with
        | zero => exact hv.elim
        | succ n =>
        obtain ⟨KD, TX, NM, KS, KIDS, hkv⟩ := VT.parts (kids[k]'hlt)
        rw [hkv] at hv hrk hs hz hT hp
        obtain ⟨h0c, h1c, h2c, ⟨av, capv, h3c, h3d⟩, al, capl, h4c, h4d⟩ := hv
        have Hcon : Hid (∀ wx, Below wr.heap.size wr wx → Calls Tryd.prog 11 #[.agg #[.int .i64 KD, .string TX, .int .i64 NM, .slice av KS.length capv, .slice al KIDS.length capl]] wx fun e w' => e = .returned (.string (vtx (n + 1) (VT.mk ⟨KD, TX, NM, KS⟩ KIDS))) ∧ Below wx.heap.size wx w') := fun wx hx =>
          Hi.out (VT.mk ⟨KD, TX, NM, KS⟩ KIDS) _ wx hrk (valArg.below (n := n + 1) (v := VT.mk ⟨KD, TX, NM, KS⟩ KIDS) ⟨_, _, _, _, rfl, h3d, h4d⟩ hx)
        simp only [VT.hd_mk, VT.kids_mk] at h0c h1c h2c h3c h4c
        clear h3d h4d hrk hkv hat
        have hsz2 := hSP.out (k + 1) (by omega)
        by_cases hk0 : k = 0
        · have HN : Hid ((S) ++ vtx (n + 1) (VT.mk ⟨KD, TX, NM, KS⟩ KIDS) = (⟨#[91]⟩ : ByteArray) ++ jn 44 ((kids.map (vtx (n + 1))).take (k + 1))) := by
            show _ = _
            rw [show S = (⟨#[91]⟩ : ByteArray) by rw [HSS.out, hk0, List.take_zero, jn_nil, bs_none], ← hz hk0]
            all_goals simp only [bs_assoc]
          have HN2 := hide (hsz2 _ HN.out)
          have g0 : decide ((0 : Int) < (k : Int)) = false := by rw [decide_eq_false_iff_not]; omega
          have g1 : (k : Int) ≤ 0 := by omega
          clear hz hs hsz2 hk0 hp HSS
          generalize vtx (n + 1) (VT.mk ⟨KD, TX, NM, KS⟩ KIDS) = TT at *
          go_wp2_with fail
          refine (Hcon.out _ (Below.refl _ _)).mono ?_
          rintro e w1 ⟨rfl, hb⟩
          have b0' := (hb.cell (p := ⟨w.heap.size, 0, none⟩) hgt).trans b0
          have b3' := (hb.cell (p := ⟨w.heap.size, 3, none⟩) hgt).trans b3
          have b4' := (hb.cell (p := ⟨w.heap.size, 4, none⟩) hgt).trans b4
          go_wp2
          go_roundw
          case rel => exact ⟨k + 1, _, by omega, by go_num, rfl, HN2.out, HN, b0', b3', b4', hbw.trans (hb.mono hbw.size), Nat.lt_of_lt_of_le hgt hb.size⟩
          case measure => simp [intOf]; omega
        · have HN : Hid ((S ++ ⟨#[44]⟩) ++ vtx (n + 1) (VT.mk ⟨KD, TX, NM, KS⟩ KIDS) = (⟨#[91]⟩ : ByteArray) ++ jn 44 ((kids.map (vtx (n + 1))).take (k + 1))) := by
            show _ = _
            rw [← hs (by omega), HSS.out]
            all_goals simp only [bs_assoc]
          have HN2 := hide (hsz2 _ HN.out)
          have g1 : (0 : Int) < (k : Int) := by omega
          clear hz hs hsz2 hk0 hp HSS
          generalize vtx (n + 1) (VT.mk ⟨KD, TX, NM, KS⟩ KIDS) = TT at *
          go_wp2_with fail
          refine (Hcon.out _ (Below.refl _ _)).mono ?_
          rintro e w1 ⟨rfl, hb⟩
          have b0' := (hb.cell (p := ⟨w.heap.size, 0, none⟩) hgt).trans b0
          have b3' := (hb.cell (p := ⟨w.heap.size, 3, none⟩) hgt).trans b3
          have b4' := (hb.cell (p := ⟨w.heap.size, 4, none⟩) hgt).trans b4
          go_wp2
          go_roundw
          case rel => exact ⟨k + 1, _, by omega, by go_num, rfl, HN2.out, HN, b0', b3', b4', hbw.trans (hb.mono hbw.size), Nat.lt_of_lt_of_le hgt hb.size⟩
          case measure => simp [intOf]; omega
      · have e : k = kids.length := by omega
        subst e
        have HF : Hid (S ++ ⟨#[93]⟩ = ((⟨#[91]⟩ : ByteArray) ++ jn 44 (kids.map (vtx n))) ++ ⟨#[93]⟩) := by show _ = _; rw [Hpk2.out, HSS.out]
        clear HZ HS Hpk2 HPK hSP hps2 Hk Hrk Hi HSS
        go_wp2
        go_ret
        exact ⟨ret_str HF.out, hbw⟩
  have k5 : kd = 5 := by omega
  subst k5
  have hkl := hkeys rfl
  rw [vtx5]
  have hpp : (pairL ks (kids.map (vtx n))).length = kids.length := by rw [pairL_len _ _ (by rw [hpl]; exact hkl)]; exact hkl
  have Hkl := hide hkl
  clear hkl hkeys
  have hjs : ∀ p ∈ pairL ks (kids.map (vtx n)), p.size ≤ 76821 := fun p hp => by
    obtain ⟨i, hi, rfl⟩ := List.getElem_of_mem hp
    have hkq := Hkl.out
    rw [pairL_get _ _ i hi (by omega) (by omega), pair_size]
    have h1 := hksz _ (List.getElem_mem (by omega : i < ks.length))
    have h2 := hps _ (List.getElem_mem (by omega : i < (kids.map (vtx n)).length))
    omega
  have HPK : Hid (∀ k (h : k < kids.length) (h1 : k < ks.length), (pairL ks (kids.map (vtx n)))[k]'(by omega) = ((ks[k]'h1) ++ ⟨#[58]⟩) ++ vtx n (kids[k]'h)) := fun k h h1 => by
    rw [pairL_get _ _ k (by omega) h1 (by omega)]
    unfold pairB
    simp
  have Hks := hide hrow.of
  have Hksz := hide hksz
  have HJ : Hid (∀ k, k ≤ kids.length → (jn 44 ((pairL ks (kids.map (vtx n))).take k)).size ≤ 23100000) := fun k hk => by
    have h := jn_size 44 76821 _ hjs k (by omega)
    have := Nat.mul_le_mul_left 76822 (Nat.le_trans hk hlen)
    omega
  have HZ : Hid (∀ k (h : k < kids.length), k = 0 → (⟨#[123]⟩ : ByteArray) ++ (pairL ks (kids.map (vtx n)))[k]'(by omega) = (⟨#[123]⟩ : ByteArray) ++ jn 44 ((pairL ks (kids.map (vtx n))).take (k + 1))) := fun k h hk => part_zero _ _ k (by omega) hk
  have HS : Hid (∀ k (h : k < kids.length), 0 < k → (((⟨#[123]⟩ : ByteArray) ++ jn 44 ((pairL ks (kids.map (vtx n))).take k)) ++ ⟨#[44]⟩) ++ (pairL ks (kids.map (vtx n)))[k]'(by omega) = (⟨#[123]⟩ : ByteArray) ++ jn 44 ((pairL ks (kids.map (vtx n))).take (k + 1))) := fun k h hk => part_succ _ _ k (by omega) hk
  have HE : Hid (pairL ks (kids.map (vtx n)) = (pairL ks (kids.map (vtx n))).take kids.length) := (List.take_of_length_le (by omega)).symm
  have hSsz : Hid (∀ k, k ≤ kids.length → ((⟨#[123]⟩ : ByteArray) ++ jn 44 ((pairL ks (kids.map (vtx n))).take k)).size ≤ 24000000) := fun k hk => by
    rw [ByteArray.size_append]; have := HJ.out k hk; show 1 + _ ≤ _; omega
  have hps2 : Hid (∀ k (h : k < kids.length), (vtx n (kids[k]'h)).size ≤ 76800) := fun k h => hsz _ (List.getElem_mem h)
  have hSP : Hid (∀ k, k ≤ kids.length → ∀ S : ByteArray, S = (⟨#[123]⟩ : ByteArray) ++ jn 44 ((pairL ks (kids.map (vtx n))).take k) → S.size ≤ 24000000) := fun k hk S hS => by rw [hS]; exact hSsz.out k hk
  have Hpk2 : Hid (((⟨#[123]⟩ : ByteArray) ++ jn 44 (pairL ks (kids.map (vtx n)))) ++ ⟨#[125]⟩ = ((⟨#[123]⟩ : ByteArray) ++ jn 44 ((pairL ks (kids.map (vtx n))).take kids.length)) ++ ⟨#[125]⟩) := by show _ = _; rw [← HE.out]
  have hkl3 : kids.length ≤ 300 := hlen
  clear hrow hkids hksz hsz hrk ih hps hjs HE hSsz HJ
  go_enter Tryd.func11, Tryd.ntmps11
  go_wp2
  go_loopw [3, 5] (fun s i wr => ∃ (k : Nat) (S : ByteArray), k ≤ kids.length ∧ i = .int .i64 k ∧ s = .string S ∧ S.size ≤ 24000000 ∧ Hid (S = (⟨#[123]⟩ : ByteArray) ++ jn 44 ((pairL ks (kids.map (vtx n))).take k)) ∧
      wr.cell? ⟨w.heap.size, 0, none⟩ = some (.int .i64 5) ∧ wr.cell? ⟨w.heap.size, 3, none⟩ = some (.slice a ks.length cap) ∧ wr.cell? ⟨w.heap.size, 4, none⟩ = some (.slice a' kids.length cap') ∧ Below w.heap.size w wr ∧ w.heap.size < wr.heap.size) (fun _ i _ => kids.length - (intOf i).toNat)
  case atStart => exact ⟨0, (⟨#[123]⟩ : ByteArray), Nat.zero_le _, rfl, rfl, by decide, (by show _ = _; rw [List.take_zero, jn_nil, bs_none]), by simp, by simp, by simp, HA.out _, by simp⟩
  case round =>
    obtain ⟨k, S, hk, rfl, rfl, hS, HSS, b0, b3, b4, hbw, hgt⟩ := hrel
    by_cases hlt : k < kids.length
    · obtain ⟨b, off, rfl, _, hat⟩ := Hk.out (by omega)
      have hv := (hat k hlt).below hbw
      have hrk := Hrk.out _ (List.getElem_mem hlt)
      have hT := hps2.out k hlt
      have hkk : k < ks.length := by have := Hkl.out; omega
      obtain ⟨kb, ko, rfl, hkat⟩ := Hks.out (by omega)
      have hp := HPK.out k hlt hkk
      have hbb : kb < w.heap.size := World.block_lt_of_cell? _ _ (hkat k hkk)
      have ck := (hbw.cell (p := ⟨kb, ko + k, none⟩) hbb).trans (hkat k hkk)
      have hz1 := Hksz.out _ (List.getElem_mem hkk)
      have hz := HZ.out k hlt
      have hs := HS.out k hlt
      rw [hp] at hs hz
      cases n with
      | zero => exact hv.elim
      | succ n =>
      obtain ⟨KD, TX, NM, KS, KIDS, hkv⟩ := VT.parts (kids[k]'hlt)
      rw [hkv] at hv hrk hs hz hT hp
      obtain ⟨h0c, h1c, h2c, ⟨av, capv, h3c, h3d⟩, al, capl, h4c, h4d⟩ := hv
      have Hcon : Hid (∀ wx, Below wr.heap.size wr wx → Calls Tryd.prog 11 #[.agg #[.int .i64 KD, .string TX, .int .i64 NM, .slice av KS.length capv, .slice al KIDS.length capl]] wx fun e w' => e = .returned (.string (vtx (n + 1) (VT.mk ⟨KD, TX, NM, KS⟩ KIDS))) ∧ Below wx.heap.size wx w') := fun wx hx =>
        Hi.out (VT.mk ⟨KD, TX, NM, KS⟩ KIDS) _ wx hrk (valArg.below (n := n + 1) (v := VT.mk ⟨KD, TX, NM, KS⟩ KIDS) ⟨_, _, _, _, rfl, h3d, h4d⟩ hx)
      simp only [VT.hd_mk, VT.kids_mk] at h0c h1c h2c h3c h4c
      clear h3d h4d hrk hkv hat
      have hsz2 := hSP.out (k + 1) (by omega)
      by_cases hk0 : k = 0
      · have HN : Hid (((S ++ ks[k]'hkk) ++ ⟨#[58]⟩) ++ vtx (n + 1) (VT.mk ⟨KD, TX, NM, KS⟩ KIDS) = (⟨#[123]⟩ : ByteArray) ++ jn 44 ((pairL ks (kids.map (vtx (n + 1)))).take (k + 1))) := by
          show _ = _
          rw [show S = (⟨#[123]⟩ : ByteArray) by rw [HSS.out, hk0, List.take_zero, jn_nil, bs_none], ← hz hk0]
          all_goals simp only [bs_assoc]
        have HN2 := hide (hsz2 _ HN.out)
        have g0 : decide ((0 : Int) < (k : Int)) = false := by rw [decide_eq_false_iff_not]; omega
        have g1 : (k : Int) ≤ 0 := by omega
        clear hz hs hsz2 hk0 hp HSS
        generalize vtx (n + 1) (VT.mk ⟨KD, TX, NM, KS⟩ KIDS) = TT at *
        generalize ks[k]'hkk = KK at *
        go_wp2_with fail
        refine (Hcon.out _ (Below.refl _ _)).mono ?_
        rintro e w1 ⟨rfl, hb⟩
        have b0' := (hb.cell (p := ⟨w.heap.size, 0, none⟩) hgt).trans b0
        have b3' := (hb.cell (p := ⟨w.heap.size, 3, none⟩) hgt).trans b3
        have b4' := (hb.cell (p := ⟨w.heap.size, 4, none⟩) hgt).trans b4
        go_wp2
        go_roundw
        case rel => exact ⟨k + 1, _, by omega, by go_num, rfl, HN2.out, HN, b0', b3', b4', hbw.trans (hb.mono hbw.size), Nat.lt_of_lt_of_le hgt hb.size⟩
        case measure => simp [intOf]; omega
      · have HN : Hid ((((S ++ ⟨#[44]⟩) ++ ks[k]'hkk) ++ ⟨#[58]⟩) ++ vtx (n + 1) (VT.mk ⟨KD, TX, NM, KS⟩ KIDS) = (⟨#[123]⟩ : ByteArray) ++ jn 44 ((pairL ks (kids.map (vtx (n + 1)))).take (k + 1))) := by
          show _ = _
          rw [← hs (by omega), HSS.out]
          all_goals simp only [bs_assoc]
        have HN2 := hide (hsz2 _ HN.out)
        have g1 : (0 : Int) < (k : Int) := by omega
        clear hz hs hsz2 hk0 hp HSS
        generalize vtx (n + 1) (VT.mk ⟨KD, TX, NM, KS⟩ KIDS) = TT at *
        generalize ks[k]'hkk = KK at *
        go_wp2_with fail
        refine (Hcon.out _ (Below.refl _ _)).mono ?_
        rintro e w1 ⟨rfl, hb⟩
        have b0' := (hb.cell (p := ⟨w.heap.size, 0, none⟩) hgt).trans b0
        have b3' := (hb.cell (p := ⟨w.heap.size, 3, none⟩) hgt).trans b3
        have b4' := (hb.cell (p := ⟨w.heap.size, 4, none⟩) hgt).trans b4
        go_wp2
        go_roundw
        case rel => exact ⟨k + 1, _, by omega, by go_num, rfl, HN2.out, HN, b0', b3', b4', hbw.trans (hb.mono hbw.size), Nat.lt_of_lt_of_le hgt hb.size⟩
        case measure => simp [intOf]; omega
    · have e : k = kids.length := by omega
      subst e
      have HF : Hid (S ++ ⟨#[125]⟩ = ((⟨#[123]⟩ : ByteArray) ++ jn 44 (pairL ks (kids.map (vtx n)))) ++ ⟨#[125]⟩) := by show _ = _; rw [Hpk2.out, HSS.out]
      clear HZ HS Hpk2 HPK hSP hps2 Hk Hrk Hi HSS
      go_wp2
      go_ret
      exact ⟨ret_str HF.out, hbw⟩
theorem print_any : ∀ n, psC n
  | 0 => fun v => nomatch v
  | n + 1 => print_of (print_any n)
end Go.Proofs.YtkdiinjkpmkcpaaDoor
