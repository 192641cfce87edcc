/- The texts of values, by the program: all kinds. -/
import Derived.Test.YtkdiinjkpmkcpaaDoorVTxI
import Derived.Test.YtkdiinjkpmkcpaaDoorOwnB
namespace Go.Proofs.YtkdiinjkpmkcpaaDoor
open Go.RowKit Go.BigFrame
set_option linter.unusedVariables false

theorem vtx1 {n : Nat} (tx : ByteArray) (nm : Int) (ks : List ByteArray) (kids : List (VT n)) : vtx (n + 1) (VT.mk ⟨1, tx, nm, ks⟩ kids) = (qB ++ escB tx) ++ qB := rfl
theorem vtx2 {n : Nat} (tx : ByteArray) (nm : Int) (ks : List ByteArray) (kids : List (VT n)) : vtx (n + 1) (VT.mk ⟨2, tx, nm, ks⟩ kids) = numB nm := rfl
theorem vtx3 {n : Nat} (tx : ByteArray) (nm : Int) (ks : List ByteArray) (kids : List (VT n)) : vtx (n + 1) (VT.mk ⟨3, tx, nm, ks⟩ kids) = if nm = 1 then ⟨#[116, 114, 117, 101]⟩ else ⟨#[102, 97, 108, 115, 101]⟩ := rfl
theorem vtx4 {n : Nat} (tx : ByteArray) (nm : Int) (ks : List ByteArray) (kids : List (VT n)) : vtx (n + 1) (VT.mk ⟨4, tx, nm, ks⟩ kids) = (⟨#[91]⟩ ++ jn 44 (kids.map (vtx n))) ++ ⟨#[93]⟩ := rfl
theorem vtx5 {n : Nat} (tx : ByteArray) (nm : Int) (ks : List ByteArray) (kids : List (VT n)) : vtx (n + 1) (VT.mk ⟨5, tx, nm, ks⟩ kids) = (⟨#[123]⟩ ++ jn 44 (pairL ks (kids.map (vtx n)))) ++ ⟨#[125]⟩ := rfl
/-- the first k parts have their keys -/
def mixL (ks ts : List ByteArray) (k : Nat) : List ByteArray := (pairL ks ts).take k ++ ts.drop k
theorem mixL_zero (ks ts : List ByteArray) : mixL ks ts 0 = ts := rfl
theorem mixL_all (ks ts : List ByteArray) (h : ks.length = ts.length) : mixL ks ts ks.length = pairL ks ts := by
  unfold mixL
  rw [List.take_of_length_le (by rw [pairL_len ks ts h]; exact Nat.le_refl _), List.drop_eq_nil_of_le (by omega), List.append_nil]
theorem mixL_len (ks ts : List ByteArray) (k : Nat) (h : ks.length = ts.length) (hk : k ≤ ts.length) : (mixL ks ts k).length = ts.length := by
  unfold mixL
  rw [List.length_append, List.length_take, List.length_drop, pairL_len ks ts h]; omega
theorem mixL_get (ks ts : List ByteArray) (k : Nat) (h : ks.length = ts.length) (hk : k < ts.length) : (mixL ks ts k)[k]? = some (ts[k]'hk) := by
  unfold mixL
  rw [List.getElem?_append_right (by rw [List.length_take]; omega), List.length_take, pairL_len ks ts h, List.getElem?_drop]
  rw [show k + (k - min k ks.length) = k by omega]
  exact List.getElem?_eq_getElem hk
theorem mixL_succ (ks ts : List ByteArray) (k : Nat) (h : ks.length = ts.length) (hk : k < ts.length) : (mixL ks ts k).set k (pairB (ks[k]'(by omega)) (ts[k]'hk)) = mixL ks ts (k + 1) := by
  apply List.ext_getElem?
  intro i
  have hp := pairL_len ks ts h
  unfold mixL
  rw [List.getElem?_set]
  have hl : ((pairL ks ts).take k ++ ts.drop k).length = ts.length := mixL_len ks ts k h (by omega)
  by_cases e : k = i
  · subst e
    rw [if_pos rfl, if_pos (by omega), List.getElem?_append_left (by rw [List.length_take]; omega), List.getElem?_take, if_pos (by omega), List.getElem?_eq_getElem (by omega), pairL_get ks ts k (by omega) (by omega) hk]
  · rw [if_neg e]
    rcases Nat.lt_or_ge i k with hi | hi
    · rw [List.getElem?_append_left (by rw [List.length_take]; omega), List.getElem?_append_left (by rw [List.length_take]; omega), List.getElem?_take, List.getElem?_take, if_pos hi, if_pos (by omega)]
    · rw [List.getElem?_append_right (by rw [List.length_take]; omega), List.getElem?_append_right (by rw [List.length_take]; omega), List.length_take, List.length_take, List.getElem?_drop, List.getElem?_drop]
      congr 1; omega
theorem strVs_set (l : List ByteArray) (k : Nat) (s : ByteArray) : (strVs l).set k (.string s) = strVs (l.set k s) := by unfold strVs; rw [List.map_set]
set_option maxRecDepth 100000 in
set_option maxHeartbeats 1600000 in
theorem textOfRight_of {m : Int} {n : Nat} (ih : txC m n) : txC m (n + 1) := by
  intro v X w hr harg ht
  obtain ⟨kd, tx, nm, ks, kids, rfl⟩ := VT.parts v
  obtain ⟨a, cap, a', cap', rfl, ⟨hrow, hf⟩, hkids, hf'⟩ := harg
  obtain ⟨hkd, htx, hkeys, hksz, hnm, hlen, hsz, hrk⟩ := hr
  simp only [VT.hd_mk, VT.kids_mk] at *
  have HA : Hid (∀ o, Below w.heap.size w (w.alloc o)) := fun o => (Below.refl _ _).alloc (Nat.le_refl _) _
  have Ht := hide ht
  by_cases k1 : kd = 1
  · subst k1
    rw [vtx1]
    have HC : Hid (∀ wx, Below w.heap.size w wx → Calls Tryd.prog 45 #[.string tx] wx fun e w' => e = .returned (.string (escB tx)) ∧ Below w.heap.size w w') := fun wx hx => (escaped_any tx m wx htx (Ht.out.below hx)).mono fun e w' h => ⟨h.1, hx.trans (h.2.mono hx.size)⟩
    have hes := escB_size tx
    have hes2 : (escB tx).size ≤ 200 := by omega
    clear hrow hkids hkeys hksz hsz hrk ih ht Ht hes
    generalize escB tx = R at *
    go_enter Tryd.func29, Tryd.ntmps29
    go_wp2_with fail
    refine (HC.out _ (HA.out _)).mono ?_
    rintro e w1 ⟨rfl, hb1⟩
    go_wp2
    go_ret
    exact ⟨rfl, hb1⟩
  by_cases k2 : kd = 2
  · subst k2
    rw [vtx2]
    have HC : Hid (∀ wx, Below w.heap.size w wx → Calls Tryd.prog 46 #[.int .i64 nm] wx fun e w' => e = .returned (.string (numB nm)) ∧ Below w.heap.size w w') := fun wx hx => (num_any nm m wx hnm.1 hnm.2 (Ht.out.below hx)).mono fun e w' h => ⟨h.1, hx.trans (h.2.mono hx.size)⟩
    clear hrow hkids hkeys hksz hsz hrk ih ht Ht
    generalize numB nm = R at *
    go_enter Tryd.func29, Tryd.ntmps29
    go_wp2_with fail
    refine (HC.out _ (HA.out _)).mono ?_
    rintro e w1 ⟨rfl, hb1⟩
    go_wp2
    go_ret
    exact ⟨rfl, hb1⟩
  by_cases k3 : kd = 3
  · subst k3
    rw [vtx3]
    obtain ⟨b, hb⟩ : ∃ b, (nm == 1) = b := ⟨_, rfl⟩
    have e3 : (if nm = 1 then (⟨#[116, 114, 117, 101]⟩ : ByteArray) else ⟨#[102, 97, 108, 115, 101]⟩) = if b then ⟨#[116, 114, 117, 101]⟩ else ⟨#[102, 97, 108, 115, 101]⟩ := by
      rw [← hb]; by_cases h : nm = 1
      · rw [if_pos h, if_pos (by simpa using h)]
      · rw [if_neg h, if_neg (by simpa using h)]
    rw [e3]
    have HC := hide (fun wx => fmtB_any b wx)
    clear hrow hkids hkeys hksz hsz hrk ih ht Ht e3
    generalize (if b then (⟨#[116, 114, 117, 101]⟩ : ByteArray) else ⟨#[102, 97, 108, 115, 101]⟩) = R at *
    go_enter Tryd.func29, Tryd.ntmps29
    go_wp2_with fail
    refine (HC.out _).mono ?_
    rintro e w1 ⟨rfl, rfl⟩
    go_wp2
    go_ret
    exact ⟨rfl, HA.out _⟩
  have hpl : (kids.map (vtx n)).length = kids.length := by simp
  have hps : ∀ p ∈ kids.map (vtx n), p.size ≤ 76800 := fun p hp => by obtain ⟨x, hx, rfl⟩ := List.mem_map.1 hp; exact hsz x hx
  have HK : Hid (∀ wx, Below w.heap.size w wx → Calls Tryd.prog 48 #[.agg #[.int .i64 kd, .string tx, .int .i64 nm, .slice a ks.length cap, .slice a' kids.length cap']] wx fun e w' => ∃ g c, e = .returned (.slice (some ⟨g, 0, none⟩) kids.length c) ∧ kids.length ≤ c ∧ Hid (w'.ownsRow wx.heap.size 9 1 (.slice (some ⟨g, 0, none⟩) kids.length c) kids.length (strVs (kids.map (vtx n)))) ∧ Below wx.heap.size wx w') :=
    fun wx hx => kidTexts_of ih kd tx nm ks kids a a' cap cap' wx hlen hrk (hkids.below hx) (Ht.out.below hx)
  by_cases k4 : kd = 4
  · subst k4
    rw [vtx4]
    have hj := jn_size_all 44 76800 _ hps
    rw [hpl] at hj
    have hj2 : (jn 44 (kids.map (vtx n))).size ≤ 24000000 := by have := Nat.mul_le_mul_left 76801 hlen; omega
    have HJ : Hid (∀ (g c : Nat) wx, kids.length ≤ c → strOf wx (some ⟨g, 0, none⟩) (kids.map (vtx n)) → Calls Tryd.prog 28 #[.slice (some ⟨g, 0, none⟩) kids.length c, .string ⟨#[44]⟩] wx fun e w' => e = .returned (.string (jn 44 (kids.map (vtx n)))) ∧ Below wx.heap.size wx w') := fun g c wx hc hs => by
      have := join_of (some ⟨g, 0, none⟩) c (kids.map (vtx n)) 44 wx (by omega) (by omega) (by omega) hs
      rw [hpl] at this; exact this
    have HS : Hid (∀ (wx : World) (B g c : Nat), wx.ownsRow B 9 1 (.slice (some ⟨g, 0, none⟩) kids.length c) kids.length (strVs (kids.map (vtx n))) → strOf wx (some ⟨g, 0, none⟩) (kids.map (vtx n))) := fun wx B g c h => strOf_owns h
    clear hrow hkids hkeys hksz hsz hrk ih ht Ht hps hj hpl
    generalize jn 44 (kids.map (vtx n)) = R at *
    generalize kids.map (vtx n) = PS at *
    go_enter Tryd.func29, Tryd.ntmps29
    go_wp2_with fail
    refine (HK.out _ (HA.out _)).mono ?_
    rintro e w1 ⟨g, c, rfl, hc, ho, hb1⟩
    go_wp2_with fail
    refine (HJ.out g c _ hc (HS.out _ _ _ _ ho.out)).mono ?_
    rintro e w2 ⟨rfl, hb2⟩
    go_wp2
    go_ret
    exact ⟨rfl, ((HA.out _).trans (hb1.mono (by simp))).trans (hb2.mono (by have := hb1.size; simp at this; omega))⟩
  have k5 : kd = 5 := by omega
  subst k5
  have hkl := hkeys rfl
  rw [vtx5]
  have hpp : (pairL ks (kids.map (vtx n))).length = kids.length := by rw [pairL_len _ _ (by rw [hpl]; exact hkl)]; exact hkl
  have hj := jn_size_all 44 76821 (pairL ks (kids.map (vtx n))) (fun p hp => by
    obtain ⟨i, hi, rfl⟩ := List.getElem_of_mem hp
    rw [pairL_get _ _ i hi (by omega) (by omega), pair_size]
    have h1 := hksz _ (List.getElem_mem (by omega : i < ks.length))
    have h2 := hps _ (List.getElem_mem (by omega : i < (kids.map (vtx n)).length))
    omega)
  rw [hpp] at hj
  have hj2 : (jn 44 (pairL ks (kids.map (vtx n)))).size ≤ 24000000 := by have := Nat.mul_le_mul_left 76822 hlen; omega
  have HJ : Hid (∀ (g c : Nat) wx, kids.length ≤ c → strOf wx (some ⟨g, 0, none⟩) (pairL ks (kids.map (vtx n))) → Calls Tryd.prog 28 #[.slice (some ⟨g, 0, none⟩) kids.length c, .string ⟨#[44]⟩] wx fun e w' => e = .returned (.string (jn 44 (pairL ks (kids.map (vtx n))))) ∧ Below wx.heap.size wx w') := fun g c wx hc hs => by
    have := join_of (some ⟨g, 0, none⟩) c (pairL ks (kids.map (vtx n))) 44 wx (by omega) (by omega) (by omega) hs
    rw [hpp] at this; exact this
  have Hlen : Hid (ks.length = (kids.map (vtx n)).length) := by show _ = _; rw [hpl]; exact hkl
  have Hps := hide hps
  have Hksz := hide hksz
  have Hr := hide hrow.of
  have hL : kids.length ≤ 300 := hlen
  obtain ⟨L, hLL⟩ : ∃ L, kids.length = L := ⟨_, rfl⟩
  have HP : Hid ((kids.map (vtx n)).length = L) := hpl.trans hLL
  rw [hLL] at hkl HK HJ hL ⊢
  clear hrow hkids hkeys hksz hsz hrk ih ht Ht hps hj hpl hpp hlen hLL
  generalize hR : jn 44 (pairL ks (kids.map (vtx n))) = R at *
  generalize kids.map (vtx n) = PS at *
  clear hR
  rw [hkl] at HK ⊢
  go_enter Tryd.func29, Tryd.ntmps29
  go_wp2_with fail
  refine (HK.out _ (HA.out _)).mono ?_
  rintro e w1 ⟨g, c, rfl, hc, ho, hb1⟩
  have p3 : w1.cell? ⟨w.heap.size, 3, none⟩ = some (.slice a L cap) := (hb1.cell (p := ⟨w.heap.size, 3, none⟩) (by simp)).trans (by simp [go_sem])
  have hbw1 : Below w.heap.size w w1 := (HA.out _).trans (hb1.mono (by simp))
  have Ho := hide (owns_mono ho.out (B' := w.heap.size) (by simp))
  clear hb1 ho HK
  go_wp2
  go_loopw [38] (fun i wr => ∃ (k : Nat), k ≤ L ∧ i = .int .i64 k ∧ Hid (wr.ownsRow w.heap.size 9 1 (.slice (some ⟨g, 0, none⟩) L c) L (strVs (mixL ks PS k))) ∧ Below w.heap.size w wr) (fun i _ => L - (intOf i).toNat)
  case atStart => exact ⟨0, Nat.zero_le _, rfl, by rw [mixL_zero]; exact Ho.out, hbw1⟩
  case round =>
    clear Ho p3 hbw1
    obtain ⟨k, hk, rfl, How, hbw⟩ := hrel
    by_cases hlt : k < L
    · obtain ⟨b, off, rfl, hat⟩ := Hr.out (by omega)
      have hkk : k < ks.length := by omega
      have hkp : k < PS.length := by have := HP.out; omega
      have hbb : b < w.heap.size := World.block_lt_of_cell? _ _ (hat k hkk)
      have c0 := (hbw.cell (p := ⟨b, off + k, none⟩) hbb).trans (hat k hkk)
      have hml := mixL_get ks PS k Hlen.out hkp
      have q0 : wr.cell? ⟨g, k, none⟩ = some (.string (PS[k]'hkp)) := (How.out.cellAt _ (by omega)).trans (by unfold strVs; rw [List.getElem?_map, hml]; rfl)
      have f0 := How.out.frozenAt k
      have hz1 := Hksz.out _ (List.getElem_mem hkk)
      have hz2 := Hps.out _ (List.getElem_mem hkp)
      have S1 : Hid ((wr.setCell ⟨g, k, none⟩ (.string ((ks[k]'hkk ++ ⟨#[58]⟩) ++ PS[k]'hkp))).ownsRow w.heap.size 9 1 (.slice (some ⟨g, 0, none⟩) L c) L (strVs (mixL ks PS (k + 1)))) := by
        have h := (How.out.stored k (.string ((ks[k]'hkk ++ ⟨#[58]⟩) ++ PS[k]'hkp))).1
        rw [strVs_set] at h
        rw [← mixL_succ ks PS k Hlen.out hkp]
        exact h
      have hgb := (owns_blk How.out rfl).1
      clear hat hml How
      generalize ks[k]'hkk = K at *
      generalize PS[k]'hkp = T at *
      go_wp2
      go_roundw
      case rel => exact ⟨k + 1, by omega, by go_num, S1, hbw.setCell (p := ⟨g, k, none⟩) hgb _⟩
      case measure => simp [intOf]; omega
    · have e : k = L := by omega
      subst e
      have ho2 := How.out
      have hall : mixL ks PS k = pairL ks PS := by rw [← hkl]; exact mixL_all ks PS Hlen.out
      rw [hall] at ho2
      have Hs := hide (strOf_owns ho2)
      clear How hall ho2 Hr Hps Hksz
      go_wp2_with fail
      refine (HJ.out g c _ hc Hs.out).mono ?_
      rintro e w3 ⟨rfl, hb3⟩
      go_wp2
      go_ret
      exact ⟨rfl, hbw.trans (hb3.mono hbw.size)⟩
theorem textOfRight_any (m : Int) : ∀ n, txC m n
  | 0 => fun v => nomatch v
  | n + 1 => textOfRight_of (textOfRight_any m n)
end Go.Proofs.YtkdiinjkpmkcpaaDoor
