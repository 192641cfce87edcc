/- Shares, drawn: as they are divided, and with something moved. -/
import Derived.Test.YtidjjgiecaoboaaDrwE
import Derived.Test.YtidjjgiecaoboaaShrR
namespace Go.Proofs.Ytidjjgiecaoboaa
open Go.RowKit Go.BigFrame
set_option linter.unusedVariables false
theorem rowIs_Out {w w' : World} {d b : Nat} {t : TypeId} {n : Nat} {f : Nat → Value} (h : w.rowIs b t n f) (ho : Out d (d + 1) w w') (hb : b ≠ d) : w'.rowIs b t n f := h.of_block (ho.block b h.lt (by omega))
theorem ir_uS2 {w : World} {base lo hi : Nat} {v : Value} {l : List Int} (h : IR w base v l) (h1 : lo ≤ base) (h2 : w.heap.size ≤ hi) : uS w lo hi 1 l.length (ofInts l) v :=
  h.oS.u (fun s hs => by
    obtain ⟨g, h3, h4, h5⟩ := h.2
    unfold blkOf at hs
    rw [h3] at hs
    have : s = g := by simpa using hs
    omega)
theorem uS_Out {w w' : World} {lo hi d : Nat} {k n : Nat} {cs : UD} {c : Value} (h : uS w lo hi k n cs c) (ho : Out d (d + 1) w w') (hd : d + 1 ≤ lo) : uS w' lo hi k n cs c :=
  h.out (⟨ho.os, ho.tape, ho.output, ho.size, fun j hj hr => ho.block j hj hr⟩ : OutR d (d + 1) w w') (.inr hd)
theorem uS_put {w : World} {lo hi b x : Nat} {y : Value} {k n : Nat} {cs : UD} {c : Value} (h : uS w lo hi k n cs c) (hb : hi ≤ b) : uS (w.setCell ⟨b, x, none⟩ y) lo hi k n cs c :=
  h.kp (fun g o v h1 h2 h3 => by
    rw [World.cell?_setCell_other _ _ _ _ (fun e => by injection e; omega)]
    exact h3)
/-- numbers in range, as a row -/
theorem ofFn_good {n k : Nat} {f : Nat → Int} (hk : n ≤ k) (h : ∀ j, j < n → -9223372036854775808 ≤ f j ∧ f j ≤ 9223372036854775807) : goodI (ofFn n f) k := ⟨by rw [ofFn_len]; exact hk, fun x hx => by
  obtain ⟨j, hj, e⟩ := List.mem_iff_getElem.1 hx
  rw [ofFn_get] at e
  rw [ofFn_len] at hj
  rw [← e]; exact h j hj⟩
set_option maxRecDepth 100000 in
set_option maxHeartbeats 3200000 in
theorem drawFair_any (n cap : Nat) (a : Option Addr) (w : World) (hn : n ≤ 1048576) (hc : codeAll w a n) :
    Calls Try.prog 13 #[.slice a n cap] w fun e w' => ∃ (z : Int) (v u s : Value) (ws cs sh : List Int), e = .returned (.tuple #[.int .i64 z, v, u, s]) ∧ Hid (-9223372036854775808 ≤ z ∧ z ≤ 9223372036854775807) ∧ Hid (goodI ws 64) ∧ Hid (goodI cs 64) ∧ Hid (goodI sh 64) ∧
      Hid (uS w' 0 w'.heap.size 1 ws.length (ofInts ws) v) ∧ Hid (uS w' 0 w'.heap.size 1 cs.length (ofInts cs) u) ∧ Hid (uS w' 0 w'.heap.size 1 sh.length (ofInts sh) s) ∧ Hid (Below w.heap.size w w') := by
  have Hc := hide hc
  clear hc
  go_enter Try.func13, Try.ntmps13
  go_wp2_with fail
  refine (l1New_any n cap a _ hn Hc.out.at).mono ?_
  rintro e w1 ⟨d, hd, rfl, hc1, hb1⟩
  have B1 := hide hb1
  have Hd := hide hc1.out.lt
  clear hb1 Hc
  go_wp2_with fail
  refine (l1Size_any n cap 8 a _ hn (by omega) (by omega)).mono ?_
  rintro e w2 ⟨k, ⟨hk0, hk1⟩, rfl, rfl⟩
  go_wp2_with fail
  refine (l6Draw_any d n cap k a _ hn hk0 (by omega) hc1.out).mono ?_
  rintro e w3 ⟨z, v, u, ws, cs, rfl, hz, Gw, Gc, V, U, NE, C, O⟩
  have hd3 : d < w3.heap.size := by have := O.out.size; have := Hd.out; omega
  have T1 := hide (Gw.out.ty (by omega))
  have T2 := hide (Gc.out.ty (by omega))
  obtain ⟨q, hq⟩ : ∃ q : List Int, (¬ rightP z ws cs → q = []) ∧ (rightP z ws cs → q = divL z ws cs) := by
    by_cases h : rightP z ws cs
    · exact ⟨_, fun h' => (h' h).elim, fun _ => rfl⟩
    · exact ⟨_, fun _ => rfl, fun h' => (h h').elim⟩
  obtain ⟨hqk, hql⟩ := div_small hq
  have hqb : ∀ j, j < q.length → 0 ≤ gI q j ∧ gI q j ≤ 10000 := fun j hj => by
    by_cases h : rightP z ws cs
    · have e := hq.2 h
      subst e
      have hl : (divL z ws cs).length = ws.length := by unfold divL; rw [ofFn_len]
      rw [hl] at hj
      unfold rightP at h
      have hb := divF_bd (L := ws.length) (w := gI ws) (c := gI cs) (gI_nn (fun i hi => (h.2 i hi).1.1)) z.toNat z (fun _ => 0) (fun j hj => ⟨Int.le_refl _, (h.2 j hj).2.1⟩) j hj
      have hc := (h.2 j hj).2.2
      rw [show gI (divL z ws cs) j = divF ws.length (gI ws) (gI cs) z.toNat z (fun _ => 0) j by unfold divL; rw [gI_ofFn2 hj]]
      omega
    · rw [hq.1 h] at hj; cases hj
  have HDV := hide (sDivR_any z ws.length cs.length (ofInts ws) (ofInts cs) v u 0 w3.heap.size 0 w3.heap.size w3 T1.out T2.out V.out.uS U.out.uS q (by rw [intL_of, intL_of]; exact hq))
  have HQB := hide hqb
  have W64 := hide (Gw.out.mono (show 13 ≤ 64 by omega))
  have C64 := hide (Gc.out.mono (show 13 ≤ 64 by omega))
  clear Gw Gc T1 T2 hq hqk hqb NE hc1
  go_wp2_with fail
  refine HDV.out.mono ?_
  rintro e w4 ⟨b, rfl, hr, hb, hb4⟩
  have R4 := hide hr
  have C4 := hide (C.out.later hb4)
  have V4 := hide ((ir_uS2 V.out (lo := d + 1) (hi := b) Hd.out hb).below hb4)
  have U4 := hide ((ir_uS2 U.out (lo := d + 1) (hi := b) Hd.out hb).below hb4)
  have B4 : Hid (Below w.heap.size w w4) := (B1.out.trans (O.out.below hd B1.out.size)).trans (hb4.mono (by have := B1.out.size; have := O.out.size; omega))
  have hbd : b ≠ d := by omega
  have hw4 : w.heap.size ≤ w4.heap.size := B4.out.size
  clear hr hb4 HDV V U C O B1
  have FIN : Hid (∀ (wx : World) (f : Nat → Int), wx.rowIs b 3 q.length (fun j => .int .i64 (f j)) → (∀ j, j < q.length → -9223372036854775808 ≤ f j ∧ f j ≤ 9223372036854775807) → ∃ sh : List Int, Hid (goodI sh 64) ∧ Hid (uS wx 0 wx.heap.size 1 sh.length (ofInts sh) (.slice (some ⟨b, 0, none⟩) q.length q.length))) := fun wx f h hf => by
    refine ⟨ofFn q.length f, ofFn_good hql hf, ?_⟩
    rw [ofFn_len]
    exact rowIs_uS h (Nat.zero_le _) h.lt
  by_cases h1 : 1 < q.length
  rotate_left
  · obtain ⟨sh, hg, hu⟩ := FIN.out w4 _ R4.out (fun j hj => by have := HQB.out j hj; omega)
    have h1' : decide ((q.length : Int) > 1) = false := decide_eq_false (by omega)
    have V5 := hide (V4.out.clip.mono (Nat.zero_le _) (Nat.le_refl _))
    have U5 := hide (U4.out.clip.mono (Nat.zero_le _) (Nat.le_refl _))
    clear FIN HQB R4 C4 V4 U4
    go_wp2
    exact bodyPost_ret (v := .tuple #[.int .i64 z, v, u, .slice (some ⟨b, 0, none⟩) q.length q.length]) (by simp [results, Try.results13, go_sem]) rfl ⟨_, _, _, _, _, _, sh, rfl, hz, W64, C64, hg, V5, U5, hu, B4⟩
  have h1' : decide ((q.length : Int) > 1) = true := decide_eq_true (by omega)
  go_wp2_with fail
  refine (l1Once_any d n cap 2 a _ hn (by omega) C4.out).mono ?_
  rintro e w5 ⟨o, rfl, C5, ho5⟩
  have R5 := hide (rowIs_Out R4.out ho5 hbd)
  have V5 := hide (uS_Out V4.out ho5 (Nat.le_refl _))
  have U5 := hide (uS_Out U4.out ho5 (Nat.le_refl _))
  have B5 : Hid (Below w.heap.size w w5) := B4.out.trans (ho5.below hd B4.out.size)
  clear ho5 R4 V4 U4 C4 B4
  cases o
  · obtain ⟨sh, hg, hu⟩ := FIN.out w5 _ R5.out (fun j hj => by have := HQB.out j hj; omega)
    have V6 := hide (V5.out.clip.mono (Nat.zero_le _) (Nat.le_refl _))
    have U6 := hide (U5.out.clip.mono (Nat.zero_le _) (Nat.le_refl _))
    clear FIN HQB R5 C5 V5 U5
    go_wp2
    exact bodyPost_ret (v := .tuple #[.int .i64 z, v, u, .slice (some ⟨b, 0, none⟩) q.length q.length]) (by simp [results, Try.results13, go_sem]) rfl ⟨_, _, _, _, _, _, sh, rfl, hz, W64, C64, hg, V6, U6, hu, B5⟩
  go_wp2_with fail
  refine (l1Below_any d n cap q.length a _ hn (by omega) C5.out).mono ?_
  rintro e w6 ⟨i, hi, rfl, C6, ho6⟩
  have hi' := hi (by omega)
  have R6 := hide (rowIs_Out R5.out ho6 hbd)
  have V6 := hide (uS_Out V5.out ho6 (Nat.le_refl _))
  have U6 := hide (uS_Out U5.out ho6 (Nat.le_refl _))
  have B6 : Hid (Below w.heap.size w w6) := B5.out.trans (ho6.below hd B5.out.size)
  clear ho6 R5 V5 U5 C5 B5 hi
  go_wp2_with fail
  refine (l1Below_any d n cap q.length a _ hn (by omega) C6.out).mono ?_
  rintro e w7 ⟨j, hj, rfl, C7, ho7⟩
  have hj' := hj (by omega)
  have R7 := hide (rowIs_Out R6.out ho7 hbd)
  have V7 := hide (uS_Out V6.out ho7 (Nat.le_refl _))
  have U7 := hide (uS_Out U6.out ho7 (Nat.le_refl _))
  have B7 : Hid (Below w.heap.size w w7) := B6.out.trans (ho7.below hd B6.out.size)
  clear ho7 R6 V6 U6 C6 B6 hj
  go_wp2_with fail
  refine (l1Below_any d n cap 3 a _ hn (by omega) C7.out).mono ?_
  rintro e w8 ⟨x, hx, rfl, C8, ho8⟩
  have hx' := hx (by omega)
  have R8 := hide (rowIs_Out R7.out ho8 hbd)
  have V8 := hide (uS_Out V7.out ho8 (Nat.le_refl _))
  have U8 := hide (uS_Out U7.out ho8 (Nat.le_refl _))
  have B8 : Hid (Below w.heap.size w w8) := B7.out.trans (ho8.below hd B7.out.size)
  clear ho8 R7 V7 U7 C7 B7 C8 hx
  have hbi := HQB.out i hi'
  have hbj := HQB.out j hj'
  have x1 := R8.out.cell hi'
  have f1 := R8.out.frozen i
  have R9 : Hid (World.rowIs (w8.setCell ⟨b, i, none⟩ (.int .i64 (gI q i + (1 + (x : Int))))) b 3 q.length (fun p => .int .i64 (if p = i then gI q i + (1 + (x : Int)) else gI q p))) := (R8.out.set i _).congr (fun p _ => by split <;> rfl)
  have B9 : Hid (Below w.heap.size w (w8.setCell ⟨b, i, none⟩ (.int .i64 (gI q i + (1 + (x : Int)))))) := B8.out.setCell (by show w.heap.size ≤ b; omega) _
  have V9 : Hid (∀ y y' t, uS ((w8.setCell ⟨b, i, none⟩ y).setCell ⟨b, t, none⟩ y') 0 ((w8.setCell ⟨b, i, none⟩ y).setCell ⟨b, t, none⟩ y').heap.size 1 ws.length (ofInts ws) v) := fun y y' t => ((uS_put (uS_put V8.out (Nat.le_refl _)) (Nat.le_refl _)).clip).mono (Nat.zero_le _) (Nat.le_refl _)
  have U9 : Hid (∀ y y' t, uS ((w8.setCell ⟨b, i, none⟩ y).setCell ⟨b, t, none⟩ y') 0 ((w8.setCell ⟨b, i, none⟩ y).setCell ⟨b, t, none⟩ y').heap.size 1 cs.length (ofInts cs) u) := fun y y' t => ((uS_put (uS_put U8.out (Nat.le_refl _)) (Nat.le_refl _)).clip).mono (Nat.zero_le _) (Nat.le_refl _)
  by_cases hij : j = i
  · subst hij
    obtain ⟨sh, hg, hu⟩ := FIN.out ((w8.setCell ⟨b, j, none⟩ (.int .i64 (gI q j + (1 + (x : Int))))).setCell ⟨b, j, none⟩ (.int .i64 (gI q j))) (fun p => if p = j then gI q j else gI q p) ((R9.out.set j _).congr (fun p _ => by
      by_cases e : p = j
      · rw [if_pos e, if_pos e]
      · rw [if_neg e, if_neg e, if_neg e])) (fun p hp => by
      have := HQB.out p hp
      show _ ≤ (if _ then _ else _) ∧ (if _ then _ else _) ≤ _
      split <;> omega)
    have B10 : Hid (∀ y, Below w.heap.size w ((w8.setCell ⟨b, j, none⟩ (.int .i64 (gI q j + (1 + (x : Int))))).setCell ⟨b, j, none⟩ y)) := fun y => B9.out.setCell (by show w.heap.size ≤ b; omega) _
    have V10 := hide (V9.out (.int .i64 (gI q j + (1 + (x : Int)))) (.int .i64 (gI q j)) j)
    have U10 := hide (U9.out (.int .i64 (gI q j + (1 + (x : Int)))) (.int .i64 (gI q j)) j)
    have B11 := hide (B10.out (.int .i64 (gI q j)))
    clear FIN HQB R8 R9 B8 B9 V8 U8 V9 U9 B10
    generalize gI q j = X at *
    go_wp2
    exact bodyPost_ret (v := .tuple #[.int .i64 z, v, u, .slice (some ⟨b, 0, none⟩) q.length q.length]) (by simp [results, Try.results13, go_sem]) rfl ⟨_, _, _, _, _, _, sh, rfl, hz, W64, C64, hg, V10, U10, hu, B11⟩
  · obtain ⟨sh, hg, hu⟩ := FIN.out ((w8.setCell ⟨b, i, none⟩ (.int .i64 (gI q i + (1 + (x : Int))))).setCell ⟨b, j, none⟩ (.int .i64 (gI q j - (1 + (x : Int))))) (fun p => if p = j then gI q j - (1 + (x : Int)) else if p = i then gI q i + (1 + (x : Int)) else gI q p) ((R9.out.set j _).congr (fun p _ => by
      by_cases e : p = j
      · rw [if_pos e, if_pos e]
      · rw [if_neg e, if_neg e])) (fun p hp => by
      have := HQB.out p hp
      by_cases e : p = j
      · simp only [if_pos e]; omega
      · by_cases e2 : p = i
        · simp only [if_neg e, if_pos e2]; omega
        · simp only [if_neg e, if_neg e2]; omega)
    have x2 := R8.out.cell hj'
    have hne : (⟨b, i, none⟩ : Addr) ≠ ⟨b, j, none⟩ := fun e => hij (by injection e; omega)
    have x3 : (w8.setCell ⟨b, i, none⟩ (.int .i64 (gI q i + (1 + (x : Int))))).cell? ⟨b, j, none⟩ = some (.int .i64 (gI q j)) := by rw [World.cell?_setCell_other _ _ _ _ hne]; exact x2
    have f2 : (w8.setCell ⟨b, i, none⟩ (.int .i64 (gI q i + (1 + (x : Int))))).frozen? ⟨b, j, none⟩ = false := by rw [World.frozen?_setCell]; exact R8.out.frozen j
    have V10 := hide (V9.out (.int .i64 (gI q i + (1 + (x : Int)))) (.int .i64 (gI q j - (1 + (x : Int)))) j)
    have U10 := hide (U9.out (.int .i64 (gI q i + (1 + (x : Int)))) (.int .i64 (gI q j - (1 + (x : Int)))) j)
    have B11 : Hid (Below w.heap.size w ((w8.setCell ⟨b, i, none⟩ (.int .i64 (gI q i + (1 + (x : Int))))).setCell ⟨b, j, none⟩ (.int .i64 (gI q j - (1 + (x : Int)))))) := B9.out.setCell (by show w.heap.size ≤ b; omega) _
    have f3 := R8.out.frozen j
    clear FIN HQB R8 R9 B8 B9 V8 U8 V9 U9 hne
    generalize gI q i = X at *
    generalize gI q j = Y at *
    go_wp2
    exact bodyPost_ret (v := .tuple #[.int .i64 z, v, u, .slice (some ⟨b, 0, none⟩) q.length q.length]) (by simp [results, Try.results13, go_sem]) rfl ⟨_, _, _, _, _, _, sh, rfl, hz, W64, C64, hg, V10, U10, hu, B11⟩
end Go.Proofs.Ytidjjgiecaoboaa
