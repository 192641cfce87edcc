/- impl.Divide. -/
import Derived.Test.YtidjjgiecaoboaaDvdH
namespace Go.Proofs.Ytidjjgiecaoboaa
open Go.RowKit Go.BigFrame
set_option linter.unusedVariables false
theorem open_none {L : Nat} {w c out : Nat → Int} : (opensL L (openF L w c out)).length = 0 ↔ ¬ 0 < openS L w c out := by
  have e : openS L w c out = sumL (opensL L (openF L w c out)) w := (sumL_opens _ _ _).symm
  have hp : ∀ p ∈ opensL L (openF L w c out), 0 < w p := fun p hp => by
    have := (mem_opensL.1 hp).2
    unfold openF at this
    rw [decide_eq_true_eq] at this
    exact this.2.1
  rw [e]
  generalize opensL L (openF L w c out) = l at *
  cases l with
  | nil => simp [sumL]
  | cons p r =>
    have h1 := hp p (by simp)
    have h2 : 0 ≤ sumL r w := by
      clear e
      have : ∀ q ∈ r, 0 < w q := fun q hq => hp q (by simp [hq])
      clear hp
      induction r with
      | nil => exact Int.le_refl _
      | cons q r ih =>
        have h3 := this q (by simp)
        have h4 := ih (fun x hx => this x (by simp [hx]))
        show 0 ≤ w q + sumL r w
        omega
    constructor
    · intro h; cases h
    · intro h; exact (h (by show 0 < w p + sumL r w; omega)).elim
/-- what a round of the program's does is what a round does -/
theorem round_eq {L : Nat} {n : Int} {w c out : Nat → Int} (hn : 0 < n) (hw : ∀ i, 0 ≤ w i) (ho : ∀ i, i < L → 0 ≤ out i ∧ out i ≤ c i) (hs : 0 < openS L w c out) {l : List Nat} (hl : l.Perm (opensL L (openF L w c out))) :
    sumL l (fun p => wantsF L n (openS L w c out) w (openF L w c out) p - minG c out (wantsF L n (openS L w c out) w (openF L w c out)) p) = n - sumTo (getsF L n w c out) L ∧
    ∀ i, i < L → shareL l out (minG c out (wantsF L n (openS L w c out) w (openF L w c out))) i = out i + getsF L n w c out i := by
  have hG : ∀ i, minG c out (wantsF L n (openS L w c out) w (openF L w c out)) i = getsF L n w c out i := fun i => rfl
  have h0 : ∀ i, i < L → openF L w c out i = false → getsF L n w c out i = 0 ∧ wantsF L n (openS L w c out) w (openF L w c out) i = 0 := fun i hi hf => by
    have h1 := (wants_bd (L := L) (m := n) (O := openF L w c out) (w := w) (by omega) hw hs rfl i).2.2 hf
    refine ⟨?_, h1⟩
    unfold getsF
    rw [h1]
    have := ho i hi
    rw [if_neg (by omega)]
  refine ⟨?_, fun i hi => ?_⟩
  · rw [sumL_perm hl, sumL_opens]
    have e1 : sumTo (onO (openF L w c out) (fun p => wantsF L n (openS L w c out) w (openF L w c out) p - minG c out (wantsF L n (openS L w c out) w (openF L w c out)) p)) L = sumTo (fun p => wantsF L n (openS L w c out) w (openF L w c out) p - getsF L n w c out p) L := sumTo_congr L (fun i hi => by
      unfold onO
      cases hf : openF L w c out i
      · rw [if_neg (by decide)]
        obtain ⟨h1, h2⟩ := h0 i hi hf
        rw [h1, h2]; rfl
      · rw [if_pos rfl]; rfl)
    rw [e1]
    have h2 := sumTo_add (fun p => wantsF L n (openS L w c out) w (openF L w c out) p - getsF L n w c out p) (getsF L n w c out) L
    have h3 := wants_sum (m := n) (w := w) (O := openF L w c out) (L := L) (s := openS L w c out) hs rfl
    have h4 : sumTo (fun i => (wantsF L n (openS L w c out) w (openF L w c out) i - getsF L n w c out i) + getsF L n w c out i) L = sumTo (wantsF L n (openS L w c out) w (openF L w c out)) L := sumTo_congr L (fun i _ => by omega)
    rw [h4, h3] at h2
    omega
  · by_cases hm : i ∈ l
    · rw [shareL_in hm]; rfl
    · rw [shareL_not hm]
      have hf : openF L w c out i = false := by
        cases hf : openF L w c out i
        · rfl
        · exact (hm (hl.mem_iff.2 (mem_opensL.2 ⟨hi, hf⟩))).elim
      rw [(h0 i hi hf).1]; omega
theorem rowIs_oS {w : World} {base b n : Nat} {t : TypeId} {f : Nat → Int} (h : w.rowIs b t n (fun j => .int .i64 (f j))) (hn : n ≤ maxLen) (hb : base ≤ b) : oS w 1 n (ofInts (ofFn n f)) (.slice (some ⟨b, 0, none⟩) n n) [b] ∧ own2 [b] base w.heap.size := by
  have hlt := h.lt
  obtain ⟨c, h1, h2, h3⟩ := h
  refine ⟨⟨by decide, t, (ofFn n f).map (Value.int .i64), [], ⟨by rw [List.length_map, ofFn_len, Nat.mul_one], .inr ⟨b, n, c, rfl, Nat.zero_le _, h1, Nat.le_refl _, hn, by rw [h2, Nat.mul_one], ?_⟩⟩, ofInts_own _, rfl⟩, by simp, fun s hs => by simp at hs; omega⟩
  apply List.ext_getElem?
  intro j
  rw [Nat.mul_one, List.getElem?_take]
  by_cases hj : j < n
  · rw [if_pos hj, Array.getElem?_toList, h3 j hj, List.getElem?_map, List.getElem?_eq_getElem (by rw [ofFn_len]; exact hj), ofFn_get]
    rfl
  · rw [if_neg hj, List.getElem?_eq_none (by rw [List.length_map, ofFn_len]; omega)]
theorem lit_oS (w : World) (t : TypeId) : oS (w.alloc (.cells #[] t)) 1 0 (ofInts []) (.slice (some ⟨w.heap.size, 0, none⟩) 0 0) [w.heap.size] ∧ own2 [w.heap.size] w.heap.size (w.alloc (.cells #[] t)).heap.size :=
  ⟨⟨by decide, t, [], [], World.ownsRow_lit w #[] 0 (Nat.zero_le _) (by decide) rfl, ⟨rfl, rfl⟩, rfl⟩, by simp, fun s hs => by simp at hs; subst hs; simp⟩
set_option maxRecDepth 20000 in
set_option maxHeartbeats 6400000 in
theorem iDivide_any (n : Int) (k1 k2 : Nat) (c1 c2 : UD) (v1 v2 : Value) (lo hi lo' hi' : Nat) (w : World) (hn0 : inK .i64 n) (ht1 : tyS 1 k1 c1 1) (ht2 : tyS 1 k2 c2 1) (hx1 : uS w lo hi 1 k1 c1 v1) (hx2 : uS w lo' hi' 1 k2 c2 v2) (z : List Int) (hz : (¬ rightP n (intL c1) (intL c2) → z = []) ∧ (rightP n (intL c1) (intL c2) → z = divL n (intL c1) (intL c2))) :
    Calls Try.prog 10 #[.int .i64 n, v1, v2] w fun e w' => ∃ c S, e = .returned c ∧ oS w' 1 z.length (ofInts z) c S ∧ own2 S w.heap.size w'.heap.size ∧ Below w.heap.size w w' := by
  obtain ⟨r, hr⟩ := bool_iff (rightP n (intL c1) (intL c2))
  have HR := uhide (divisionOk_any n k1 k2 c1 c2 v1 v2 lo hi lo' hi' w r ht1 ht2 hx1 hx2 hr)
  have hl1 := intL_len ht1
  have hl2 := intL_len ht2
  clear hn0
  have HA : Hid (∀ o, Below w.heap.size w (w.alloc o)) := fun o => (Below.refl _ _).alloc (Nat.le_refl _) _
  cases r
  · have hz1 := hz.1 (fun h => by have := hr.2 h; cases this)
    subst hz1
    obtain ⟨a1, p1, rfl, hy1⟩ := hx1
    obtain ⟨a2, p2, rfl, hy2⟩ := hx2
    clear hy1 hy2 ht1 ht2 hl1 hl2 hr hz
    go_enter Try.func10, Try.ntmps10
    go_wp2_with fail
    refine HR.out.mono ?_
    rintro e w1 ⟨rfl, rfl⟩
    go_wp2
    go_ret
    first
      | exact ⟨_, _, rfl, (lit_oS _ _).1, (lit_oS _ _).2, HA.out _⟩
      | exact ⟨_, rfl, _, (lit_oS _ _).1, (lit_oS _ _).2, HA.out _⟩
  have hrp := hr.1 rfl
  have hz1 := hz.2 hrp
  unfold divL at hz1
  rw [hl1] at hz1
  unfold rightP at hrp
  rw [hl1, hl2] at hrp
  obtain ⟨⟨hn, h64, hk⟩, hg⟩ := hrp
  have HG : Hid (∀ i, i < k1 → goodAt (intL c1) (intL c2) i) := hg
  subst hk
  have HZ := uhide hz1
  have HWN : Hid (∀ i, 0 ≤ gI (intL c1) i) := gI_nn (fun i hi => (HG.out i (by rw [hl1] at hi; exact hi)).1.1)
  have HC : Hid (∀ i, i < k1 → 0 ≤ (gI (intL c2)) i ∧ (gI (intL c2)) i ≤ 10000) := fun i hi => (HG.out i hi).2
  have HWB : Hid (∀ i, i < k1 → 0 ≤ (gI (intL c1)) i ∧ (gI (intL c1)) i ≤ 1000) := fun i hi => (HG.out i hi).1
  have hx2c := hx2.clip
  obtain ⟨a1, p1, rfl, hy1⟩ := hx1
  obtain ⟨a2, p2, rfl, hy2⟩ := hx2
  have H1 : Hid (uS w lo hi 1 k1 c1 (.slice a1 k1 p1)) := ⟨_, _, rfl, hy1⟩
  have H2 : Hid (uS w lo' w.heap.size 1 k1 c2 (.slice a2 k1 p2)) := hx2c
  have T1 := uhide ht1
  have T2 := uhide ht2
  generalize hRES : divF k1 (gI (intL c1)) (gI (intL c2)) n.toNat n (fun _ => 0) = RES at HZ
  have HD : Hid (divF k1 (gI (intL c1)) (gI (intL c2)) n.toNat n (fun _ => 0) = RES) := hRES
  have HO0 : Hid (∀ i, i < k1 → 0 ≤ (fun _ => 0 : Nat → Int) i ∧ (fun _ => 0 : Nat → Int) i ≤ (gI (intL c2)) i) := fun i hi => ⟨Int.le_refl _, (HC.out i hi).1⟩
  have R0 : Hid (World.rowIs (w.alloc (.cells (madeCells #[.int .i64 0] k1) 3)) w.heap.size 3 k1 (fun j => .int .i64 ((fun _ => 0 : Nat → Int) j))) := World.rowIs_made w (.int .i64 0) k1 3
  have HB0 : Hid (Below w.heap.size w (w.alloc (.cells (madeCells #[.int .i64 0] k1) 3))) := (Below.refl _ _).alloc (Nat.le_refl _) _
  have hmk := run_make_row' (P := Try.prog) 24 3 (.int .i64 0) 8 Try.underlying24 Try.infoDInt rfl .i64 .i64 k1 (by omega) (by omega)
  clear hz hz1 hr hg hl1 hl2 hy1 hy2 ht1 ht2 hRES hx2c HG
  go_enter Try.func10, Try.ntmps10
  go_wp2_with fail
  refine HR.out.mono ?_
  rintro e w1 ⟨rfl, rfl⟩
  clear HR
  go_wp2
  clear hmk
  obtain ⟨w, rfl⟩ : ∃ w, w = w1 := ⟨_, rfl⟩
  go_loopw [8] (fun nn w2 => ∃ (f : Nat) (m : Int) (out : Nat → Int), nn = .int .i64 m ∧ 0 ≤ m ∧ m ≤ 10000 ∧ m.toNat ≤ f ∧ Hid (divF k1 (gI (intL c1)) (gI (intL c2)) f m out = RES) ∧ Hid (∀ i, i < k1 → 0 ≤ out i ∧ out i ≤ (gI (intL c2)) i) ∧ Hid (w2.rowIs w.heap.size 3 k1 (fun j => .int .i64 (out j))) ∧ Hid (Below w.heap.size w w2)) (fun nn _ => (intOf nn).toNat)
  case atStart => exact ⟨n.toNat, n, fun _ => 0, rfl, hn.1, hn.2, Nat.le_refl _, HD, HO0, R0, HB0⟩
  case round =>
    clear R0 HB0 HD HO0
    obtain ⟨w2, rfl⟩ : ∃ w2, w2 = wr := ⟨_, rfl⟩
    obtain ⟨f, m, out, rfl, hm0, hm1, hf, HD, HO, R2, HB2⟩ := hrel
    by_cases hmp : 0 < m
    · have HX := uhide (openPlaces_any k1 c1 c2 (.slice a1 k1 p1) (.slice a2 k1 p2) lo hi lo' w.heap.size w.heap.size out w2 T1.out T2.out (H1.out.below HB2.out) (H2.out.below HB2.out) h64 R2.out)
      go_wp2_with fail
      refine HX.out.mono ?_
      rintro e w3 ⟨vO, rfl, hI, hb3⟩
      have HB3 : Hid (Below w.heap.size w w3) := HB2.out.trans (hb3.mono HB2.out.size)
      have R3 := uhide (rowIs_below R2.out hb3)
      have hws3 : w.heap.size < w3.heap.size := R3.out.lt
      have hw23 : w.heap.size < w2.heap.size := R2.out.lt
      obtain ⟨gO, capO, rfl, hgO, hgO2⟩ := hI.shape
      rw [natI_len] at *
      have HN := uhide (open_none (L := k1) (w := gI (intL c1)) (c := gI (intL c2)) (out := out))
      have hol := opensL_le k1 (openF k1 (gI (intL c1)) (gI (intL c2)) out)
      have HIR := uhide hI
      clear hI hb3 HX R2
      by_cases hs : 0 < openS k1 (gI (intL c1)) (gI (intL c2)) out
      rotate_left
      · have hlen := HN.out.2 hs
        have hres : RES = out := by rw [← HD.out]; exact divF_end (fun h => hs h.2)
        subst hres
        rw [hlen] at *
        clear HN HIR HO HD HWN HC HWB H1 H2 T1 T2 HB2
        go_wp2
        go_ret
        first
          | exact ⟨_, _, rfl, by rw [HZ.out, ofFn_len]; exact (rowIs_oS (base := w.heap.size) R3.out (by unfold maxLen; omega) (Nat.le_refl _)).1, (rowIs_oS (base := w.heap.size) R3.out (by unfold maxLen; omega) (Nat.le_refl _)).2, HB3.out⟩
          | exact ⟨_, rfl, _, by rw [HZ.out, ofFn_len]; exact (rowIs_oS (base := w.heap.size) R3.out (by unfold maxLen; omega) (Nat.le_refl _)).1, (rowIs_oS (base := w.heap.size) R3.out (by unfold maxLen; omega) (Nat.le_refl _)).2, HB3.out⟩
      have hlp : 0 < (opensL k1 (openF k1 (gI (intL c1)) (gI (intL c2)) out)).length := by
        refine Nat.pos_of_ne_zero (fun h => HN.out.1 h hs)
      have HQ := uhide (quotas_any m k1 c1 (.slice a1 k1 p1) (.slice (some ⟨gO, 0, none⟩) (opensL k1 (openF k1 (gI (intL c1)) (gI (intL c2)) out)).length capO) lo hi w2.heap.size (openF k1 (gI (intL c1)) (gI (intL c2)) out) w3 T1.out (H1.out.below HB3.out) HIR.out h64 ⟨hmp, hm1⟩ HWB.out hs)
      have HRE : Hid (∀ l : List Nat, l.Perm (opensL k1 (openF k1 (gI (intL c1)) (gI (intL c2)) out)) → _) := fun l hl => round_eq (n := m) hmp HWN.out HO.out hs hl
      have HGA := uhide (gets_all (L := k1) (n := m) (w := gI (intL c1)) (c := gI (intL c2)) (out := out) hmp HWN.out HO.out hs)
      have HWT : Hid (∀ p, p < k1 → (0 ≤ wantsF k1 m (openS k1 (gI (intL c1)) (gI (intL c2)) out) (gI (intL c1)) (openF k1 (gI (intL c1)) (gI (intL c2)) out) p ∧ wantsF k1 m (openS k1 (gI (intL c1)) (gI (intL c2)) out) (gI (intL c1)) (openF k1 (gI (intL c1)) (gI (intL c2)) out) p ≤ 10000) ∧ 0 ≤ out p ∧ out p ≤ gI (intL c2) p ∧ gI (intL c2) p ≤ 10000) := fun p hp => by
        have h1 := wants_bd (L := k1) (m := m) (O := openF k1 (gI (intL c1)) (gI (intL c2)) out) (w := gI (intL c1)) (by omega) HWN.out hs rfl p
        have h2 := HO.out p hp
        have h3 := HC.out p hp
        have h4 := h1.2.1 hp
        have h5 : wantsF k1 m (openS k1 (gI (intL c1)) (gI (intL c2)) out) (gI (intL c1)) (openF k1 (gI (intL c1)) (gI (intL c2)) out) p ≤ m := h4
        have h6 : 0 ≤ wantsF k1 m (openS k1 (gI (intL c1)) (gI (intL c2)) out) (gI (intL c1)) (openF k1 (gI (intL c1)) (gI (intL c2)) out) p := h1.1
        omega
      have HD2 : Hid (∃ f', f = f' + 1 ∧ divF k1 (gI (intL c1)) (gI (intL c2)) f' (m - sumTo (getsF k1 m (gI (intL c1)) (gI (intL c2)) out) k1) (fun i => out i + getsF k1 m (gI (intL c1)) (gI (intL c2)) out i) = RES) := by
        cases f with
        | zero => omega
        | succ f' => exact ⟨f', rfl, by rw [← HD.out]; exact (divF_go ⟨hmp, hs⟩).symm⟩
      have HMO : Hid (∀ p, p ∈ opensL k1 (openF k1 (gI (intL c1)) (gI (intL c2)) out) → p < k1) := fun p hp => (mem_opensL.1 hp).1
      have HND : Hid (∀ l : List Nat, l.Perm (opensL k1 (openF k1 (gI (intL c1)) (gI (intL c2)) out)) → l.Nodup) := fun l hl => hl.nodup_iff.2 (opensL_nodup _ _)
      have zl : (((opensL k1 (openF k1 (gI (intL c1)) (gI (intL c2)) out)).length : Int) == 0) = false := by rw [beq_eq_false_iff_ne]; omega
      clear HN HIR HD HWN HC HWB
      generalize hLN : (opensL k1 (openF k1 (gI (intL c1)) (gI (intL c2)) out)).length = LN at *
      have HLN := uhide hLN
      clear hLN
      go_wp2_with fail
      refine HQ.out.mono ?_
      rintro e w4 ⟨gR, capR, d, rfl, ⟨hg1, hg2⟩, hpm, hR3, hb4⟩
      have HB4 : Hid (Below w.heap.size w w4) := HB3.out.trans (hb4.mono HB3.out.size)
      have R4 := uhide (rowIs_below R3.out hb4)
      have hdk : ∀ j, j < d.size → d[j]! < k1 := fun j hj => HMO.out _ (hpm.mem_iff.1 (by rw [getElem!_pos d j hj]; simp))
      have hds : d.size ≤ 64 := by
        have := hpm.length_eq
        rw [Array.length_toList, HLN.out] at this
        omega
      have HH := uhide (handOut_any k1 c2 (.slice a2 k1 p2) lo' gR capR w.heap.size d (wantsF k1 m (openS k1 (gI (intL c1)) (gI (intL c2)) out) (gI (intL c1)) (openF k1 (gI (intL c1)) (gI (intL c2)) out)) (rem m (openS k1 (gI (intL c1)) (gI (intL c2)) out) (gI (intL c1))) out w4 T2.out (H2.out.below HB4.out) R4.out hR3 hg2 (by omega) hdk (HND.out _ hpm) hds HWT.out)
      obtain ⟨hsum, hsh⟩ := HRE.out _ hpm
      rw [hsum] at HH
      have HSH := uhide hsh
      obtain ⟨f', rfl, hd2⟩ := HD2.out
      obtain ⟨hga, hgb, hgc⟩ := HGA.out
      have HGB := uhide hga
      have HD3 := uhide hd2
      clear hsum hsh hd2 hga HD2 HGA HQ HRE hpm hR3 hb4 hdk HWT HMO HND R3 HB3 HLN H1 T1 H2 T2
      generalize getsF k1 m (gI (intL c1)) (gI (intL c2)) out = G at *
      generalize sumTo G k1 = SG at *
      go_wp2_with fail
      refine HH.out.mono ?_
      rintro e w5 ⟨rfl, hr5, ho5⟩
      have R5 : Hid (w5.rowIs w.heap.size 3 k1 (fun j => .int .i64 ((fun i => out i + G i) j))) := hr5.congr (fun j hj => by rw [HSH.out j hj])
      have HB5 : Hid (Below w.heap.size w w5) := HB4.out.trans (ho5.below (Nat.le_refl _) (by have := HB4.out.size; exact this))
      have HO5 : Hid (∀ i, i < k1 → 0 ≤ (fun i => out i + G i) i ∧ (fun i => out i + G i) i ≤ (gI (intL c2)) i) := fun i hi => by
        have h1 := HGB.out i hi
        have h2 := HO.out i hi
        show 0 ≤ out i + G i ∧ out i + G i ≤ _
        omega
      clear hr5 ho5 HSH HH HGB HO R4 HB4
      go_wp2
      go_roundw
      case rel => exact ⟨f', m - SG, _, by go_num, by omega, by omega, by omega, HD3, HO5, R5, HB5⟩
      case measure => simp [intOf]; omega
    · have hm : m = 0 := by omega
      subst hm
      have hres : RES = out := by rw [← HD.out]; exact divF_end (fun h => hmp h.1)
      subst hres
      clear HO HD HWN HC HWB H1 H2 T1 T2
      go_wp2
      go_ret
      first
        | exact ⟨_, _, rfl, by rw [HZ.out, ofFn_len]; exact (rowIs_oS (base := w.heap.size) R2.out (by unfold maxLen; omega) (Nat.le_refl _)).1, (rowIs_oS (base := w.heap.size) R2.out (by unfold maxLen; omega) (Nat.le_refl _)).2, HB2.out⟩
        | exact ⟨_, rfl, _, by rw [HZ.out, ofFn_len]; exact (rowIs_oS (base := w.heap.size) R2.out (by unfold maxLen; omega) (Nat.le_refl _)).1, (rowIs_oS (base := w.heap.size) R2.out (by unfold maxLen; omega) (Nat.le_refl _)).2, HB2.out⟩
end Go.Proofs.Ytidjjgiecaoboaa
