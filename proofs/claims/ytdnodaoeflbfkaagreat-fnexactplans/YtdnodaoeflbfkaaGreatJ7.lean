/- Texts of one claim, joined: each in its own section, in build order. -/
import Derived.Test.YtdnodaoeflbfkaaGreatJ6
import Derived.Deep.RegionHeld3
import Derived.Test.YtdnodaoeflbfkaaGreatJ3
/- Plans, by the program. -/
namespace Go.Proofs.YtdnodaoeflbfkaaGreat
open Go.RowKit Go.BigFrame
set_option linter.unusedVariables false

theorem Tryz.infoIntS : (Tryz.prog.info? 28).map (fun i => (i.zero, i.size, i.bytes)) = some (some (.slice none 0 0), 1, 24) := by kernel_rfl
def subV (a z : List Int) (q j : Nat) : Int := if j < q then gI a j - gI z j else gI a j
theorem subV_end {a z : List Int} {ys : List Value} (hz : z.length = a.length) (hl : ys.length = a.length) (h : ∀ j, j < a.length → ys[j]? = some (.int .i64 (subV a z a.length j))) : ys = (subL a z).map (Value.int .i64) := by
  apply List.ext_getElem?
  intro j
  by_cases hj : j < a.length
  · have hL : j < (subL a z).length := by unfold subL; rw [List.length_zipWith]; omega
    rw [h j hj, List.getElem?_map, List.getElem?_eq_getElem hL]
    have e : (subL a z)[j]'hL = a[j]'hj - z[j]'(by omega) := List.getElem_zipWith ..
    show _ = some (Value.int .i64 ((subL a z)[j]'hL))
    rw [e]
    unfold subV
    rw [if_pos hj, gI_get hj, gI_get (show j < z.length by omega)]
  · rw [List.getElem?_eq_none (by omega), List.getElem?_eq_none (by unfold subL; rw [List.length_map, List.length_zipWith]; omega)]
theorem subV_zero (a z : List Int) (j : Nat) : subV a z 0 j = gI a j := by unfold subV; rw [if_neg (by omega)]
theorem subV_same {a z : List Int} {q j : Nat} (h : j ≠ q) : subV a z (q + 1) j = subV a z q j := by
  unfold subV
  by_cases hj : j < q
  · rw [if_pos hj, if_pos (by omega)]
  · rw [if_neg hj, if_neg (by omega)]
theorem subV_here (a z : List Int) (q : Nat) : subV a z q q = gI a q ∧ subV a z (q + 1) q = gI a q - gI z q := by
  unfold subV
  rw [if_neg (by omega), if_pos (by omega)]; exact ⟨rfl, rfl⟩
theorem subV_set {a z : List Int} {ys : List Value} {q : Nat} (hl : ys.length = a.length) (hq : q < a.length) (h : ∀ j, j < a.length → ys[j]? = some (.int .i64 (subV a z q j))) :
    ∀ j, j < a.length → (ys.set q (.int .i64 (gI a q - gI z q)))[j]? = some (.int .i64 (subV a z (q + 1) j)) := fun j hj => by
  by_cases e : j = q
  · subst e
    rw [List.getElem?_set_self (by omega), (subV_here a z j).2]
  · rw [List.getElem?_set_ne (fun h => e h.symm), h j hj, subV_same e]
theorem gI_map {a : List Int} {j : Nat} (h : j < a.length) : (a.map (Value.int .i64))[j]? = some (.int .i64 (gI a j)) := by
  rw [List.getElem?_map, List.getElem?_eq_getElem h, gI_get h]; rfl
theorem rooms_len (l : List IsD) : (l.map (fun I : IsD => I.2.2.2)).length = l.length := List.length_map _
theorem rooms_at {l : List IsD} {k : Nat} (h : k < l.length) : gI (l.map (fun I : IsD => I.2.2.2)) k = (l[k]'h).2.2.2 := by rw [gI_get (by rw [rooms_len]; exact h)]; simp
theorem lefK_zero (wants : List WaD) (l : List IsD) : lefK wants l 0 = l.map (fun I : IsD => I.2.2.2) := rfl
theorem lef_ty {left : List Int} {n : Nat} (hn : left.length = n) (hm : n ≤ maxLen) (h : ∀ x ∈ left, inK .i64 x) : tyS 1 n (ofInts left) 1 := by
  subst hn; exact ofInts_tyS h hm
theorem all_take {α : Type} {p : α → Bool} {l : List α} (h : l.all p = true) {k : Nat} (hk : k < l.length) : p (l[k]'hk) = true := List.all_eq_true.1 h _ (List.getElem_mem hk)
theorem owns_in {w : World} {base n g cap m : Nat} {e : TypeId} {xs : List Value} (h : w.ownsRow base e 1 (.slice (some ⟨g, 0, none⟩) n cap) m xs) : g < w.heap.size := (ublk_lt h g (by simp [blkOf, Value.ownBlock])).2
set_option maxRecDepth 20000 in
set_option maxHeartbeats 6400000 in
theorem iPlans_any (wants : List WaD) (l : List IsD) (wv lv : Value) (w : World) (hqw : ∀ W ∈ wants, okWa W) (hww : wants.length ≤ maxLen) (hql : ∀ I ∈ l, okIs1 I) (hll : l.length ≤ maxLen) (hw : waS w wv wants) (hl : isS w lv l) :
    Calls Tryz.prog 27 #[wv, lv] w fun e w' => ∃ c S, e = .returned c ∧ oS w' 1 (planL wants l).length (rowsU (planL wants l)) c S ∧ own2 S w.heap.size w'.heap.size ∧ Below w.heap.size w w' := by
  obtain ⟨i0, hi0, hz0, hz1, hz2⟩ := infoD Tryz.infoDInt
  obtain ⟨i1, hi1, hy0, hy1, hy2⟩ := infoD Tryz.infoIntS
  have HC0 : Hid (∀ wx, Below w.heap.size w wx → Calls Tryz.prog 86 #[wv, .int .i64 40, .func (.func 73) #[] #[]] wx fun e w' => e = .returned (.bool (decide (wants.length ≤ 40) && wants.all wanB)) ∧ Below wx.heap.size wx w') := fun wx hb => allOkWa_any wants wv 40 wx hww hqw (hw.below hb)
  have HC1 : Hid (∀ wx, Below w.heap.size w wx → Calls Tryz.prog 74 #[lv, .int .i64 12, .func (.func 75) #[] #[]] wx fun e w' => e = .returned (.bool (decide (l.length ≤ 12) && l.all islB)) ∧ Below wx.heap.size wx w') := fun wx hb => allOkIs_any l lv 12 wx hll hql (hl.below hb)
  have HSH : Hid (∀ (k : Nat) (hk : k < wants.length) (xs : List Value) (v2 : Value) wx, (lefK wants l k).length = l.length → (∀ x ∈ lefK wants l k, 0 ≤ x ∧ x ≤ 10000) → waH wx (wants[k]'hk) xs → Below w.heap.size w wx → uS wx 0 wx.heap.size 1 l.length (ofInts (lefK wants l k)) v2 → Calls Tryz.prog 16 #[.agg xs.toArray, lv, v2] wx fun e w' => ∃ c S, e = .returned c ∧ oS w' 1 (rowK wants l k).length (ofInts (rowK wants l k)) c S ∧ own2 S wx.heap.size w'.heap.size ∧ Below wx.heap.size wx w') := fun k hk xs v2 wx h1 h2 hx hb h3 => by
    have := iShares_any (wants[k]'hk) l l.length (ofInts (lefK wants l k)) xs lv v2 0 wx.heap.size wx (hqw _ (List.getElem_mem hk)) hql hll (lef_ty h1 hll (fun x hx => by have := h2 x hx; exact ⟨by omega, by omega⟩)) hx (hl.below hb) h3
    rw [intL_of, ← rowK_eq hk] at this
    exact this
  obtain ⟨R, hR⟩ : ∃ R, R = planL wants l := ⟨_, rfl⟩
  have E0 : Hid ((decide (wants.length ≤ 40) && wants.all wanB) = false → R = []) := fun h => hR.trans (planL_no (fun g => by unfold planB at g; rw [h] at g; cases g))
  have E1 : Hid ((decide (l.length ≤ 12) && l.all islB) = false → R = []) := fun h => hR.trans (planL_no (fun g => by unfold planB at g; rw [h, Bool.and_false] at g; cases g))
  have E2 : Hid ((decide (wants.length ≤ 40) && wants.all wanB) = true → (decide (l.length ≤ 12) && l.all islB) = true → (R = rowsK wants l wants.length ∧ gudK wants l wants.length) ∧ wants.length ≤ 40 ∧ l.length ≤ 12) := fun h1 h2 => by
    have hp : planB wants l = true := by unfold planB; rw [h1, h2]; rfl
    obtain ⟨k1, k2⟩ := planB_all hp
    exact ⟨⟨hR.trans (planL_yes k1 k2), k2⟩, k1, k2.1.1⟩
  rw [← hR]
  have HWS := hide hw
  have HL := hide hl
  unfold maxLen at hll hww
  obtain ⟨la, lp, rfl, -⟩ := hl
  obtain ⟨wa, wp, rfl, -⟩ := hw
  have BX : Hid (Below w.heap.size w w) := Below.refl _ _
  have HOE : Hid (∀ (t : TypeId) (wx : World), w.heap.size ≤ wx.heap.size → oS (wx.alloc (.cells #[] t)) 1 0 (rowsU []) (.slice (some ⟨wx.heap.size, 0, none⟩) 0 0) [wx.heap.size] ∧ own2 [wx.heap.size] w.heap.size (wx.alloc (.cells #[] t)).heap.size) := fun t wx hs => by
    have := lit_oS wx t
    exact ⟨this.1, this.2.mono hs (Nat.le_refl _)⟩
  clear hR hqw hql
  generalize (decide (wants.length ≤ 40) && wants.all wanB) = q0 at *
  generalize (decide (l.length ≤ 12) && l.all islB) = q1 at *
  go_enter Tryz.func27, Tryz.ntmps27
  go_wp2_with fail
  refine (HC0.out _ BX.out).mono ?_
  rintro e w1 ⟨rfl, hb1⟩
  have BX1 : Hid (Below w.heap.size w w1) := hb1
  clear BX hb1
  cases q0 with
  | false =>
    have Hn := E0.out rfl
    subst Hn
    clear E0 E1 E2
    go_wp2
    go_ret
    exact ⟨_, _, rfl, (HOE.out _ w1 BX1.out.size).1, (HOE.out _ w1 BX1.out.size).2, BX1.out.alloc BX1.out.size _⟩
  | true =>
    go_wp2_with fail
    refine (HC1.out _ BX1.out).mono ?_
    rintro e w2 ⟨rfl, hb2⟩
    have BX2 : Hid (Below w.heap.size w w2) := BX1.out.trans (hb2.mono BX1.out.size)
    clear BX1 hb2
    cases q1 with
    | false =>
      have Hn := E1.out (by first | rfl | trivial)
      subst Hn
      clear E0 E1 E2
      go_wp2
      go_ret
      exact ⟨_, _, rfl, (HOE.out _ w2 BX2.out.size).1, (HOE.out _ w2 BX2.out.size).2, BX2.out.alloc BX2.out.size _⟩
    | true =>
    obtain ⟨⟨hRd, hgud⟩, h40, h12⟩ := E2.out (by first | rfl | trivial) (by first | rfl | trivial)
    have HRd := hide hRd
    have HG := hide hgud
    clear hRd hgud E0 E1 E2 HOE HC0 HC1
    go_wp2_with (at_make; refine wpList_make_full _ rfl _ _ 28 rfl w2.heap.size 3 i0 _ 1 Tryz.underlying28 hi0 hz0 hz1 _ _ _ _ l.length rfl rfl rfl rfl (by rw [hz2]; omega) (by unfold maxLen; omega) (Nat.le_refl _) ?_; intro w3 hown hgrow)
    have B3 : Hid (Below w2.heap.size w2 w3) := Below.grown (Below.refl _ _) hgrow (Nat.le_refl _) (fun k hk => by cases hk)
    have R0 := hide hown
    clear hown hgrow
    go_loopw [28] (fun i wr => ∃ (k : Nat) (ys : List Value), k ≤ l.length ∧ i = .int .i64 k ∧ Hid (wr.ownsRow w2.heap.size 3 1 (.slice (some ⟨w2.heap.size, 0, none⟩) l.length l.length) l.length ys) ∧ Hid (∀ j, j < k → ys[j]? = some (.int .i64 (gI (l.map (fun I : IsD => I.2.2.2)) j))) ∧ Hid (Below w2.heap.size w2 wr)) (fun i _ => l.length - (intOf i).toNat)
    case atStart => exact ⟨0, _, Nat.zero_le _, rfl, R0, (fun j h => by omega), B3⟩
    case round =>
      clear R0 B3
      obtain ⟨k, ys, hk, rfl, How, Hx, HB⟩ := hrel
      have HW : Hid (Below w.heap.size w wr) := BX2.out.trans (HB.out.mono BX2.out.size)
      by_cases hlt : k < l.length
      · obtain ⟨la', lp', e, hrows⟩ := HL.out.below HW.out
        cases e
        obtain ⟨bb, off, rfl, hat⟩ := hrows (by omega)
        obtain ⟨d1, d2, c0, c1, c2', c3, ⟨b1, r1, rfl, -⟩, b2, r2, rfl, -⟩ := hat k hlt
        have Hrm := hide (rooms_at hlt)
        have Hyl : Hid (ys.length = l.length * 1) := How.out.1
        obtain ⟨o0, g0⟩ : ∃ o, ys[k]? = some o := ⟨_, List.getElem?_eq_getElem (by have := Hyl.out; omega)⟩
        have How1 := hide (How.out.alloc (.cells #[.string (l[k]'hlt).1, .slice b1 (l[k]'hlt).2.1.length r1, .slice b2 (l[k]'hlt).2.2.1.length r2, .int .i64 (l[k]'hlt).2.2.2] 111))
        have q0 := (How1.out.cellAt k (by omega)).trans g0
        have f0 := How1.out.frozenAt k
        clear hat hrows g0 HL HWS HSH HRd HG
        generalize (l[k]'hlt).1 = z0 at *
        generalize (l[k]'hlt).2.1.length = z1 at *
        generalize (l[k]'hlt).2.2.1.length = z2 at *
        generalize (l[k]'hlt).2.2.2 = z3 at *
        go_wp2
        have s1 := How1.out.stored k (.int .i64 z3)
        go_roundw
        case rel => exact ⟨k + 1, _, by omega, by go_num, s1.1, (fun j hj => by
          have hl' := Hyl.out
          by_cases e0 : j = k
          · subst e0; rw [List.getElem?_set_self (by omega), Hrm.out]
          · rw [List.getElem?_set_ne (by omega)]; exact Hx.out j (by omega)), (HB.out.alloc HB.out.size _).setCell (Nat.le_refl _) _⟩
        case measure => simp [intOf]; omega
      · have e : k = l.length := by omega
        subst e
        have How0 : Hid (wr.ownsRow w2.heap.size 3 1 (.slice (some ⟨w2.heap.size, 0, none⟩) l.length l.length) l.length ((lefK wants l 0).map (Value.int .i64))) := by
          have e : ys = (lefK wants l 0).map (Value.int .i64) := by
            apply List.ext_getElem?
            intro j
            by_cases hj : j < l.length
            · rw [Hx.out j hj, lefK_zero, gI_map (by rw [rooms_len]; exact hj)]
            · rw [List.getElem?_eq_none (by have := How.out.1; omega), List.getElem?_eq_none (by rw [lefK_zero, List.length_map, rooms_len]; omega)]
          rw [← e]; exact How.out
        clear Hx How
        have hs2 : w2.heap.size < wr.heap.size := owns_in How0.out
        go_wp2
        have How1 := hide (How0.out.alloc (.cells #[] 28))
        have HB1 : Hid (Below w2.heap.size w2 (wr.alloc (.cells #[] 28))) := HB.out.alloc HB.out.size _
        have P0 : Hid (PL w2.heap.size w2.heap.size (wr.alloc (.cells #[] 28)) 28 (.slice (some ⟨wr.heap.size, 0, none⟩) 0 0) (rowsK wants l 0)) := PL.none (by omega) (by simp) (World.ownsRow_lit wr #[] 0 HB.out.size (by decide) rfl)
        clear How0 HB HW
        go_loopw [8, 42] (fun v i wr => ∃ (k : Nat), k ≤ wants.length ∧ i = .int .i64 k ∧ Hid (v ≠ .slice none 0 0) ∧ Hid (PL w2.heap.size w2.heap.size wr 28 v (rowsK wants l k)) ∧ Hid (wr.ownsRow w2.heap.size 3 1 (.slice (some ⟨w2.heap.size, 0, none⟩) l.length l.length) l.length ((lefK wants l k).map (Value.int .i64))) ∧ Hid (Below w2.heap.size w2 wr)) (fun _ i _ => wants.length - (intOf i).toNat)
        case atStart => exact ⟨0, Nat.zero_le _, rfl, (fun h => by cases h), P0, How1, HB1⟩
        case round =>
          clear P0 How1 HB1
          obtain ⟨k, hk, rfl, Hnn, HP, How, HB⟩ := hrel
          have HW : Hid (Below w.heap.size w wr) := BX2.out.trans (HB.out.mono BX2.out.size)
          have hs3 : w2.heap.size < wr.heap.size := owns_in How.out
          by_cases hlt : k < wants.length
          · obtain ⟨wa', wp', e, hrows⟩ := HWS.out.below HW.out
            cases e
            obtain ⟨bb, off, rfl, hat⟩ := hrows (by omega)
            obtain ⟨d1, d2, d3, c0, c1, c2', c3, ⟨a1, p1, rfl, g1⟩, ⟨a2, p2, rfl, g2⟩, a3, p3, rfl, g3⟩ := hat k hlt
            have hlr := lefK_right k (by omega) ⟨HG.out.1, fun j hj hjk => HG.out.2 j hj hj⟩
            have hrr := rowK_right hlt ⟨HG.out.1, fun j hj hjk => HG.out.2 j hj hj⟩
            have HSk : Hid (∀ wx v2, Below wr.heap.size wr wx → uS wx 0 wx.heap.size 1 l.length (ofInts (lefK wants l k)) v2 → Calls Tryz.prog 16 #[.agg #[.int .i64 (wants[k]'hlt).1, .slice a1 (wants[k]'hlt).2.1.length p1, .slice a2 (wants[k]'hlt).2.2.1.length p2, .slice a3 (wants[k]'hlt).2.2.2.length p3], .slice la l.length lp, v2] wx fun e w' => ∃ c S, e = .returned c ∧ oS w' 1 (rowK wants l k).length (ofInts (rowK wants l k)) c S ∧ own2 S wx.heap.size w'.heap.size ∧ Below wx.heap.size wx w') := fun wx v2 hb h3 => HSH.out k hlt [.int .i64 (wants[k]'hlt).1, .slice a1 (wants[k]'hlt).2.1.length p1, .slice a2 (wants[k]'hlt).2.2.1.length p2, .slice a3 (wants[k]'hlt).2.2.2.length p3] v2 wx hlr.1 hlr.2 (waH.below ⟨_, _, _, rfl, ⟨_, _, rfl, g1⟩, ⟨_, _, rfl, g2⟩, _, _, rfl, g3⟩ hb) (HW.out.trans (hb.mono HW.out.size)) h3
            have Hls := hide (lefK_succ (l := l) hlt)
            have Hrs := hide (rowsK_succ wants l k)
            have hrl := rowsK_len wants l k
            clear hat hrows g1 g2 g3 HG HSH HWS
            generalize lefK wants l k = A at *
            generalize rowK wants l k = ZR at *
            generalize rowsK wants l k = RS at *
            generalize (wants[k]'hlt).1 = z0 at *
            generalize (wants[k]'hlt).2.1.length = z1 at *
            generalize (wants[k]'hlt).2.2.1.length = z2 at *
            generalize (wants[k]'hlt).2.2.2.length = z3 at *
            obtain ⟨hAl, hAb⟩ := hlr
            obtain ⟨hZl, hZb⟩ := hrr
            have HBD : Hid (∀ j, j < l.length → (0 ≤ gI ZR j ∧ gI ZR j ≤ gI A j) ∧ gI A j ≤ 10000) := fun j hj => by
              rw [gI_get (show j < ZR.length by omega), gI_get (show j < A.length by omega)]
              exact ⟨hZb j (by omega) (by omega), (hAb _ (List.getElem_mem _)).2⟩
            clear hAb hZb
            have BI : Hid (Below wr.heap.size wr (wr.alloc (.cells #[.int .i64 z0, .slice a1 z1 p1, .slice a2 z2 p2, .slice a3 z3 p3] 35))) := (Below.refl _ _).alloc (Nat.le_refl _) _
            have How1 := hide (How.out.alloc (.cells #[.int .i64 z0, .slice a1 z1 p1, .slice a2 z2 p2, .slice a3 z3 p3] 35))
            go_wp2_with fail
            refine (HSk.out _ _ BI.out (owns_uS hAl How1.out)).mono ?_
            rintro e w4 ⟨c, T, rfl, ho, hT, hb4⟩
            have B4 : Hid (Below wr.heap.size wr w4) := BI.out.trans (hb4.mono BI.out.size)
            have How4 := hide (owns_below_any How1.out hb4)
            have HT : Hid (own2 T (wr.heap.size + 1) w4.heap.size) := by show own2 T (wr.heap.size + 1) w4.heap.size; simpa using hT
            have HO := hide ho
            obtain ⟨ca, cp, rfl⟩ := ho.slice
            have HU : Hid (uS w4 (wr.heap.size + 1) w4.heap.size 1 ZR.length (ofInts ZR) (.slice ca ZR.length cp)) := ho.u HT.out.2
            have HTY : Hid (tyS 1 ZR.length (ofInts ZR) 1) := lef_ty rfl (by unfold maxLen; omega) (fun x hx => by
              obtain ⟨j, hj, rfl⟩ := List.getElem_of_mem hx
              have := HBD.out j (by omega)
              rw [gI_get hj] at this
              exact ⟨by omega, by omega⟩)
            have hs4 : wr.heap.size + 1 ≤ w4.heap.size := by have := hb4.size; simpa using this
            have HB4 : Hid (Below w2.heap.size w2 w4) := HB.out.trans (B4.out.mono HB.out.size)
            clear hb4 How1 BI c0 c1 c2' c3 HSk hT ho
            go_wp2
            have Y0 : Hid (∀ j, j < A.length → (A.map (Value.int .i64))[j]? = some (.int .i64 (subV A ZR 0 j))) := fun j hj => by rw [gI_map hj, subV_zero]
            go_loopw [52] (fun i wq => ∃ (q : Nat) (ys : List Value), q ≤ ZR.length ∧ i = .int .i64 q ∧ Hid (wq.ownsRow w2.heap.size 3 1 (.slice (some ⟨w2.heap.size, 0, none⟩) l.length l.length) l.length ys) ∧ Hid (∀ j, j < A.length → ys[j]? = some (.int .i64 (subV A ZR q j))) ∧ Hid (OutS [w2.heap.size] w4 wq) ∧ Hid (Below w2.heap.size w2 wq)) (fun i _ => ZR.length - (intOf i).toNat)
            case atStart => exact ⟨0, _, Nat.zero_le _, rfl, How4, Y0, OutS.refl _ _, HB4⟩
            case round =>
              clear How4 Y0 HB4
              obtain ⟨q, ys, hq, rfl, How5, HY, HOu, HB5⟩ := hrel
              by_cases hqlt : q < ZR.length
              · obtain ⟨ca', cp', e, -, hpos⟩ := HU.out
                cases e
                obtain ⟨cb, co, rfl, hlo, hhi, -⟩ := hpos (by omega)
                have c0 := cell_int HTY.out HU.out q hqlt
                rw [intL_of] at c0
                have c1 := (World.cell?_of_block (w := w4) (a := ⟨cb, co + q, none⟩) (HOu.out.block cb hhi (by simp; omega))).trans c0
                have c2 := (How5.out.cellAt q (by omega)).trans ((HY.out q (by omega)).trans (by rw [(subV_here A ZR q).1]))
                have f2 := How5.out.frozenAt q
                obtain ⟨hb1, hb2⟩ := HBD.out q (by omega)
                have Hst := hide (subV_set (by have := How5.out.1; omega) (show q < A.length by omega) HY.out)
                have hlen : q < l.length := by omega
                clear c0 HY HU HTY HO HT HP hpos
                generalize gI ZR q = Y at *
                generalize gI A q = X at *
                go_wp2
                have s1 := How5.out.stored q (.int .i64 (X - Y))
                go_roundw
                case rel => exact ⟨q + 1, _, by omega, by go_num, s1.1, Hst, HOu.out.setCell (by simp) _, HB5.out.setCell (Nat.le_refl _) _⟩
                case measure => simp [intOf]; omega
              · have e : q = A.length := by omega
                have Hys : Hid (ys = (subL A ZR).map (Value.int .i64)) := subV_end (by omega) (by have := How5.out.1; omega) (fun j hj => by have := HY.out j hj; rwa [e] at this)
                obtain ⟨xs, S, hpl⟩ := HP.out
                have hpq := hpl.frame (w' := wr) (fun g hg hne => (HOu.out.block g (by have := B4.out.size; omega) (by simp; exact hne)).trans (B4.out.block g hg))
                have hpq1 := (hpq.frame (w' := wr.alloc (.cells #[.slice ca ZR.length cp] 28)) (fun g hg _ => ((Below.refl wr.heap.size wr).alloc (Nat.le_refl _) _).block g (by have := HOu.out.size; omega)))
                have hoq := ((HO.out.frame (w' := wr) (fun x hx => HOu.out.block x (HT.out.2 x hx).2 (by have := (HT.out.2 x hx).1; simp; omega))).below (w' := wr.alloc (.cells #[.slice ca ZR.length cp] 28)) ((Below.refl _ _).alloc (Nat.le_refl _) _))
                rw [show (Value.slice ca ZR.length cp) = .slice ca l.length cp by rw [hZl]] at hpq1 hoq
                replace hpq1 := hide hpq1
                replace hoq := hide hoq
                have hsz := HOu.out.size
                clear hpl hpq HY HU HTY HO HP
                go_wp2_with (at_builtin; refine wpList_append_own_at _ rfl _ _ 49 rfl w2.heap.size 28 i1 _ 1 24 Tryz.underlying49 hi1 hy0 hy1 hy2 rfl (by decide) _ _ _ rfl hpq1.out.1 ⟨wr.heap.size, 0, none⟩ 1 1 [.slice ca l.length cp] rfl rfl (cell_one_at1 _ _ rfl _ _) (fun x hx => by simp at hx; rcases hx with rfl; rfl) (by unfold maxLen; omega) (by omega) (by simp; omega) ?_; intro v' w6 hown hgrow hnil hat)
                have HP6 : Hid (PL w2.heap.size w2.heap.size w6 28 v' (RS ++ [ZR])) := hpq1.out.snoc hs3 (by omega) hoq.out (HT.out.mono (Nat.le_refl _) (by simp; omega)) (by omega) (by simp; omega) hown hgrow hat
                have How6 : Hid (w6.ownsRow w2.heap.size 3 1 (.slice (some ⟨w2.heap.size, 0, none⟩) l.length l.length) l.length ((subL A ZR).map (Value.int .i64))) := by
                  rw [← Hys.out]
                  refine uowns_frame (How5.out.alloc (.cells #[.slice ca l.length cp] 28)) (fun x hx => ?_)
                  have hx' : x = w2.heap.size := by simpa [blkOf, Value.ownBlock] using hx
                  subst hx'
                  refine hgrow.block _ (by simp; omega) (fun h => hpq1.out.2.2.2.2.2.1 ?_)
                  have h' : u8.ownBlock = some w2.heap.size := h.symm
                  unfold blkOf
                  rw [h']; simp
                have HB6 : Hid (Below w2.heap.size w2 w6) := Below.grown (HB5.out.alloc HB5.out.size _) hgrow (by simp; omega) (fun j hj => (hpq1.out.1.lt _ hj).1)
                go_roundw
                case rel => exact ⟨k + 1, by omega, by go_num, (fun h => Hnn.out (hnil.1 h).1), by rw [Hrs.out]; exact HP6, by rw [Hls.out]; exact How6, HB6⟩
                case measure => simp [intOf]; omega
          · have e : k = wants.length := by omega
            subst e
            obtain ⟨S, hd1, hd2⟩ := HP.out.done HB.out.size
            have HD1 := hide hd1
            have HD2 := hide hd2
            obtain ⟨va, vp, rfl⟩ := HP.out.slice
            have HWb := BX2.out.size
            clear hd1 hd2 HP How Hnn HSH HWS HL HG
            go_wp2
            go_ret
            exact ⟨_, S, rfl, by rw [HRd.out]; exact HD1.out, HD2.out.mono HWb (Nat.le_refl _), HW.out⟩
end Go.Proofs.YtdnodaoeflbfkaaGreat
/- Plans, by the specification. -/
namespace Go.Proofs.YtdnodaoeflbfkaaGreat
open Go.RowKit Go.BigFrame
set_option linter.unusedVariables false

theorem ofFn_gI (z : List Int) : ofFn z.length (gI z) = z := by
  apply List.ext_getElem
  · rw [ofFn_len]
  · intro j h1 h2
    rw [ofFn_get, gI_get h2]
def roomL (l : List IsD) (k : Nat) : List Int := (l.take k).map (fun I : IsD => I.2.2.2)
theorem roomL_succ {l : List IsD} {k : Nat} (hk : k < l.length) : (roomL l (k + 1)).map (Value.int .i64) = (roomL l k).map (Value.int .i64) ++ [.int .i64 (l[k]'hk).2.2.2] := by
  unfold roomL
  rw [List.take_add_one, List.getElem?_eq_getElem hk, List.map_append, List.map_append]; rfl
theorem roomL_all (wants : List WaD) (l : List IsD) : roomL l l.length = lefK wants l 0 := by unfold roomL; rw [List.take_length]; rfl
/-- what has been seen to be right -/
def seenK (wants : List WaD) (l : List IsD) (k : Nat) : Prop := 0 < k → wants.length ≤ 40 ∧ gudK wants l k
theorem seen_next {wants : List WaD} {l : List IsD} {k : Nat} (hk : k < wants.length) (h : seenK wants l k) (h40 : wants.length ≤ 40) (hw : wanB (wants[k]'hk) = true) (hl : (rowK wants l k).length = l.length) : wants.length ≤ 40 ∧ gudK wants l (k + 1) := by
  have hg := len_gud (W := wants[k]'hk) (l := l) (left := lefK wants l k) (by rw [← rowK_eq hk]; exact hl)
  refine ⟨h40, hg, fun j hj hjk => ?_⟩
  by_cases e : j = k
  · subst e; exact hw
  · exact (h (by omega)).2.2 j hj (by omega)
theorem lefK_i64 {wants : List WaD} {l : List IsD} {k : Nat} (hk : k ≤ wants.length) (hq : ∀ I ∈ l, okIs1 I) (h : seenK wants l k) : (lefK wants l k).length = l.length ∧ ∀ x ∈ lefK wants l k, inK .i64 x := by
  rcases Nat.eq_zero_or_pos k with e | hp
  · subst e
    refine ⟨by rw [lefK_zero, rooms_len], fun x hx => ?_⟩
    rw [lefK_zero] at hx
    obtain ⟨I, hI, rfl⟩ := List.mem_map.1 hx
    exact (hq I hI).2.2.2
  · obtain ⟨h1, h2⟩ := lefK_right k hk (h hp).2
    exact ⟨h1, fun x hx => by have := h2 x hx; exact ⟨by omega, by omega⟩⟩
theorem plan_no_40 {wants : List WaD} {l : List IsD} (h : ¬ wants.length ≤ 40) : planL wants l = [] := planL_no (fun g => h (planB_all g).1)
theorem plan_no_want {wants : List WaD} {l : List IsD} {k : Nat} (hk : k < wants.length) (h : wanB (wants[k]'hk) = false) : planL wants l = [] := planL_no (fun g => by have := (planB_all g).2.2 k hk hk; rw [h] at this; cases this)
theorem plan_no_len {wants : List WaD} {l : List IsD} {k : Nat} (hk : k < wants.length) (h : (rowK wants l k).length ≠ l.length) : planL wants l = [] := planL_no (fun g => h (rowK_right hk ⟨(planB_all g).2.1, fun j hj _ => (planB_all g).2.2 j hj hj⟩).1)
theorem rowIs_out {w w' : World} {b : Nat} {t : TypeId} {n : Nat} {f : Nat → Value} (h : w.rowIs b t n f) (hb : w'.heap[b]? = w.heap[b]?) : w'.rowIs b t n f := h.of_block hb
set_option maxRecDepth 20000 in
set_option maxHeartbeats 6400000 in
theorem sPlans_any (wants : List WaD) (l : List IsD) (wv lv : Value) (w : World) (hqw : ∀ W ∈ wants, okWa W) (hww : wants.length ≤ maxLen) (hql : ∀ I ∈ l, okIs1 I) (hl20 : l.length ≤ 1048576) (hw : waS w wv wants) (hl : isS w lv l) :
    Calls Tryz.prog 25 #[wv, lv] w fun e w' => ∃ c, e = .returned c ∧ uS w' 0 w'.heap.size 1 (planL wants l).length (rowsU (planL wants l)) c ∧ Below w.heap.size w w' := by
  have hll : l.length ≤ maxLen := by unfold maxLen; omega
  obtain ⟨i0, hi0, hz0, hz1, hz2⟩ := infoD Tryz.infoDInt
  obtain ⟨i1, hi1, hy0, hy1, hy2⟩ := infoD Tryz.infoIntS
  have HSH : Hid (∀ (k : Nat) (hk : k < wants.length) (xs : List Value) (v2 : Value) wx, (lefK wants l k).length = l.length → (∀ x ∈ lefK wants l k, inK .i64 x) → waH wx (wants[k]'hk) xs → Below w.heap.size w wx → uS wx 0 wx.heap.size 1 l.length (ofInts (lefK wants l k)) v2 → Calls Tryz.prog 12 #[.agg xs.toArray, lv, v2] wx fun e w' => ∃ b, e = .returned (.slice (some ⟨b, 0, none⟩) (rowK wants l k).length (rowK wants l k).length) ∧ w'.rowIs b 3 (rowK wants l k).length (fun j => .int .i64 (gI (rowK wants l k) j)) ∧ wx.heap.size ≤ b ∧ Below wx.heap.size wx w') := fun k hk xs v2 wx h1 h2 hx hb h3 => by
    have := sSharesR_any (wants[k]'hk) l l.length (ofInts (lefK wants l k)) xs lv v2 0 wx.heap.size wx (hqw _ (List.getElem_mem hk)) hql hll (lef_ty h1 hll h2) hx (hl.below hb) h3
    rw [intL_of, ← rowK_eq hk] at this
    exact this
  have HWK : Hid (∀ (k : Nat) (hk : k < wants.length) (xs : List Value) wx, waH wx (wants[k]'hk) xs → Calls Tryz.prog 65 #[.agg xs.toArray] wx fun e w' => e = .returned (.bool (wanB (wants[k]'hk))) ∧ Below wx.heap.size wx w') := fun k hk xs wx hx => sWantOk_any (wants[k]'hk) xs wx (hqw _ (List.getElem_mem hk)) hx
  have HI64 : Hid (∀ k, k ≤ wants.length → seenK wants l k → (lefK wants l k).length = l.length ∧ ∀ x ∈ lefK wants l k, inK .i64 x) := fun k hk h => lefK_i64 hk hql h
  obtain ⟨R, hR⟩ : ∃ R, R = planL wants l := ⟨_, rfl⟩
  have HR := hide hR
  rw [← hR]
  have HWS := hide hw
  have HL := hide hl
  unfold maxLen at hll hww
  obtain ⟨la, lp, rfl, -⟩ := hl
  obtain ⟨wa, wp, rfl, -⟩ := hw
  clear hR hqw hql
  obtain ⟨W1, hW1⟩ : ∃ W1, W1 = w.alloc (.cells #[] 28) := ⟨_, rfl⟩
  have B1 : Hid (Below w.heap.size w W1) := by rw [hW1]; exact (Below.refl _ _).alloc (Nat.le_refl _) _
  have S1 : Hid (W1.heap.size = w.heap.size + 1) := by show _ = _; rw [hW1]; simp
  have O1 : Hid (W1.ownsRow w.heap.size 28 1 (.slice (some ⟨w.heap.size, 0, none⟩) 0 0) 0 []) := by rw [hW1]; exact World.ownsRow_lit w #[] 0 (Nat.le_refl _) (by decide) rfl
  have R0 : Hid ((W1.alloc (.cells #[] 3)).ownsRow W1.heap.size 3 1 (.slice (some ⟨W1.heap.size, 0, none⟩) 0 0) 0 ((roomL l 0).map (Value.int .i64))) := World.ownsRow_lit W1 #[] 0 (Nat.le_refl _) (by decide) rfl
  have hS1 := S1.out
  go_enter Tryz.func25, Tryz.ntmps25
  go_wp2
  rw [← hW1, show w.heap.size + 1 = W1.heap.size from hS1.symm]
  clear hS1
  go_loopw [6, 7] (fun s i wr => ∃ (k : Nat), k ≤ l.length ∧ i = .int .i64 k ∧ Hid (s ≠ .slice none 0 0) ∧ Hid (wr.ownsRow W1.heap.size 3 1 s k ((roomL l k).map (Value.int .i64))) ∧ Hid (Below W1.heap.size W1 wr)) (fun _ i _ => l.length - (intOf i).toNat)
  case atStart => exact ⟨0, Nat.zero_le _, rfl, (fun h => by cases h), R0, (Below.refl _ _).alloc (Nat.le_refl _) _⟩
  case round =>
    clear R0
    obtain ⟨k, hk, rfl, Hnn, How, HB⟩ := hrel
    have HW : Hid (Below w.heap.size w wr) := B1.out.trans (HB.out.mono B1.out.size)
    by_cases hlt : k < l.length
    · obtain ⟨la', lp', e, hrows⟩ := HL.out.below HW.out
      cases e
      obtain ⟨bb, off, rfl, hat⟩ := hrows (by omega)
      obtain ⟨d1, d2, c0, c1, c2', c3, -⟩ := hat k hlt
      have Hsu := hide (roomL_succ hlt)
      clear hat hrows HL HWS HSH HWK HI64 HR c0 c1 c2' hW1
      generalize (l[k]'hlt).2.2.2 = z3 at *
      have hws := HB.out.size
      go_wp2_with (at_builtin; refine wpList_append_own _ rfl _ _ 28 rfl W1.heap.size 3 i0 _ 1 8 Tryz.underlying28 hi0 hz0 hz1 hz2 rfl (by decide) _ _ _ rfl (How.out.alloc _) ⟨wr.heap.size, 0, none⟩ 1 1 [.int .i64 z3] rfl rfl (cell_one_at1 _ _ rfl _ _) (fun x hx => by simp at hx; rcases hx with rfl; rfl) (by unfold maxLen; omega) (by omega) (by simp; omega) ?_; intro v' w5 hown' hgrow3 hnil3)
      go_roundw
      case rel => exact ⟨k + 1, by omega, by go_num, (fun h => Hnn.out (hnil3.1 h).1), by rw [Hsu.out]; exact hown', Below.grown (HB.out.alloc HB.out.size _) hgrow3 (by simp; omega) (fun j hj => (How.out.lt _ hj).1)⟩
      case measure => simp [intOf]; omega
    · have e : k = l.length := by omega
      subst e
      have Hf : Hid (∃ g cap, u6 = Value.slice (some ⟨g, 0, none⟩) l.length cap ∧ W1.heap.size ≤ g) := by
        rcases How.out.2 with ⟨h, _⟩ | ⟨g, cap, cur, h, hg, _⟩
        · exact absurd h Hnn.out
        · exact ⟨g, cap, h, hg⟩
      obtain ⟨g, cp, hv, hg⟩ := Hf.out
      subst hv
      have How0 : Hid (wr.ownsRow W1.heap.size 3 1 (.slice (some ⟨g, 0, none⟩) l.length cp) l.length ((lefK wants l 0).map (Value.int .i64))) := by rw [← roomL_all]; exact How.out
      have P0 : Hid (PL w.heap.size g wr 28 (.slice (some ⟨w.heap.size, 0, none⟩) 0 0) (rowsK wants l 0)) := PL.none (by have := S1.out; omega) (by have := HB.out.size; have := S1.out; omega) (uowns_frame O1.out (fun x hx => HB.out.block x (ublk_lt O1.out x hx).2))
      have Sn0 : Hid (seenK wants l 0) := fun h => by omega
      clear How Hf Hnn HB O1 hW1
      go_wp2
      go_loopw [5, 8] (fun v i wr => ∃ (k : Nat), k ≤ wants.length ∧ i = .int .i64 k ∧ Hid (v ≠ .slice none 0 0) ∧ Hid (seenK wants l k) ∧ Hid (PL w.heap.size g wr 28 v (rowsK wants l k)) ∧ Hid (wr.ownsRow W1.heap.size 3 1 (.slice (some ⟨g, 0, none⟩) l.length cp) l.length ((lefK wants l k).map (Value.int .i64))) ∧ Hid (Below w.heap.size w wr)) (fun _ i _ => wants.length - (intOf i).toNat)
      case atStart => exact ⟨0, Nat.zero_le _, rfl, (fun h => by cases h), Sn0, P0, How0, HW⟩
      case round =>
        clear P0 How0 HW Sn0
        obtain ⟨k, hk, rfl, Hnn, HS, HP, How, HW⟩ := hrel
        have hs3 : g < wr.heap.size := owns_in How.out
        have hww0 : w.heap.size ≤ wr.heap.size := HW.out.size
        by_cases hlt : k < wants.length
        · obtain ⟨wa', wp', e, hrows⟩ := HWS.out.below HW.out
          cases e
          obtain ⟨bb, off, rfl, hat⟩ := hrows (by omega)
          obtain ⟨d1, d2, d3, c0, c1, c2', c3, ⟨a1, p1, rfl, g1⟩, ⟨a2, p2, rfl, g2⟩, a3, p3, rfl, g3⟩ := hat k hlt
          have hbb := World.block_lt_of_cell? _ _ c0
          obtain ⟨hAl, hAi⟩ := HI64.out k hk HS.out
          have HSk := hide (HSH.out k hlt [.int .i64 (wants[k]'hlt).1, .slice a1 (wants[k]'hlt).2.1.length p1, .slice a2 (wants[k]'hlt).2.2.1.length p2, .slice a3 (wants[k]'hlt).2.2.2.length p3] _ wr hAl hAi ⟨_, _, _, rfl, ⟨_, _, rfl, g1⟩, ⟨_, _, rfl, g2⟩, _, _, rfl, g3⟩ HW.out (owns_uS hAl How.out))
          have HWk : Hid (∀ wx, Below wr.heap.size wr wx → Calls Tryz.prog 65 #[.agg #[.int .i64 (wants[k]'hlt).1, .slice a1 (wants[k]'hlt).2.1.length p1, .slice a2 (wants[k]'hlt).2.2.1.length p2, .slice a3 (wants[k]'hlt).2.2.2.length p3]] wx fun e w' => e = .returned (.bool (wanB (wants[k]'hlt))) ∧ Below wx.heap.size wx w') := fun wx hb => HWK.out k hlt [.int .i64 (wants[k]'hlt).1, .slice a1 (wants[k]'hlt).2.1.length p1, .slice a2 (wants[k]'hlt).2.2.1.length p2, .slice a3 (wants[k]'hlt).2.2.2.length p3] wx (waH.below ⟨_, _, _, rfl, ⟨_, _, rfl, g1⟩, ⟨_, _, rfl, g2⟩, _, _, rfl, g3⟩ hb)
          have HC4 : Hid (∀ wx, Below wr.heap.size wr wx → wx.cell? ⟨bb, off + k * 4, none⟩ = some (.int .i64 (wants[k]'hlt).1) ∧ wx.cell? ⟨bb, off + k * 4 + 1, none⟩ = some (.slice a1 (wants[k]'hlt).2.1.length p1) ∧ wx.cell? ⟨bb, off + k * 4 + 2, none⟩ = some (.slice a2 (wants[k]'hlt).2.2.1.length p2) ∧ wx.cell? ⟨bb, off + k * 4 + 3, none⟩ = some (.slice a3 (wants[k]'hlt).2.2.2.length p3)) := fun wx hb => ⟨(hb.cell (p := ⟨bb, off + k * 4, none⟩) hbb).trans c0, (hb.cell (p := ⟨bb, off + k * 4 + 1, none⟩) hbb).trans c1, (hb.cell (p := ⟨bb, off + k * 4 + 2, none⟩) hbb).trans c2', (hb.cell (p := ⟨bb, off + k * 4 + 3, none⟩) hbb).trans c3⟩
          have F1 : Hid (¬ wants.length ≤ 40 → R = []) := fun h => HR.out.trans (plan_no_40 h)
          have F2 : Hid (wanB (wants[k]'hlt) = false → R = []) := fun h => HR.out.trans (plan_no_want hlt h)
          have F3 : Hid ((rowK wants l k).length ≠ l.length → R = []) := fun h => HR.out.trans (plan_no_len hlt h)
          have HNX : Hid (wants.length ≤ 40 → wanB (wants[k]'hlt) = true → (rowK wants l k).length = l.length → seenK wants l (k + 1) ∧ ∀ j, j < l.length → (0 ≤ gI (rowK wants l k) j ∧ gI (rowK wants l k) j ≤ gI (lefK wants l k) j) ∧ gI (lefK wants l k) j ≤ 10000) := fun h1 h2 h3 => by
            have hn := seen_next hlt HS.out h1 h2 h3
            refine ⟨fun _ => hn, fun j hj => ?_⟩
            have hr := rowK_right hlt hn.2
            have hb := lefK_right k (by omega) ⟨hn.2.1, fun i hi hik => hn.2.2 i hi (by omega)⟩
            rw [gI_get (show j < (rowK wants l k).length by omega), gI_get (show j < (lefK wants l k).length by omega)]
            exact ⟨hr.2 j (by omega) (by omega), (hb.2 _ (List.getElem_mem _)).2⟩
          have Hls := hide (lefK_succ (l := l) hlt)
          have Hrs := hide (rowsK_succ wants l k)
          have hrl := rowsK_len wants l k
          clear hat hrows g1 g2 g3 hAi HSH HWK HI64 hbb HR HWS HL
          generalize lefK wants l k = A at *
          generalize rowK wants l k = ZR at *
          generalize rowsK wants l k = RS at *
          generalize wanB (wants[k]'hlt) = rw0 at *
          generalize (wants[k]'hlt).1 = z0 at *
          generalize (wants[k]'hlt).2.1.length = z1 at *
          generalize (wants[k]'hlt).2.2.1.length = z2 at *
          generalize (wants[k]'hlt).2.2.2.length = z3 at *
          go_wp2_with fail
          refine HSk.out.mono ?_
          rintro e w4 ⟨b, rfl, hro, hbs, hb4⟩
          have B4 : Hid (Below wr.heap.size wr w4) := hb4
          have HRo := hide hro
          clear hb4 c0 c1 c2' c3 HSk hro
          by_cases h40 : wants.length ≤ 40
          rotate_left
          · have h40' : (40 : Int) < (wants.length : Int) := by omega
            have Hn := F1.out h40
            subst Hn
            have HB4 : Hid (Below w.heap.size w w4) := HW.out.trans (B4.out.mono HW.out.size)
            clear F1 F2 F3 HNX HWk HC4
            go_wp2
            go_ret
            exact ⟨_, rfl, uS_empty _ _ _ _ _, HB4.out.alloc HB4.out.size _⟩
          have h40' : ¬ (40 : Int) < (wants.length : Int) := by omega
          obtain ⟨v0, v1, v2, v3⟩ := HC4.out w4 B4.out
          go_wp2_with fail
          refine (HWk.out _ B4.out).mono ?_
          rintro e w5 ⟨rfl, hb5⟩
          have B5 : Hid (Below wr.heap.size wr w5) := B4.out.trans (hb5.mono B4.out.size)
          have HB5 : Hid (Below w.heap.size w w5) := HW.out.trans (B5.out.mono HW.out.size)
          have HRo5 := hide (rowIs_below HRo.out hb5)
          have hs5 : wr.heap.size ≤ w5.heap.size := B5.out.size
          clear hb5 v0 v1 v2 v3 HWk HC4 HRo B4
          cases rw0 with
          | false =>
            have Hn := F2.out (by first | rfl | trivial)
            subst Hn
            clear F1 F2 F3 HNX
            go_wp2
            go_ret
            exact ⟨_, rfl, uS_empty _ _ _ _ _, HB5.out.alloc HB5.out.size _⟩
          | true =>
          by_cases hzl : ZR.length = l.length
          rotate_left
          · have hne : ((ZR.length : Int) != (l.length : Int)) = true := by simp; omega
            have Hn := F3.out hzl
            subst Hn
            clear F1 F2 F3 HNX
            go_wp2
            go_ret
            exact ⟨_, rfl, uS_empty _ _ _ _ _, HB5.out.alloc HB5.out.size _⟩
          obtain ⟨hsn, hbd⟩ := HNX.out h40 (by first | rfl | trivial) hzl
          have HSN := hide hsn
          have HBD := hide hbd
          have HZL := hide hzl
          have hne : ((l.length : Int) != (l.length : Int)) = false := by simp
          have How5 := hide (owns_below_any How.out B5.out)
          have hoz := rowIs_oS HRo5.out (by unfold maxLen; omega) hbs
          rw [ofFn_gI] at hoz
          rw [hzl] at hoz HRo5 ⊢
          have HO := hide hoz
          clear hsn hbd F1 F2 F3 HNX hzl hoz
          go_wp2
          have Y0 : Hid (∀ j, j < A.length → (A.map (Value.int .i64))[j]? = some (.int .i64 (subV A ZR 0 j))) := fun j hj => by rw [gI_map hj, subV_zero]
          go_loopw [10] (fun i wq => ∃ (q : Nat) (ys : List Value), q ≤ l.length ∧ i = .int .i64 q ∧ Hid (wq.ownsRow W1.heap.size 3 1 (.slice (some ⟨g, 0, none⟩) l.length cp) l.length ys) ∧ Hid (∀ j, j < A.length → ys[j]? = some (.int .i64 (subV A ZR q j))) ∧ Hid (OutS [g] w5 wq) ∧ Hid (Below w.heap.size w wq)) (fun i _ => l.length - (intOf i).toNat)
          case atStart => exact ⟨0, _, Nat.zero_le _, rfl, How5, Y0, OutS.refl _ _, HB5⟩
          case round =>
            clear How5 Y0 HB5
            obtain ⟨q, ys, hq, rfl, How6, HY, HOu, HB6⟩ := hrel
            by_cases hqlt : q < l.length
            · have hbl := HRo5.out.lt
              have c1 := (rowIs_out (w' := wr) HRo5.out (HOu.out.block b hbl (by simp; omega))).cell hqlt
              have c2 := (How6.out.cellAt q (by omega)).trans ((HY.out q (by omega)).trans (by rw [(subV_here A ZR q).1]))
              have f2 := How6.out.frozenAt q
              obtain ⟨hb1, hb2⟩ := HBD.out q (by omega)
              have Hst := hide (subV_set (by have := How6.out.1; omega) (show q < A.length by omega) HY.out)
              have hgw : g < wr.heap.size := owns_in How6.out
              clear HY HO HP HRo5
              generalize gI ZR q = Y at *
              generalize gI A q = X at *
              go_wp2
              go_region
              all_goals (
                go_wp2
                have s1 := How6.out.stored q (.int .i64 (X - Y))
                have hsb : Below w.heap.size w (wr.setCell ⟨g, q, none⟩ (.int .i64 (X - Y))) := HB6.out.setCell (by show w.heap.size ≤ g; have := S1.out; omega) _
                go_roundw
                case rel => exact ⟨q + 1, _, by omega, by go_num, uowns_frame s1.1 (fun _ _ => rfl), Hst, (HOu.out.setCell (p := ⟨g, q, none⟩) (by simp) _).trans (OutS.of_below (by repeat (first | with_reducible exact Below.refl _ _ | with_reducible refine Below.drew ?_))), hsb.drew⟩
                case measure => simp [intOf]; omega)
            · have e : q = A.length := by omega
              have Hys : Hid (ys = (subL A ZR).map (Value.int .i64)) := subV_end (by have := HZL.out; omega) (by have := How6.out.1; omega) (fun j hj => by have := HY.out j hj; rwa [e] at this)
              obtain ⟨xs, S, hpl⟩ := HP.out
              have hpq := hpl.frame (w' := wr) (fun x hx hne => (HOu.out.block x (by omega) (by simp; exact hne)).trans (B5.out.block x hx))
              have hpq1 := hide (hpq.frame (w' := wr.alloc (.cells #[.slice (some ⟨b, 0, none⟩) l.length l.length] 28)) (fun x hx _ => ((Below.refl wr.heap.size wr).alloc (Nat.le_refl _) _).block x (by have := HOu.out.size; omega)))
              have hoq := hide ((HO.out.1.frame (w' := wr) (fun x hx => HOu.out.block x (HO.out.2.2 x hx).2 (by have := (HO.out.2.2 x hx).1; simp; omega))).below (w' := wr.alloc (.cells #[.slice (some ⟨b, 0, none⟩) l.length l.length] 28)) ((Below.refl _ _).alloc (Nat.le_refl _) _))
              have hsz := HOu.out.size
              have hs1 := S1.out
              clear hs1
              have hbw : w.heap.size ≤ wr.heap.size := HB6.out.size
              clear hpl hpq HY HP HRo5
              go_wp2_with (at_builtin; refine wpList_append_own_at _ rfl _ _ 49 rfl w.heap.size 28 i1 _ 1 24 Tryz.underlying49 hi1 hy0 hy1 hy2 rfl (by decide) _ _ _ rfl hpq1.out.1 ⟨wr.heap.size, 0, none⟩ 1 1 [.slice (some ⟨b, 0, none⟩) l.length l.length] rfl rfl (cell_one_at1 _ _ rfl _ _) (fun x hx => by simp at hx; rcases hx with rfl; rfl) (by unfold maxLen; omega) (by omega) (by simp; omega) ?_; intro v' w6 hown hgrow hnil hat)
              have HP6 : Hid (PL w.heap.size g w6 28 v' (RS ++ [ZR])) := hpq1.out.snoc hs3 (Nat.le_refl _) (by rw [HZL.out]; exact hoq.out) (HO.out.2.mono (Nat.le_refl _) (by simp; omega)) (by omega) (by simp; omega) hown hgrow hat
              have How7 : Hid (w6.ownsRow W1.heap.size 3 1 (.slice (some ⟨g, 0, none⟩) l.length cp) l.length ((subL A ZR).map (Value.int .i64))) := by
                rw [← Hys.out]
                refine uowns_frame (How6.out.alloc (.cells #[.slice (some ⟨b, 0, none⟩) l.length l.length] 28)) (fun x hx => ?_)
                have hx' : x = g := by simpa [blkOf, Value.ownBlock] using hx
                subst hx'
                refine hgrow.block _ (by simp; omega) (fun h => hpq1.out.2.2.2.2.2.1 ?_)
                have h' : u5.ownBlock = some x := h.symm
                unfold blkOf
                rw [h']; simp
              have HB7 : Hid (Below w.heap.size w w6) := Below.grown (HB6.out.alloc HB6.out.size _) hgrow (by simp; omega) (fun j hj => (hpq1.out.1.lt _ hj).1)
              go_roundw
              case rel => exact ⟨k + 1, by omega, by go_num, (fun h => Hnn.out (hnil.1 h).1), HSN, by rw [Hrs.out]; exact HP6, by rw [Hls.out]; exact How7, HB7⟩
              case measure => simp [intOf]; omega
        · have e : k = wants.length := by omega
          subst e
          have HRd : Hid (R = rowsK wants l wants.length) := by
            rcases Nat.eq_zero_or_pos wants.length with h0 | hp
            · have : wants = [] := List.eq_nil_of_length_eq_zero h0
              subst this
              show _ = _
              rw [HR.out]
              unfold planL
              split <;> rfl
            · obtain ⟨h1, h2⟩ := HS.out hp
              exact HR.out.trans (planL_yes h1 h2)
          obtain ⟨S, hd1, hd2⟩ := HP.out.done HW.out.size
          have HD1 : Hid (uS wr 0 wr.heap.size 1 (rowsK wants l wants.length).length (rowsU (rowsK wants l wants.length)) u5) := hd1.u (fun x hx => ⟨Nat.zero_le _, (hd2.2 x hx).2⟩)
          obtain ⟨va, vp, rfl⟩ := HP.out.slice
          clear hd1 hd2 HP How Hnn HSH HWK HI64 HWS HL HR HS
          go_wp2
          go_ret
          exact ⟨_, rfl, by rw [HRd.out]; exact HD1.out, HW.out⟩
end Go.Proofs.YtdnodaoeflbfkaaGreat
/- Who may run it: both sides alike: Plans. -/
namespace Go.Proofs.YtdnodaoeflbfkaaGreat
open Go.RowKit Go.BigFrame
set_option linter.unusedVariables false
theorem shrL_small (W : WaD) (l : List IsD) (left : List Int) : (∀ x ∈ shrL W l left, inK .i64 x) ∧ (shrL W l left).length ≤ 64 := by
  unfold shrL
  split
  · exact div_small (dvdL_says _ _ _)
  · exact ⟨fun x hx => by (cases hx), by decide⟩
theorem planL_small (wants : List WaD) (l : List IsD) : (planL wants l).length ≤ 40 ∧ ∀ z ∈ planL wants l, (∀ x ∈ z, inK .i64 x) ∧ z.length ≤ 64 := by
  by_cases h : planB wants l = true
  · have h40 := (planB_all h).1
    unfold planL
    rw [if_pos h]
    refine ⟨by rw [rowsK_len]; exact h40, fun z hz => ?_⟩
    obtain ⟨k, hk, rfl⟩ := List.mem_map.1 hz
    rw [rowK_eq (List.mem_range.1 hk)]
    exact shrL_small _ _ _
  · unfold planL
    rw [if_neg h]
    exact ⟨by decide, fun z hz => by (cases hz)⟩
theorem plans_both (nA0 : Nat) (csA0 : UD) (nA1 : Nat) (csA1 : UD) (htA0 : tyS 4 nA0 csA0 16) (htA1 : tyS 4 nA1 csA1 14) (hw : (nA0 + wt csA0) + (nA1 + wt csA1) ≤ 1048576) :
    ∃ (nR0 : Nat) (csR0 : UD), tyS 1 nR0 csR0 3 ∧ cnt csR0 ≤ 50000000 ∧ (∀ (w : World) (loA0 hiA0 : Nat) (cA0 : Value) (loA1 hiA1 : Nat) (cA1 : Value), uS w loA0 hiA0 4 nA0 csA0 cA0 → uS w loA1 hiA1 4 nA1 csA1 cA1 → Calls Tryz.prog 25 #[cA0, cA1] w fun e w' => ∃ (cR0 : Value), e = .returned (cR0) ∧ uS w' 0 w'.heap.size 1 nR0 csR0 cR0 ∧ Below w.heap.size w w') ∧
    (∀ (w : World) (loA0 hiA0 : Nat) (cA0 : Value) (loA1 hiA1 : Nat) (cA1 : Value), uS w loA0 hiA0 4 nA0 csA0 cA0 → uS w loA1 hiA1 4 nA1 csA1 cA1 → Calls Tryz.prog 27 #[cA0, cA1] w fun e w' => ∃ (cR0 : Value) (SR0 : List Nat), e = .returned (cR0) ∧ oS w' 1 nR0 csR0 cR0 SR0 ∧ own2 SR0 w.heap.size w'.heap.size ∧ Below w.heap.size w w') := by
  obtain ⟨wants, hn, hqw, hW⟩ := was_of htA0
  obtain ⟨l, hl, hql, hI⟩ := iss_of htA1
  subst hn hl
  obtain ⟨h40, hz⟩ := planL_small wants l
  have hc := rowsU_cnt (planL wants l) (fun z hx => (hz z hx).2)
  refine ⟨(planL wants l).length, rowsU (planL wants l), ⟨by decide, rfl, by unfold maxLen; omega, rowsU_len _, rowsU_ty _ 0 hz⟩, by omega,
    fun w lo hi c lo' hi' c' hx hy => sPlans_any wants l c c' w hqw htA0.2.2.1 hql (by omega) (hW w lo hi c hx) (hI w lo' hi' c' hy),
    fun w lo hi c lo' hi' c' hx hy => iPlans_any wants l c c' w hqw htA0.2.2.1 hql htA1.2.2.1 (hW w lo hi c hx) (hI w lo' hi' c' hy)⟩
end Go.Proofs.YtdnodaoeflbfkaaGreat
/- Data as cells: the helpers of the laws over Term. -/
namespace Go.Proofs.YtdnodaoeflbfkaaGreat
open Go.RowKit Go.BigFrame
set_option linter.unusedVariables false

set_option maxHeartbeats 800000 in
theorem uszTerm_any {lo hi : Nat} (d : UD) (xs : List Value) (left : Int) (w : World) (ht : tyL d (uE 5)) (hx : uH w lo hi d xs) (h0 : 0 ≤ left) (h1 : left ≤ 1048576) :
    Calls Tryz.prog 134 #[.agg xs.toArray, .int .i64 left] w fun e w' => e = .returned (.int .i64 (leftI left (wt d))) ∧ Below w.heap.size w w' := by
  obtain ⟨z0, z1, n2, c2, rfl, g0, g1, g2⟩ := partsTerm ht
  obtain ⟨_, rfl, ⟨_, rfl, ⟨v2, _, rfl, s2, rfl⟩⟩⟩ := hx
  obtain ⟨a2, p2, rfl, t2⟩ := s2
  obtain ⟨M1, hM1⟩ : ∃ M, M = (n2 + wt c2) := ⟨_, rfl⟩
  have HC1 : Hid (∀ (wx : World) (l : Int), Below w.heap.size w wx → 0 ≤ l → l ≤ 1048576 → Calls Tryz.prog 48 #[.slice a2 n2 p2, .int .i64 l] wx fun e w' => e = .returned (.int .i64 (leftI l M1)) ∧ Below wx.heap.size wx w') := fun wx l hb q0 q1 => hM1 ▸ uszStringS_any (lo := lo) (hi := hi) n2 c2 _ l wx g2 q0 q1 ((show uS w lo hi 1 n2 c2 (.slice a2 n2 p2) from ⟨_, _, rfl, t2⟩).below hb)
  have E : Hid (leftI left (wt (.p (.int .i64 z0) (.p (.string z1) (.l 1 n2 c2 .nil)))) = leftI left (z1.size + (M1 + 0))) := by show _ = _; congr 1; simp only [wt, wtP, hM1]; omega
  generalize leftI left (wt (.p (.int .i64 z0) (.p (.string z1) (.l 1 n2 c2 .nil)))) = R at *
  have HA : Hid (∀ o, Below w.heap.size w (w.alloc o)) := fun o => (Below.refl _ _).alloc (Nat.le_refl _) _
  unfold maxLen at g1
  clear t2 hM1 g2
  by_cases k0 : left - (z1.size : Int) < 0
  · have EN : Hid (R = -1) := by show _ = _; rw [E.out]; exact leftI_neg _ (by omega) (by unfold leftI; split <;> omega)
    clear E
    go_enter Tryz.func134, Tryz.ntmps134
    go_wp2
    go_ret
    exact ⟨ret_intU EN.out.symm, HA.out _⟩
  replace E : Hid (R = leftI (left - (z1.size : Int)) (M1 + 0)) := by
    obtain ⟨q1, q2, q3⟩ := leftI_pos (x := left) (a := z1.size) (M1 + 0) (by unfold leftI; split <;> omega)
    show _ = _; rw [E.out, q1, q2]
  obtain ⟨y1, hy1⟩ : ∃ y, y = leftI (left - (z1.size : Int)) M1 := ⟨_, rfl⟩
  have Y1 := uhide hy1
  by_cases k1 : y1 < 0
  · have EN : Hid (R = -1) := by show _ = _; rw [E.out]; exact leftI_neg _ (by omega) (by rw [← hy1]; exact k1)
    clear E hy1
    go_enter Tryz.func134, Tryz.ntmps134
    go_wp2_with fail
    refine (HC1.out _ _ (HA.out _) (by omega) (by omega)).mono ?_
    rintro e w1 ⟨rfl, hb1⟩
    have B1 : Hid (Below w.heap.size w w1) := (HA.out _).trans (hb1.mono (by simp))
    clear hb1
    rw [show leftI (left - (z1.size : Int)) M1 = y1 from Y1.out.symm]
    go_wp2
    go_ret
    exact ⟨ret_intU EN.out.symm, B1.out⟩
  replace E : Hid (R = leftI y1 (0)) := by
    obtain ⟨q1, q2, q3⟩ := leftI_pos (x := (left - (z1.size : Int))) (a := M1) (0) (by rw [← hy1]; exact k1)
    show _ = _; rw [E.out, q1, ← hy1]
  have u1 : y1 ≤ (left - (z1.size : Int)) := by rw [hy1]; unfold leftI; split <;> omega
  clear hy1
  replace E : Hid (R = y1) := E.out.trans (leftI_zero (by omega))
  go_enter Tryz.func134, Tryz.ntmps134
  go_wp2_with fail
  refine (HC1.out _ _ (HA.out _) (by omega) (by omega)).mono ?_
  rintro e w1 ⟨rfl, hb1⟩
  have B1 : Hid (Below w.heap.size w w1) := (HA.out _).trans (hb1.mono (by simp))
  clear hb1
  rw [show leftI (left - (z1.size : Int)) M1 = y1 from Y1.out.symm]
  go_wp2
  go_ret
  exact ⟨ret_intU E.out.symm, B1.out⟩
set_option maxHeartbeats 800000 in
theorem uszTermS_any {lo hi : Nat} (n : Nat) (cs : UD) (c : Value) (left : Int) (w : World) (ht : tyS 3 n cs 5) (h0 : 0 ≤ left) (h1 : left ≤ 1048576) (hx : uS w lo hi 3 n cs c) :
    Calls Tryz.prog 62 #[c, .int .i64 left] w fun e w' => e = .returned (.int .i64 (leftI left (n + wt cs))) ∧ Below w.heap.size w w' := by
  obtain ⟨a, cap, rfl, hx2⟩ := hx
  have Hx : Hid (uS w lo hi 3 n cs (.slice a n cap)) := ⟨a, cap, rfl, hx2⟩
  have hmx := ht.2.2.1
  unfold maxLen at hmx
  have Ht := uhide ht
  clear hx2 ht
  by_cases c1 : left - (n : Int) < 0
  · have E : Hid (leftI left (n + wt cs) = -1) := by show _ = _; unfold leftI; rw [if_pos (by omega)]
    go_enter Tryz.func62, Tryz.ntmps62
    go_wp2
    go_ret
    exact ⟨ret_intU E.out.symm, Below.refl _ _⟩
  have E : Hid (leftI left (n + wt cs) = leftI (left - n) (wt (cs.dropN (0 * 3)))) := by
    show _ = _
    obtain ⟨g1, g2, g3⟩ := leftI_pos (x := left) (a := n) (wt cs) (by unfold leftI; split <;> omega)
    rw [g1, g2, Nat.zero_mul, UD.dropN_zero]
  go_enter Tryz.func62, Tryz.ntmps62
  go_wp2
  go_loopw [1, 5] (fun l i wr => ∃ (q : Nat) (x : Int), q ≤ n ∧ i = .int .i64 q ∧ l = .int .i64 x ∧ 0 ≤ x ∧ x ≤ 1048576 ∧ Hid (leftI left (n + wt cs) = leftI x (wt (cs.dropN (q * 3)))) ∧ Below w.heap.size w wr) (fun _ i _ => n - (intOf i).toNat)
  case atStart => exact ⟨0, _, Nat.zero_le _, rfl, rfl, by omega, by omega, E, Below.refl _ _⟩
  case round =>
    obtain ⟨q, x, hq, rfl, rfl, hx0, hx1, Hs, hbw⟩ := hrel
    by_cases hlt : q < n
    · obtain ⟨b, off, rfl, hbb, hm⟩ := (Hx.out.below hbw).cells (by omega)
      have htr := Ht.out.row hlt
      have hr := hm.row 3 q
      have hw : wt (cs.dropN (q * 3)) = wt (rowU cs 3 q) + wt (cs.dropN ((q + 1) * 3)) := by rw [UD.drop_row cs 3 q, wt_app]
      have hsz := uszD_row cs 3 q
      obtain ⟨xs, hh, hcl⟩ := hr.hand
      have Hcon : Hid (∀ wx, Below wr.heap.size wr wx → Calls Tryz.prog 134 #[.agg xs.toArray, .int .i64 x] wx fun e w' => e = .returned (.int .i64 (leftI x (wt (rowU cs 3 q)))) ∧ Below wx.heap.size wx w') := fun wx hb => uszTerm_any (lo := lo) (hi := hi) _ _ x wx htr (hh.below hb) hx0 hx1
      obtain ⟨z0, z1, n2, c2, hR, g0, g1, g2⟩ := partsTerm htr
      rw [hR] at hh
      obtain ⟨_, rfl, ⟨_, rfl, ⟨v2, _, rfl, s2, rfl⟩⟩⟩ := hh
      obtain ⟨a2, p2, rfl, t2⟩ := s2
      have q0 : wr.cell? ⟨b, off + q * 3, none⟩ = some (.int .i64 z0) := hcl 0 _ rfl
      have q1 : wr.cell? ⟨b, off + q * 3 + 1, none⟩ = some (.string z1) := hcl 1 _ rfl
      have q2 : wr.cell? ⟨b, off + q * 3 + 2, none⟩ = some (.slice a2 n2 p2) := hcl 2 _ rfl
      clear hR hcl hr hm htr hsz g0 g1 g2 t2
      generalize wt (rowU cs 3 q) = m at *
      have hneg0 := fun h => leftI_neg (x := x) (a := m) (wt (cs.dropN ((q + 1) * 3))) hx0 h
      have hpos0 := fun h => leftI_pos (x := x) (a := m) (wt (cs.dropN ((q + 1) * 3))) h
      have hle0 : leftI x m ≤ x := by unfold leftI; split <;> omega
      generalize leftI x m = y at *
      by_cases hneg : y < 0
      · have hr : Hid (leftI left (n + wt cs) = -1) := by show _ = _; rw [Hs.out, hw]; exact hneg0 hneg
        clear hw Hs E hneg0 hpos0
        go_wp2_with fail
        refine (Hcon.out _ (by repeat (first | exact Below.refl _ _ | refine Below.alloc ?_ (by simp) _))).mono ?_
        rintro e w1 ⟨rfl, hb⟩
        go_wp2
        go_ret
        exact ⟨ret_intU hr.out.symm, hbw.trans (hb.mono hbw.size)⟩
      · have hr : Hid (leftI left (n + wt cs) = leftI y (wt (cs.dropN ((q + 1) * 3)))) := by
          show _ = _
          rw [Hs.out, hw]; exact (hpos0 hneg).1
        clear hw Hs E hneg0 hpos0
        go_wp2_with fail
        refine (Hcon.out _ (by repeat (first | exact Below.refl _ _ | refine Below.alloc ?_ (by simp) _))).mono ?_
        rintro e w1 ⟨rfl, hb⟩
        go_wp2
        go_roundw
        case rel => exact ⟨q + 1, _, by omega, by go_num, rfl, by omega, by omega, hr, hbw.trans (hb.mono hbw.size)⟩
        case measure => simp [intOf]; omega
    · have e : q = n := by omega
      subst e
      have hr : Hid (leftI left (q + wt cs) = x) := by
        show _ = _
        rw [Hs.out, ← Ht.out.2.2.2.1, UD.dropN_all]
        exact leftI_zero hx0
      clear Hs E
      go_wp2
      go_ret
      exact ⟨ret_intU hr.out.symm, hbw⟩
set_option maxHeartbeats 800000 in
theorem ueqTerm_any {lo hi lo' hi' : Nat} (d : UD) (xs ys : List Value) (w : World) (ht : tyL d (uE 5)) (hx : uH w lo hi d xs) (hy : uH w lo' hi' d ys) :
    Calls Tryz.prog 160 #[.agg xs.toArray, .agg ys.toArray] w fun e w' => e = .returned (.bool true) ∧ Below w.heap.size w w' := by
  obtain ⟨z0, z1, n2, c2, rfl, g0, g1, g2⟩ := partsTerm ht
  obtain ⟨_, rfl, ⟨_, rfl, ⟨v2l, _, rfl, s2l, rfl⟩⟩⟩ := hx
  obtain ⟨a2l, p2l, rfl, t2l⟩ := s2l
  obtain ⟨_, rfl, ⟨_, rfl, ⟨v2r, _, rfl, s2r, rfl⟩⟩⟩ := hy
  obtain ⟨a2r, p2r, rfl, t2r⟩ := s2r
  have HC0 : Hid (∀ wx : World, Below w.heap.size w wx → Calls Tryz.prog 54 #[.slice a2l n2 p2l, .slice a2r n2 p2r] wx fun e w' => e = .returned (.bool true) ∧ Below wx.heap.size wx w') := fun wx hb => ueqStringS_any (lo := lo) (hi := hi) (lo' := lo') (hi' := hi') n2 c2 _ _ wx g2 ((show uS w lo hi 1 n2 c2 (.slice a2l n2 p2l) from ⟨_, _, rfl, t2l⟩).below hb) ((show uS w lo' hi' 1 n2 c2 (.slice a2r n2 p2r) from ⟨_, _, rfl, t2r⟩).below hb)
  have e0 : (z0 != z0) = false := by simp
  have e1 : (z1.toList == z1.toList) = true := by simp
  have HB : Hid (∀ o o', Below w.heap.size w ((w.alloc o).alloc o')) := fun o o' => ((Below.refl _ _).alloc (Nat.le_refl _) _).alloc (by simp) _
  clear g0 g1 g2 t2l t2r
  go_enter Tryz.func160, Tryz.ntmps160
  go_wp2_with fail
  refine (HC0.out _ (HB.out _ _)).mono ?_
  rintro e w1 ⟨rfl, hb1⟩
  have B1 : Hid (Below w.heap.size w w1) := (HB.out _ _).trans (hb1.mono (by simp; omega))
  clear hb1
  go_wp2
  go_ret
  exact ⟨rfl, B1.out⟩
set_option maxHeartbeats 800000 in
theorem ueqTermS_any {lo hi lo' hi' : Nat} (n : Nat) (cs : UD) (c c' : Value) (w : World) (ht : tyS 3 n cs 5) (hx : uS w lo hi 3 n cs c) (hy : uS w lo' hi' 3 n cs c') :
    Calls Tryz.prog 79 #[c, c'] w fun e w' => e = .returned (.bool true) ∧ Below w.heap.size w w' := by
  obtain ⟨a, cap, rfl, hx2⟩ := hx
  obtain ⟨a', cap', rfl, hy2⟩ := hy
  have Hx : Hid (uS w lo hi 3 n cs (.slice a n cap)) := ⟨a, cap, rfl, hx2⟩
  have Hy : Hid (uS w lo' hi' 3 n cs (.slice a' n cap')) := ⟨a', cap', rfl, hy2⟩
  have hmx := ht.2.2.1
  unfold maxLen at hmx
  have Ht := uhide ht
  have hb0 : ((n : Int) != (n : Int)) = false := by simp
  clear hx2 hy2 ht
  go_enter Tryz.func79, Tryz.ntmps79
  go_wp2
  go_loopw [5] (fun i wr => ∃ (q : Nat), q ≤ n ∧ i = .int .i64 q ∧ Below w.heap.size w wr) (fun i _ => n - (intOf i).toNat)
  case atStart => exact ⟨0, Nat.zero_le _, rfl, Below.refl _ _⟩
  case round =>
    obtain ⟨q, hq, rfl, hbw⟩ := hrel
    by_cases hlt : q < n
    · obtain ⟨b, off, rfl, hbb, hm⟩ := (Hx.out.below hbw).cells (by omega)
      obtain ⟨b', off', rfl, hbb', hm'⟩ := (Hy.out.below hbw).cells (by omega)
      have htr := Ht.out.row hlt
      have hsz := uszD_row cs 3 q
      obtain ⟨xs, hh, hcl⟩ := (hm.row 3 q).hand
      obtain ⟨ys, hh', hcl'⟩ := (hm'.row 3 q).hand
      have Hcon : Hid (∀ wx, Below wr.heap.size wr wx → Calls Tryz.prog 160 #[.agg xs.toArray, .agg ys.toArray] wx fun e w' => e = .returned (.bool true) ∧ Hid (Below w.heap.size w w')) := fun wx hb => (ueqTerm_any (lo := lo) (hi := hi) (lo' := lo') (hi' := hi') _ _ _ wx htr (hh.below hb) (hh'.below hb)).mono fun e w' h => ⟨h.1, (hbw.trans (hb.mono hbw.size)).trans (h.2.mono (Nat.le_trans hbw.size hb.size))⟩
      obtain ⟨z0, z1, n2, c2, hR, g0, g1, g2⟩ := partsTerm htr
      rw [hR] at hh hh'
      obtain ⟨_, rfl, ⟨_, rfl, ⟨v2l, _, rfl, s2l, rfl⟩⟩⟩ := hh
      obtain ⟨a2l, p2l, rfl, t2l⟩ := s2l
      obtain ⟨_, rfl, ⟨_, rfl, ⟨v2r, _, rfl, s2r, rfl⟩⟩⟩ := hh'
      obtain ⟨a2r, p2r, rfl, t2r⟩ := s2r
      have q0 : wr.cell? ⟨b, off + q * 3, none⟩ = some (.int .i64 z0) := hcl 0 _ rfl
      have q1 : wr.cell? ⟨b, off + q * 3 + 1, none⟩ = some (.string z1) := hcl 1 _ rfl
      have q2 : wr.cell? ⟨b, off + q * 3 + 2, none⟩ = some (.slice a2l n2 p2l) := hcl 2 _ rfl
      have r0 : wr.cell? ⟨b', off' + q * 3, none⟩ = some (.int .i64 z0) := hcl' 0 _ rfl
      have r1 : wr.cell? ⟨b', off' + q * 3 + 1, none⟩ = some (.string z1) := hcl' 1 _ rfl
      have r2 : wr.cell? ⟨b', off' + q * 3 + 2, none⟩ = some (.slice a2r n2 p2r) := hcl' 2 _ rfl
      clear hR hcl hcl' hm hm' htr hsz g0 g1 g2 t2l t2r
      clear Hx Hy Ht
      go_wp2
      go_region_with (go_at_call 160; refine (Hcon.out _ (by repeat (first | exact Below.refl _ _ | refine Below.drew ?_ | refine below_drewN ?_ _))).mono ?_; rintro e w2 ⟨rfl, hb2⟩)
      all_goals go_wp2
      all_goals (
        go_roundw
        case rel => exact ⟨q + 1, by omega, by go_num, by repeat (first | exact hb2.out | refine Below.drew ?_ | refine below_drewN ?_ _)⟩
        case measure => simp [intOf]; omega)
    · have e : q = n := by omega
      subst e
      go_wp2
      go_ret
      exact ⟨rfl, hbw⟩
set_option maxHeartbeats 1600000 in
theorem umarkTermS_any (n k0 : Nat) (cs : UD) (c : Value) (S : List Nat) (w : World) (ht : tyS 3 n cs 5) (hnd : S.Nodup) (hk0 : 1 ≤ k0) (hk1 : k0 + cnt cs ≤ 100000000) (hx : oS w 3 n cs c S) :
    Calls Tryz.prog 82 #[c, .int .i64 k0] w fun e w' => e = .returned (.int .i64 (k0 + cnt cs : Nat)) ∧ oS w' 3 n (mk cs k0) c S ∧ OutS S w w' := by
  obtain ⟨a, cap, rfl⟩ := hx.slice
  have hmx := ht.2.2.1
  unfold maxLen at hmx
  rcases Nat.eq_zero_or_pos n with h0 | hpos
  · subst h0
    obtain ⟨e1, e2⟩ := hx.empty rfl k0
    rw [e1, e2]
    have Hx := uhide hx
    clear hx ht hnd e1 e2
    go_enter Tryz.func82, Tryz.ntmps82
    go_wp2
    go_loopw [1, 5] (fun s i wr => i = .int .i64 0 ∧ s = .int .i64 k0 ∧ wr = w) (fun _ _ _ => 0)
    case atStart => exact ⟨rfl, rfl, rfl⟩
    case round =>
      obtain ⟨rfl, rfl, rfl⟩ := hrel
      go_wp2
      go_ret
      exact ⟨rfl, Hx.out, OutS.refl _ _⟩
  obtain ⟨e, g, S1, xs0, M0, rfl, hp0, hl0⟩ := MS.start hx hnd hpos k0
  obtain ⟨cap, h1, hgl⟩ := M0.own
  cases h1
  have M0 := uhide M0
  have Ht := uhide ht
  have Hp0 := uhide hp0
  have Hl0 := uhide hl0
  have Hkk : Hid (∀ q, k0 + cnt (cs.takeN (q * 3)) ≤ 100000000) := fun q => by have := cnt_le cs (q * 3); omega
  clear hx ht hnd hp0 hl0
  go_enter Tryz.func82, Tryz.ntmps82
  go_wp2
  go_loopw [1, 5] (fun s i wr => ∃ (q : Nat), q ≤ n ∧ i = .int .i64 q ∧ s = .int .i64 (k0 + cnt (cs.takeN (q * 3)) : Nat) ∧ Hid (MS w wr e 3 n (.slice (some ⟨g, 0, none⟩) n cap) g cs k0 S1 xs0 (q * 3))) (fun _ i _ => n - (intOf i).toNat)
  case atStart => exact ⟨0, Nat.zero_le _, rfl, by rw [Nat.zero_mul]; rfl, by rw [Nat.zero_mul]; exact M0⟩
  case round =>
    clear M0
    obtain ⟨q, hq, rfl, rfl, HM⟩ := hrel
    by_cases hlt : q < n
    · have htr := Ht.out.row hlt
      have hsz := uszD_row cs 3 q
      have hkn := cnt_row cs 3 q
      have hkb := Hkk.out (q + 1)
      obtain ⟨z0, z1, n2, c2, hR, g0, g1, g2⟩ := partsTerm htr
      rw [hR] at hkn hsz
      simp only [cnt, Nat.add_zero] at hkn
      obtain ⟨kq, hkq⟩ : ∃ kq, k0 + cnt (cs.takeN (q * 3)) = kq := ⟨_, rfl⟩
      have hK0 : 1 ≤ kq := by omega
      have hend : k0 + cnt (cs.takeN ((q + 1) * 3)) = (((kq + 1) + 1) + cnt c2) := by rw [hkn]; omega
      rw [hend] at hkb
      have at0 : cs.at? (q * 3) = some (.p (.int .i64 z0)) := by rw [show q * 3 = q * 3 + 0 from rfl]; rw [← rowU_at cs 3 q 0 (by omega), hR]; rfl
      have ct0 : k0 + cnt (cs.takeN (q * 3)) = kq := by exact hkq
      have x0 := Hp0.out _ _ at0
      have at1 : cs.at? (q * 3 + 1) = some (.p (.string z1)) := by rw [← rowU_at cs 3 q 1 (by omega), hR]; rfl
      have ct1 : k0 + cnt (cs.takeN (q * 3 + 1)) = (kq + 1) := by rw [cnt_at cs 3 q 1 (by omega), hR]; show k0 + (cnt (cs.takeN (q * 3)) + cnt (.p (.int .i64 z0) .nil)) = _; simp only [cnt]; omega
      have x1 := Hp0.out _ _ at1
      have at2 : cs.at? (q * 3 + 2) = some (.l 1 n2 c2) := by rw [← rowU_at cs 3 q 2 (by omega), hR]; rfl
      have ct2 : k0 + cnt (cs.takeN (q * 3 + 2)) = ((kq + 1) + 1) := by rw [cnt_at cs 3 q 2 (by omega), hR]; show k0 + (cnt (cs.takeN (q * 3)) + cnt (.p (.int .i64 z0) (.p (.string z1) .nil))) = _; simp only [cnt]; omega
      obtain ⟨a2, p2, x2⟩ := Hl0.out _ _ _ _ at2
      have HP0 : Hid (∀ (wx : World) (u : Value), MS w wx e 3 n (.slice (some ⟨g, 0, none⟩) n cap) g cs k0 S1 xs0 (q * 3) → u = .int .i64 (kq : Nat) → MS w (wx.setCell ⟨g, q * 3, none⟩ u) e 3 n (.slice (some ⟨g, 0, none⟩) n cap) g cs k0 S1 xs0 (q * 3 + 1)) := fun wx u h hu => h.plain at0 (hu.trans (by rw [ct0, mkP_int _ _ (by omega)]))
      have HP1 : Hid (∀ (wx : World) (u : Value), MS w wx e 3 n (.slice (some ⟨g, 0, none⟩) n cap) g cs k0 S1 xs0 (q * 3 + 1) → u = .string (umtx (kq + 1)) → MS w (wx.setCell ⟨g, q * 3 + 1, none⟩ u) e 3 n (.slice (some ⟨g, 0, none⟩) n cap) g cs k0 S1 xs0 (q * 3 + 2)) := fun wx u h hu => h.plain at1 (hu.trans (by rw [ct1]; rfl))
      have HT1 : Hid (∀ (wx : World) (x : Int), x = (((kq + 1) : Nat) : Int) → Calls Tryz.prog 84 #[.int .i64 x] wx fun e1 w' => e1 = .returned (.string (umtx (kq + 1))) ∧ Below wx.heap.size wx w') := fun wx x hx => by rw [hx]; exact umarkText_any _ wx (by omega) (by omega)
      have HC2 : Hid (∀ (wx : World) (x : Int), MS w wx e 3 n (.slice (some ⟨g, 0, none⟩) n cap) g cs k0 S1 xs0 (q * 3 + 2) → x = ((((kq + 1) + 1) : Nat) : Int) → Calls Tryz.prog 56 #[.slice a2 n2 p2, .int .i64 x] wx fun e1 w' => e1 = .returned (.int .i64 ((((kq + 1) + 1) + cnt c2 : Nat))) ∧ Hid (MS w w' e 3 n (.slice (some ⟨g, 0, none⟩) n cap) g cs k0 S1 xs0 (q * 3 + 3))) := by
        intro wx x h hxx
        rw [hxx]
        obtain ⟨c', T, q1, q2, q3, q5⟩ := h.part at2
        rw [x2] at q1
        cases q1
        rw [ct2] at q5
        exact (umarkStringS_any n2 ((kq + 1) + 1) c2 _ T wx g2 q3 (by omega) (by omega) q2).mono fun e1 w' h => ⟨h.1, q5 w' h.2.2 h.2.1⟩
      have HQ0 : Hid (∀ wx, MS w wx e 3 n (.slice (some ⟨g, 0, none⟩) n cap) g cs k0 S1 xs0 (q * 3) → wx.cell? ⟨g, q * 3, none⟩ = some (.int .i64 z0) ∧ wx.frozen? ⟨g, q * 3, none⟩ = false ∧ wx.cell? ⟨g, q * 3 + 1, none⟩ = some (.string z1) ∧ wx.frozen? ⟨g, q * 3 + 1, none⟩ = false ∧ wx.cell? ⟨g, q * 3 + 2, none⟩ = some (.slice a2 n2 p2) ∧ wx.frozen? ⟨g, q * 3 + 2, none⟩ = false) := fun wx h => ⟨h.cellAt _ _ (by omega) x0 (by omega), h.fz _, h.cellAt _ _ (by omega) x1 (by omega), h.fz _, h.cellAt _ _ (by omega) x2 (by omega), h.fz _⟩
      have HQ1 : Hid (∀ wx, MS w wx e 3 n (.slice (some ⟨g, 0, none⟩) n cap) g cs k0 S1 xs0 (q * 3 + 1) → wx.cell? ⟨g, q * 3 + 1, none⟩ = some (.string z1) ∧ wx.frozen? ⟨g, q * 3 + 1, none⟩ = false ∧ wx.cell? ⟨g, q * 3 + 2, none⟩ = some (.slice a2 n2 p2) ∧ wx.frozen? ⟨g, q * 3 + 2, none⟩ = false) := fun wx h => ⟨h.cellAt _ _ (by omega) x1 (by omega), h.fz _, h.cellAt _ _ (by omega) x2 (by omega), h.fz _⟩
      have HN : Hid (∀ wx, MS w wx e 3 n (.slice (some ⟨g, 0, none⟩) n cap) g cs k0 S1 xs0 (q * 3 + 3) → MS w wx e 3 n (.slice (some ⟨g, 0, none⟩) n cap) g cs k0 S1 xs0 ((q + 1) * 3)) := fun wx h => by rw [show q * 3 + 3 = (q + 1) * 3 by omega] at h; exact h
      have HE := uhide hend
      rw [hkq]
      clear hR htr hsz hkn hend hkq Ht Hkk Hp0 Hl0 g0 g1 g2 at0 at1 at2 ct0 ct1 ct2 x0 x1 x2
      generalize umtx (kq + 1) = M1 at *
      generalize cnt c2 = m2 at *
      obtain ⟨q0, f0, q1, f1, q2, f2⟩ := HQ0.out _ HM.out
      go_wp2_with fail
      refine (HT1.out _ _ (by omega)).mono ?_
      rintro e1 w1 ⟨rfl, hb1⟩
      have I1 : Hid (MS w w1 e 3 n (.slice (some ⟨g, 0, none⟩) n cap) g cs k0 S1 xs0 (q * 3 + 1)) := MS.below (HP0.out _ _ HM.out (congrArg (Value.int .i64) (by omega))) hb1
      clear hb1 q0 f0 q1 f1 q2 f2
      obtain ⟨q1, f1, q2, f2⟩ := HQ1.out _ I1.out
      go_wp2_with fail
      refine (HC2.out _ _ (HP1.out _ _ I1.out rfl) (by omega)).mono ?_
      rintro e1 w2 ⟨rfl, I2⟩
      clear q1 f1 q2 f2
      go_wp2
      go_roundw
      case rel => exact ⟨q + 1, by omega, by go_num, by rw [HE.out]; go_num, HN.out _ I2.out⟩
      case measure => (simp [intOf]; omega)
    · have e : q = n := by omega
      subst e
      obtain ⟨h1, h2⟩ := HM.out.done (by decide)
      have HD := uhide (And.intro h1 h2)
      have hl : cs.takeN (q * 3) = cs := by apply UD.ext; unfold UD.takeN; rw [UD.toL_ofL]; exact List.take_of_length_le (Nat.le_of_eq Ht.out.2.2.2.1)
      rw [hl]
      clear h1 h2 hl HM Ht Hp0 Hl0 Hkk
      go_wp2
      go_ret
      exact ⟨rfl, HD.out⟩
set_option maxHeartbeats 1600000 in
theorem utoTerm_any {lo hi : Nat} (d : UD) (xs : List Value) (w : World) (ht : tyL d (uE 5)) (hn : wt d ≤ 1048576) (hx : uH w lo hi d xs) :
    Calls Tryz.prog 143 #[.agg xs.toArray] w fun e w' => ∃ ys S, e = .returned (.agg ys.toArray) ∧ oH w' d ys S ∧ S.Nodup ∧ (∀ s ∈ S, w.heap.size ≤ s) ∧ Below w.heap.size w w' := by
  obtain ⟨z0, z1, n2, c2, rfl, g0, g1, g2⟩ := partsTerm ht
  obtain ⟨_, rfl, ⟨_, rfl, ⟨v2l, _, rfl, s2l, rfl⟩⟩⟩ := hx
  obtain ⟨a2l, p2l, rfl, t2l⟩ := s2l
  simp only [wt, wtP] at hn
  have HC0 : Hid (∀ wx : World, Below w.heap.size w wx → Calls Tryz.prog 51 #[.slice a2l n2 p2l] wx fun e w' => ∃ a p S, e = .returned (.slice a n2 p) ∧ Hid (oS w' 1 n2 c2 (.slice a n2 p) S) ∧ Hid (own2 S wx.heap.size w'.heap.size) ∧ Below wx.heap.size wx w') := fun wx hb => (utoStringS_any (lo := lo) (hi := hi) n2 c2 _ wx g2 (by omega) ((show uS w lo hi 1 n2 c2 (.slice a2l n2 p2l) from ⟨_, _, rfl, t2l⟩).below hb)).mono fun e w' ⟨c', S, h1, h2, h3, h4, h5⟩ => by
    obtain ⟨a, p, rfl⟩ := h2.slice
    exact ⟨a, p, S, h1, h2, ⟨h3, fun s hs => ⟨h4 s hs, h2.lt s hs⟩⟩, h5⟩
  have HA : Hid (∀ o1 o2 o3, Below w.heap.size w (((w.alloc o1).alloc o2).alloc o3)) := fun o1 o2 o3 => (((Below.refl _ _).alloc (Nat.le_refl _) _).alloc (by simp) _).alloc (by simp; omega) _
  clear hn ht g0 g1 g2 t2l
  go_enter Tryz.func143, Tryz.ntmps143
  go_wp2_with fail
  refine (HC0.out _ (by repeat (first | with_reducible exact HA.out _ _ _ | with_reducible assumption | with_reducible refine Below.setCell ?_ (by simp <;> omega) _))).mono ?_
  rintro e w1 ⟨a2r, p2r, S1, rfl, O1, W1, hb1⟩
  have OA1 : Hid (objU w1 w.heap.size 177 [.int .i64 z0, .string z1, .slice a2l n2 p2l]) := objU.below (by repeat (first | with_reducible exact objU.new2 _ _ rfl | with_reducible refine objU.other ?_ _ (by simp <;> omega) _ | with_reducible refine objU.old ?_ _)) hb1
  have OR1 : Hid (objU w1 (w.heap.size + 1) 190 [.int .i64 0, .string ⟨#[]⟩, .slice none 0 0]) := objU.below (by repeat (first | with_reducible exact objU.new2 _ _ (by simp) | with_reducible refine objU.other ?_ _ (by simp <;> omega) _ | with_reducible refine objU.old ?_ _)) hb1
  have OO1 : Hid (objU w1 (w.heap.size + 1 + 1) 190 [.int .i64 z0, .string z1, .slice none 0 0]) := objU.below (by repeat (first | with_reducible exact objU.new2 _ _ (by simp) | with_reducible refine objU.old ?_ _)) hb1
  have hsz1 : w.heap.size + 1 + 1 + 1 ≤ w1.heap.size := by have := hb1.size; simpa using this
  replace W1 := uhide (W1.out.mono (a' := w.heap.size + 1 + 1 + 1) (by simp <;> omega) (Nat.le_refl _))
  have HB1 : Hid (Below w.heap.size w w1) := Below.trans (by repeat (first | with_reducible exact HA.out _ _ _ | with_reducible refine Below.setCell ?_ (by simp <;> omega) _)) (hb1.mono (by simp <;> omega))
  clear hb1
  have co2_1 : w1.cell? ⟨w.heap.size + 1 + 1, 2, none⟩ = some (.slice none 0 0) := OO1.out.cell 2 _ rfl
  have fo2_1 : w1.frozen? ⟨w.heap.size + 1 + 1, 2, none⟩ = false := OO1.out.fz 2
  have co0_1 : w1.cell? ⟨w.heap.size + 1 + 1, 0, none⟩ = some (.int .i64 z0) := OO1.out.cell 0 _ rfl
  have cr0 : w1.cell? ⟨w.heap.size + 1, 0, none⟩ = some (.int .i64 0) := OR1.out.cell 0 _ rfl
  have fr0 : w1.frozen? ⟨w.heap.size + 1, 0, none⟩ = false := OR1.out.fz 0
  have co1_1 : w1.cell? ⟨w.heap.size + 1 + 1, 1, none⟩ = some (.string z1) := OO1.out.cell 1 _ rfl
  have cr1 : w1.cell? ⟨w.heap.size + 1, 1, none⟩ = some (.string ⟨#[]⟩) := OR1.out.cell 1 _ rfl
  have fr1 : w1.frozen? ⟨w.heap.size + 1, 1, none⟩ = false := OR1.out.fz 1
  have cr2 : w1.cell? ⟨w.heap.size + 1, 2, none⟩ = some (.slice none 0 0) := OR1.out.cell 2 _ rfl
  have fr2 : w1.frozen? ⟨w.heap.size + 1, 2, none⟩ = false := OR1.out.fz 2
  go_wp2
  refine bodyPost_ret (v := .agg #[.int .i64 z0, .string z1, .slice a2r n2 p2r]) ?_ rfl ⟨[.int .i64 z0, .string z1, .slice a2r n2 p2r], (S1 ++ []), rfl, ?_, ?_⟩
  · simp [results, Tryz.results143, go_sem, cr0, cr1, cr2]
  · exact oH.consP _ (oH.consP _ (oH.consS (oS.outs O1.out (T := [w.heap.size + 1, w.heap.size + 1 + 1]) (by repeat (first | with_reducible exact OutS.refl _ _ | with_reducible refine OutS.setCell ?_ (show _ ∈ [w.heap.size + 1, w.heap.size + 1 + 1] by simp) _)) W1.out (fun x hx => by simp at hx; omega)) (oH.nil _)))
  · have HW := own2.app W1.out (own2.nil w1.heap.size w1.heap.size) (by omega) (by omega) (by omega)
    refine ⟨HW.1, fun s hs => (by have := HW.2 s hs; omega), ?_⟩
    repeat (first | with_reducible exact HB1.out | with_reducible refine Below.setCell ?_ (by simp <;> omega) _)
theorem Tryz.infoUTerm : (Tryz.prog.info? 190).map (fun i => (i.zero, i.size, decide (i.bytes ≤ 1000))) = some (some (.agg #[.int .i64 0, .string ByteArray.empty, .slice none 0 0]), 3, true) := by kernel_rfl
set_option maxHeartbeats 1600000 in
theorem utoTermS_any {lo hi : Nat} (n : Nat) (cs : UD) (c : Value) (w : World) (ht : tyS 3 n cs 5) (hn : n + wt cs ≤ 1048576) (hx : uS w lo hi 3 n cs c) :
    Calls Tryz.prog 70 #[c] w fun e w' => ∃ c' S, e = .returned c' ∧ oS w' 3 n cs c' S ∧ S.Nodup ∧ (∀ s ∈ S, w.heap.size ≤ s) ∧ Below w.heap.size w w' := by
  obtain ⟨i0, hinf, hz0, hz1, hz2⟩ : ∃ i, Tryz.prog.info? 190 = some i ∧ i.zero = some (.agg #[.int .i64 0, .string ByteArray.empty, .slice none 0 0]) ∧ i.size = 3 ∧ i.bytes ≤ 1000 := by
    have h := Tryz.infoUTerm
    cases e : Tryz.prog.info? 190 with
    | none => rw [e] at h; cases h
    | some i => rw [e] at h; simp at h; exact ⟨i, rfl, h.1, h.2.1, h.2.2⟩
  obtain ⟨a, cap, rfl, hx2⟩ := hx
  have Hx : Hid (uS w lo hi 3 n cs (.slice a n cap)) := ⟨a, cap, rfl, hx2⟩
  have Ht := uhide ht
  have Hn : Hid (∀ q, q < n → wt (rowU cs 3 q) ≤ 1048576) := fun q hq => by have := wt_row cs 3 q; omega
  have hnn : n ≤ 1048576 := by omega
  have hbb : i0.bytes * n ≤ 281474976710656 := Nat.le_trans (Nat.mul_le_mul hz2 hnn) (by decide)
  clear hx2 ht hn
  go_enter Tryz.func70, Tryz.ntmps70
  go_wp2_with (at_make; refine wpList_make_full _ rfl _ _ 32 rfl w.heap.size 190 i0 _ 3 Tryz.underlying32 hinf hz0 hz1 _ _ _ _ n rfl rfl rfl rfl hbb (by unfold maxLen; omega) (Nat.le_refl _) ?_; intro w1 hown hgrow)
  have T0 := uhide (TS.start (cs := cs) hown (Below.grown (Below.refl _ _) hgrow (Nat.le_refl _) (fun k hk => by cases hk)))
  clear hown hgrow
  go_loopw [4] (fun i wr => ∃ (q : Nat), q ≤ n ∧ i = .int .i64 q ∧ Hid (TS w wr 190 3 n cs q)) (fun i _ => n - (intOf i).toNat)
  case atStart => exact ⟨0, Nat.zero_le _, rfl, T0⟩
  case round =>
    clear T0
    obtain ⟨q, hq, rfl, HT⟩ := hrel
    by_cases hlt : q < n
    · obtain ⟨b, off, rfl, hbk, hm⟩ := (Hx.out.below HT.out.bel).cells (by omega)
      have htr := Ht.out.row hlt
      have hwr := Hn.out q hlt
      have hsz := uszD_row cs 3 q
      obtain ⟨xs, hh, hcl⟩ := (hm.row 3 q).hand
      have Hcon : Hid (∀ wx, Below wr.heap.size wr wx → Calls Tryz.prog 143 #[.agg xs.toArray] wx fun e w' => ∃ ys S, e = .returned (.agg ys.toArray) ∧ oH w' (rowU cs 3 q) ys S ∧ S.Nodup ∧ (∀ s ∈ S, wx.heap.size ≤ s) ∧ Below wx.heap.size wx w') := fun wx hb => utoTerm_any (lo := lo) (hi := hi) _ _ wx htr hwr (hh.below hb)
      obtain ⟨z0, z1, n2, c2, hR, g0, g1, g2⟩ := partsTerm htr
      rw [hR] at hh
      obtain ⟨_, rfl, ⟨_, rfl, ⟨v2l, _, rfl, s2l, rfl⟩⟩⟩ := hh
      obtain ⟨a2l, p2l, rfl, t2l⟩ := s2l
      have q0 : wr.cell? ⟨b, off + q * 3, none⟩ = some (.int .i64 z0) := hcl 0 _ rfl
      have q1 : wr.cell? ⟨b, off + q * 3 + 1, none⟩ = some (.string z1) := hcl 1 _ rfl
      have q2 : wr.cell? ⟨b, off + q * 3 + 2, none⟩ = some (.slice a2l n2 p2l) := hcl 2 _ rfl
      have HR := uhide hR
      have HS : Hid (∀ (w2 : World) ys S, oH w2 (rowU cs 3 q) ys S → ∃ a2r p2r , ys = [.int .i64 z0, .string z1, .slice a2r n2 p2r]) := by
        intro w2 ys S h
        rw [HR.out] at h
        obtain ⟨_, rfl, ⟨_, rfl, ⟨v2, _, _, _, rfl, _, _, ⟨_, _, o2, _⟩, ⟨rfl, _⟩⟩⟩⟩ := h
        obtain ⟨a2, p2, rfl⟩ := uowns_slice o2
        exact ⟨a2, p2, rfl⟩
      have hKn : q * 3 + 3 ≤ n * 3 := by have := Nat.mul_le_mul_right 3 (show q + 1 ≤ n by omega); rw [Nat.succ_mul] at this; exact this
      clear hR hcl hm htr hsz hwr HR g0 g1 g2 t2l
      go_wp2_with fail
      refine (Hcon.out _ (by repeat (first | exact Below.refl _ _ | refine Below.alloc ?_ (by simp) _))).mono ?_
      rintro e w2 ⟨ys, S, rfl, ho, hnd, hS, hb2⟩
      obtain ⟨a2r, p2r, rfl⟩ := HS.out _ _ _ ho
      have HT2 := uhide (HT.out.below hb2)
      have T1 := uhide (HT.out.step hb2 ho hnd hS Ht.out.2.2.2.1 hlt)
      obtain ⟨d0, p0x⟩ := HT2.out.cell (q * 3) (by omega)
      have f0 := HT2.out.fz (q * 3)
      obtain ⟨d1, p1x⟩ := HT2.out.cell (q * 3 + 1) (by omega)
      have f1 := HT2.out.fz (q * 3 + 1)
      obtain ⟨d2, p2x⟩ := HT2.out.cell (q * 3 + 2) (by omega)
      have f2 := HT2.out.fz (q * 3 + 2)
      clear ho hnd hS hb2 Hcon HS HT HT2 Hx Ht Hn
      go_wp2
      go_roundw
      case rel => exact ⟨q + 1, by omega, by go_num, T1⟩
      case measure => simp [intOf]; omega
    · have e : q = n := by omega
      subst e
      obtain ⟨S, h1, h2, h3, h4⟩ := HT.out.done (by decide) Ht.out.2.2.2.1
      have HS : Hid (oS wr 3 q cs (.slice (some ⟨w.heap.size, 0, none⟩) q q) S ∧ S.Nodup ∧ (∀ s ∈ S, w.heap.size ≤ s) ∧ Below w.heap.size w wr) := ⟨h1, h2, h3, h4⟩
      clear h1 h2 h3 h4
      go_wp2
      go_ret
      exact ⟨_, S, rfl, HS.out⟩
end Go.Proofs.YtdnodaoeflbfkaaGreat
/- Data as cells: the helpers of the laws over Weigh. -/
namespace Go.Proofs.YtdnodaoeflbfkaaGreat
open Go.RowKit Go.BigFrame
set_option linter.unusedVariables false

set_option maxHeartbeats 800000 in
theorem uszWeigh_any {lo hi : Nat} (d : UD) (xs : List Value) (left : Int) (w : World) (ht : tyL d (uE 15)) (hx : uH w lo hi d xs) (h0 : 0 ≤ left) (h1 : left ≤ 1048576) :
    Calls Tryz.prog 135 #[.agg xs.toArray, .int .i64 left] w fun e w' => e = .returned (.int .i64 (leftI left (wt d))) ∧ Below w.heap.size w w' := by
  obtain ⟨z0, z1, rfl, g0, g1⟩ := partsWeigh ht
  obtain ⟨_, rfl, ⟨_, rfl, rfl⟩⟩ := hx
  have E : Hid (leftI left (wt (.p (.string z0) (.p (.int .i64 z1) .nil))) = leftI left (z0.size + 0)) := by show _ = _; congr 1 <;> (simp only [wt, wtP] <;> omega)
  generalize leftI left (wt (.p (.string z0) (.p (.int .i64 z1) .nil))) = R at *
  have HA : Hid (∀ o, Below w.heap.size w (w.alloc o)) := fun o => (Below.refl _ _).alloc (Nat.le_refl _) _
  unfold maxLen at g0
  by_cases k0 : left - (z0.size : Int) < 0
  · have EN : Hid (R = -1) := by show _ = _; rw [E.out]; exact leftI_neg _ (by omega) (by unfold leftI; split <;> omega)
    clear E
    go_enter Tryz.func135, Tryz.ntmps135
    go_wp2
    go_ret
    exact ⟨ret_intU EN.out.symm, HA.out _⟩
  replace E : Hid (R = leftI (left - (z0.size : Int)) (0)) := by
    obtain ⟨q1, q2, q3⟩ := leftI_pos (x := left) (a := z0.size) (0) (by unfold leftI; split <;> omega)
    show _ = _; rw [E.out, q1, q2]
  replace E : Hid (R = (left - (z0.size : Int))) := E.out.trans (leftI_zero (by omega))
  go_enter Tryz.func135, Tryz.ntmps135
  go_wp2
  go_ret
  exact ⟨ret_intU E.out.symm, HA.out _⟩
set_option maxHeartbeats 800000 in
set_option maxRecDepth 20000 in
theorem uszWeighS_any {lo hi : Nat} (n : Nat) (cs : UD) (c : Value) (left : Int) (w : World) (ht : tyS 2 n cs 15) (h0 : 0 ≤ left) (h1 : left ≤ 1048576) (hx : uS w lo hi 2 n cs c) :
    Calls Tryz.prog 63 #[c, .int .i64 left] w fun e w' => e = .returned (.int .i64 (leftI left (n + wt cs))) ∧ Below w.heap.size w w' := by
  obtain ⟨a, cap, rfl, hx2⟩ := hx
  have Hx : Hid (uS w lo hi 2 n cs (.slice a n cap)) := ⟨a, cap, rfl, hx2⟩
  have hmx := ht.2.2.1
  unfold maxLen at hmx
  have Ht := uhide ht
  clear hx2 ht
  by_cases c1 : left - (n : Int) < 0
  · have E : Hid (leftI left (n + wt cs) = -1) := by show _ = _; unfold leftI; rw [if_pos (by omega)]
    go_enter Tryz.func63, Tryz.ntmps63
    go_wp2
    go_ret
    exact ⟨ret_intU E.out.symm, Below.refl _ _⟩
  have E : Hid (leftI left (n + wt cs) = leftI (left - n) (wt (cs.dropN (0 * 2)))) := by
    show _ = _
    obtain ⟨g1, g2, g3⟩ := leftI_pos (x := left) (a := n) (wt cs) (by unfold leftI; split <;> omega)
    rw [g1, g2, Nat.zero_mul, UD.dropN_zero]
  go_enter Tryz.func63, Tryz.ntmps63
  go_wp2
  go_loopw [1, 5] (fun l i wr => ∃ (q : Nat) (x : Int), q ≤ n ∧ i = .int .i64 q ∧ l = .int .i64 x ∧ 0 ≤ x ∧ x ≤ 1048576 ∧ Hid (leftI left (n + wt cs) = leftI x (wt (cs.dropN (q * 2)))) ∧ Below w.heap.size w wr) (fun _ i _ => n - (intOf i).toNat)
  case atStart => exact ⟨0, _, Nat.zero_le _, rfl, rfl, by omega, by omega, E, Below.refl _ _⟩
  case round =>
    obtain ⟨q, x, hq, rfl, rfl, hx0, hx1, Hs, hbw⟩ := hrel
    by_cases hlt : q < n
    · obtain ⟨b, off, rfl, hbb, hm⟩ := (Hx.out.below hbw).cells (by omega)
      have htr := Ht.out.row hlt
      have hr := hm.row 2 q
      have hw : wt (cs.dropN (q * 2)) = wt (rowU cs 2 q) + wt (cs.dropN ((q + 1) * 2)) := by rw [UD.drop_row cs 2 q, wt_app]
      have hsz := uszD_row cs 2 q
      obtain ⟨xs, hh, hcl⟩ := hr.hand
      have Hcon : Hid (∀ wx, Below wr.heap.size wr wx → Calls Tryz.prog 135 #[.agg xs.toArray, .int .i64 x] wx fun e w' => e = .returned (.int .i64 (leftI x (wt (rowU cs 2 q)))) ∧ Below wx.heap.size wx w') := fun wx hb => uszWeigh_any (lo := lo) (hi := hi) _ _ x wx htr (hh.below hb) hx0 hx1
      obtain ⟨z0, z1, hR, g0, g1⟩ := partsWeigh htr
      rw [hR] at hh
      obtain ⟨_, rfl, ⟨_, rfl, rfl⟩⟩ := hh
      have q0 : wr.cell? ⟨b, off + q * 2, none⟩ = some (.string z0) := hcl 0 _ rfl
      have q1 : wr.cell? ⟨b, off + q * 2 + 1, none⟩ = some (.int .i64 z1) := hcl 1 _ rfl
      clear hR hcl hr hm htr hsz g0 g1
      generalize wt (rowU cs 2 q) = m at *
      have hneg0 := fun h => leftI_neg (x := x) (a := m) (wt (cs.dropN ((q + 1) * 2))) hx0 h
      have hpos0 := fun h => leftI_pos (x := x) (a := m) (wt (cs.dropN ((q + 1) * 2))) h
      have hle0 : leftI x m ≤ x := by unfold leftI; split <;> omega
      generalize leftI x m = y at *
      by_cases hneg : y < 0
      · have hr : Hid (leftI left (n + wt cs) = -1) := by show _ = _; rw [Hs.out, hw]; exact hneg0 hneg
        clear hw Hs E hneg0 hpos0
        go_wp2_with fail
        refine (Hcon.out _ (by repeat (first | exact Below.refl _ _ | refine Below.alloc ?_ (by simp) _))).mono ?_
        rintro e w1 ⟨rfl, hb⟩
        go_wp2
        go_ret
        exact ⟨ret_intU hr.out.symm, hbw.trans (hb.mono hbw.size)⟩
      · have hr : Hid (leftI left (n + wt cs) = leftI y (wt (cs.dropN ((q + 1) * 2)))) := by
          show _ = _
          rw [Hs.out, hw]; exact (hpos0 hneg).1
        clear hw Hs E hneg0 hpos0
        go_wp2_with fail
        refine (Hcon.out _ (by repeat (first | exact Below.refl _ _ | refine Below.alloc ?_ (by simp) _))).mono ?_
        rintro e w1 ⟨rfl, hb⟩
        go_wp2
        go_roundw
        case rel => exact ⟨q + 1, _, by omega, by go_num, rfl, by omega, by omega, hr, hbw.trans (hb.mono hbw.size)⟩
        case measure => simp [intOf]; omega
    · have e : q = n := by omega
      subst e
      have hr : Hid (leftI left (q + wt cs) = x) := by
        show _ = _
        rw [Hs.out, ← Ht.out.2.2.2.1, UD.dropN_all]
        exact leftI_zero hx0
      clear Hs E
      go_wp2
      go_ret
      exact ⟨ret_intU hr.out.symm, hbw⟩
set_option maxHeartbeats 800000 in
theorem ueqWeigh_any {lo hi lo' hi' : Nat} (d : UD) (xs ys : List Value) (w : World) (ht : tyL d (uE 15)) (hx : uH w lo hi d xs) (hy : uH w lo' hi' d ys) :
    Calls Tryz.prog 161 #[.agg xs.toArray, .agg ys.toArray] w fun e w' => e = .returned (.bool true) ∧ Below w.heap.size w w' := by
  obtain ⟨z0, z1, rfl, g0, g1⟩ := partsWeigh ht
  obtain ⟨_, rfl, ⟨_, rfl, rfl⟩⟩ := hx
  obtain ⟨_, rfl, ⟨_, rfl, rfl⟩⟩ := hy
  have e0 : (z0.toList == z0.toList) = true := by simp
  have e1 : (z1 != z1) = false := by simp
  have HB : Hid (∀ o o', Below w.heap.size w ((w.alloc o).alloc o')) := fun o o' => ((Below.refl _ _).alloc (Nat.le_refl _) _).alloc (by simp) _
  clear g0 g1
  go_enter Tryz.func161, Tryz.ntmps161
  go_wp2
  go_ret
  exact ⟨rfl, HB.out _ _⟩
set_option maxHeartbeats 800000 in
theorem ueqWeighS_any {lo hi lo' hi' : Nat} (n : Nat) (cs : UD) (c c' : Value) (w : World) (ht : tyS 2 n cs 15) (hx : uS w lo hi 2 n cs c) (hy : uS w lo' hi' 2 n cs c') :
    Calls Tryz.prog 80 #[c, c'] w fun e w' => e = .returned (.bool true) ∧ Below w.heap.size w w' := by
  obtain ⟨a, cap, rfl, hx2⟩ := hx
  obtain ⟨a', cap', rfl, hy2⟩ := hy
  have Hx : Hid (uS w lo hi 2 n cs (.slice a n cap)) := ⟨a, cap, rfl, hx2⟩
  have Hy : Hid (uS w lo' hi' 2 n cs (.slice a' n cap')) := ⟨a', cap', rfl, hy2⟩
  have hmx := ht.2.2.1
  unfold maxLen at hmx
  have Ht := uhide ht
  have hb0 : ((n : Int) != (n : Int)) = false := by simp
  clear hx2 hy2 ht
  go_enter Tryz.func80, Tryz.ntmps80
  go_wp2
  go_loopw [5] (fun i wr => ∃ (q : Nat), q ≤ n ∧ i = .int .i64 q ∧ Below w.heap.size w wr) (fun i _ => n - (intOf i).toNat)
  case atStart => exact ⟨0, Nat.zero_le _, rfl, Below.refl _ _⟩
  case round =>
    obtain ⟨q, hq, rfl, hbw⟩ := hrel
    by_cases hlt : q < n
    · obtain ⟨b, off, rfl, hbb, hm⟩ := (Hx.out.below hbw).cells (by omega)
      obtain ⟨b', off', rfl, hbb', hm'⟩ := (Hy.out.below hbw).cells (by omega)
      have htr := Ht.out.row hlt
      have hsz := uszD_row cs 2 q
      obtain ⟨xs, hh, hcl⟩ := (hm.row 2 q).hand
      obtain ⟨ys, hh', hcl'⟩ := (hm'.row 2 q).hand
      have Hcon : Hid (∀ wx, Below wr.heap.size wr wx → Calls Tryz.prog 161 #[.agg xs.toArray, .agg ys.toArray] wx fun e w' => e = .returned (.bool true) ∧ Hid (Below w.heap.size w w')) := fun wx hb => (ueqWeigh_any (lo := lo) (hi := hi) (lo' := lo') (hi' := hi') _ _ _ wx htr (hh.below hb) (hh'.below hb)).mono fun e w' h => ⟨h.1, (hbw.trans (hb.mono hbw.size)).trans (h.2.mono (Nat.le_trans hbw.size hb.size))⟩
      obtain ⟨z0, z1, hR, g0, g1⟩ := partsWeigh htr
      rw [hR] at hh hh'
      obtain ⟨_, rfl, ⟨_, rfl, rfl⟩⟩ := hh
      obtain ⟨_, rfl, ⟨_, rfl, rfl⟩⟩ := hh'
      have q0 : wr.cell? ⟨b, off + q * 2, none⟩ = some (.string z0) := hcl 0 _ rfl
      have q1 : wr.cell? ⟨b, off + q * 2 + 1, none⟩ = some (.int .i64 z1) := hcl 1 _ rfl
      have r0 : wr.cell? ⟨b', off' + q * 2, none⟩ = some (.string z0) := hcl' 0 _ rfl
      have r1 : wr.cell? ⟨b', off' + q * 2 + 1, none⟩ = some (.int .i64 z1) := hcl' 1 _ rfl
      clear hR hcl hcl' hm hm' htr hsz g0 g1
      clear Hx Hy Ht
      go_wp2
      go_region_with (go_at_call 161; refine (Hcon.out _ (by repeat (first | exact Below.refl _ _ | refine Below.drew ?_ | refine below_drewN ?_ _))).mono ?_; rintro e w2 ⟨rfl, hb2⟩)
      all_goals go_wp2
      all_goals (
        go_roundw
        case rel => exact ⟨q + 1, by omega, by go_num, by repeat (first | exact hb2.out | refine Below.drew ?_ | refine below_drewN ?_ _)⟩
        case measure => simp [intOf]; omega)
    · have e : q = n := by omega
      subst e
      go_wp2
      go_ret
      exact ⟨rfl, hbw⟩
set_option maxHeartbeats 1600000 in
theorem umarkWeighS_any (n k0 : Nat) (cs : UD) (c : Value) (S : List Nat) (w : World) (ht : tyS 2 n cs 15) (hnd : S.Nodup) (hk0 : 1 ≤ k0) (hk1 : k0 + cnt cs ≤ 100000000) (hx : oS w 2 n cs c S) :
    Calls Tryz.prog 83 #[c, .int .i64 k0] w fun e w' => e = .returned (.int .i64 (k0 + cnt cs : Nat)) ∧ oS w' 2 n (mk cs k0) c S ∧ OutS S w w' := by
  obtain ⟨a, cap, rfl⟩ := hx.slice
  have hmx := ht.2.2.1
  unfold maxLen at hmx
  rcases Nat.eq_zero_or_pos n with h0 | hpos
  · subst h0
    obtain ⟨e1, e2⟩ := hx.empty rfl k0
    rw [e1, e2]
    have Hx := uhide hx
    clear hx ht hnd e1 e2
    go_enter Tryz.func83, Tryz.ntmps83
    go_wp2
    go_loopw [1, 5] (fun s i wr => i = .int .i64 0 ∧ s = .int .i64 k0 ∧ wr = w) (fun _ _ _ => 0)
    case atStart => exact ⟨rfl, rfl, rfl⟩
    case round =>
      obtain ⟨rfl, rfl, rfl⟩ := hrel
      go_wp2
      go_ret
      exact ⟨rfl, Hx.out, OutS.refl _ _⟩
  obtain ⟨e, g, S1, xs0, M0, rfl, hp0, hl0⟩ := MS.start hx hnd hpos k0
  obtain ⟨cap, h1, hgl⟩ := M0.own
  cases h1
  have M0 := uhide M0
  have Ht := uhide ht
  have Hp0 := uhide hp0
  have Hl0 := uhide hl0
  have Hkk : Hid (∀ q, k0 + cnt (cs.takeN (q * 2)) ≤ 100000000) := fun q => by have := cnt_le cs (q * 2); omega
  clear hx ht hnd hp0 hl0
  go_enter Tryz.func83, Tryz.ntmps83
  go_wp2
  go_loopw [1, 5] (fun s i wr => ∃ (q : Nat), q ≤ n ∧ i = .int .i64 q ∧ s = .int .i64 (k0 + cnt (cs.takeN (q * 2)) : Nat) ∧ Hid (MS w wr e 2 n (.slice (some ⟨g, 0, none⟩) n cap) g cs k0 S1 xs0 (q * 2))) (fun _ i _ => n - (intOf i).toNat)
  case atStart => exact ⟨0, Nat.zero_le _, rfl, by rw [Nat.zero_mul]; rfl, by rw [Nat.zero_mul]; exact M0⟩
  case round =>
    clear M0
    obtain ⟨q, hq, rfl, rfl, HM⟩ := hrel
    by_cases hlt : q < n
    · have htr := Ht.out.row hlt
      have hsz := uszD_row cs 2 q
      have hkn := cnt_row cs 2 q
      have hkb := Hkk.out (q + 1)
      obtain ⟨z0, z1, hR, g0, g1⟩ := partsWeigh htr
      rw [hR] at hkn hsz
      simp only [cnt, Nat.add_zero] at hkn
      obtain ⟨kq, hkq⟩ : ∃ kq, k0 + cnt (cs.takeN (q * 2)) = kq := ⟨_, rfl⟩
      have hK0 : 1 ≤ kq := by omega
      have hend : k0 + cnt (cs.takeN ((q + 1) * 2)) = ((kq + 1) + 1) := by rw [hkn]; omega
      rw [hend] at hkb
      have at0 : cs.at? (q * 2) = some (.p (.string z0)) := by rw [show q * 2 = q * 2 + 0 from rfl]; rw [← rowU_at cs 2 q 0 (by omega), hR]; rfl
      have ct0 : k0 + cnt (cs.takeN (q * 2)) = kq := by exact hkq
      have x0 := Hp0.out _ _ at0
      have at1 : cs.at? (q * 2 + 1) = some (.p (.int .i64 z1)) := by rw [← rowU_at cs 2 q 1 (by omega), hR]; rfl
      have ct1 : k0 + cnt (cs.takeN (q * 2 + 1)) = (kq + 1) := by rw [cnt_at cs 2 q 1 (by omega), hR]; show k0 + (cnt (cs.takeN (q * 2)) + cnt (.p (.string z0) .nil)) = _; simp only [cnt]; omega
      have x1 := Hp0.out _ _ at1
      have HP0 : Hid (∀ (wx : World) (u : Value), MS w wx e 2 n (.slice (some ⟨g, 0, none⟩) n cap) g cs k0 S1 xs0 (q * 2) → u = .string (umtx kq) → MS w (wx.setCell ⟨g, q * 2, none⟩ u) e 2 n (.slice (some ⟨g, 0, none⟩) n cap) g cs k0 S1 xs0 (q * 2 + 1)) := fun wx u h hu => h.plain at0 (hu.trans (by rw [ct0]; rfl))
      have HT0 : Hid (∀ (wx : World) (x : Int), x = ((kq : Nat) : Int) → Calls Tryz.prog 84 #[.int .i64 x] wx fun e1 w' => e1 = .returned (.string (umtx kq)) ∧ Below wx.heap.size wx w') := fun wx x hx => by rw [hx]; exact umarkText_any _ wx (by omega) (by omega)
      have HP1 : Hid (∀ (wx : World) (u : Value), MS w wx e 2 n (.slice (some ⟨g, 0, none⟩) n cap) g cs k0 S1 xs0 (q * 2 + 1) → u = .int .i64 ((kq + 1) : Nat) → MS w (wx.setCell ⟨g, q * 2 + 1, none⟩ u) e 2 n (.slice (some ⟨g, 0, none⟩) n cap) g cs k0 S1 xs0 (q * 2 + 2)) := fun wx u h hu => h.plain at1 (hu.trans (by rw [ct1, mkP_int _ _ (by omega)]))
      have HQ0 : Hid (∀ wx, MS w wx e 2 n (.slice (some ⟨g, 0, none⟩) n cap) g cs k0 S1 xs0 (q * 2) → wx.cell? ⟨g, q * 2, none⟩ = some (.string z0) ∧ wx.frozen? ⟨g, q * 2, none⟩ = false ∧ wx.cell? ⟨g, q * 2 + 1, none⟩ = some (.int .i64 z1) ∧ wx.frozen? ⟨g, q * 2 + 1, none⟩ = false) := fun wx h => ⟨h.cellAt _ _ (by omega) x0 (by omega), h.fz _, h.cellAt _ _ (by omega) x1 (by omega), h.fz _⟩
      have HN : Hid (∀ wx, MS w wx e 2 n (.slice (some ⟨g, 0, none⟩) n cap) g cs k0 S1 xs0 (q * 2 + 2) → MS w wx e 2 n (.slice (some ⟨g, 0, none⟩) n cap) g cs k0 S1 xs0 ((q + 1) * 2)) := fun wx h => by rw [show q * 2 + 2 = (q + 1) * 2 by omega] at h; exact h
      have HE := uhide hend
      rw [hkq]
      clear hR htr hsz hkn hend hkq Ht Hkk Hp0 Hl0 g0 g1 at0 at1 ct0 ct1 x0 x1
      generalize umtx kq = M0 at *
      obtain ⟨q0, f0, q1, f1⟩ := HQ0.out _ HM.out
      go_wp2_with fail
      refine (HT0.out _ _ (by omega)).mono ?_
      rintro e1 w1 ⟨rfl, hb1⟩
      have I1 : Hid (MS w w1 e 2 n (.slice (some ⟨g, 0, none⟩) n cap) g cs k0 S1 xs0 (q * 2)) := MS.below HM.out hb1
      clear hb1 q0 f0 q1 f1
      obtain ⟨q0, f0, q1, f1⟩ := HQ0.out _ I1.out
      go_wp2
      go_roundw
      case rel => exact ⟨q + 1, by omega, by go_num, by rw [HE.out]; go_num, HN.out _ (HP1.out _ _ (HP0.out _ _ I1.out rfl) (congrArg (Value.int .i64) (by omega)))⟩
      case measure => (simp [intOf]; omega)
    · have e : q = n := by omega
      subst e
      obtain ⟨h1, h2⟩ := HM.out.done (by decide)
      have HD := uhide (And.intro h1 h2)
      have hl : cs.takeN (q * 2) = cs := by apply UD.ext; unfold UD.takeN; rw [UD.toL_ofL]; exact List.take_of_length_le (Nat.le_of_eq Ht.out.2.2.2.1)
      rw [hl]
      clear h1 h2 hl HM Ht Hp0 Hl0 Hkk
      go_wp2
      go_ret
      exact ⟨rfl, HD.out⟩
set_option maxHeartbeats 1600000 in
theorem utoWeigh_any {lo hi : Nat} (d : UD) (xs : List Value) (w : World) (ht : tyL d (uE 15)) (hn : wt d ≤ 1048576) (hx : uH w lo hi d xs) :
    Calls Tryz.prog 144 #[.agg xs.toArray] w fun e w' => ∃ ys S, e = .returned (.agg ys.toArray) ∧ oH w' d ys S ∧ S.Nodup ∧ (∀ s ∈ S, w.heap.size ≤ s) ∧ Below w.heap.size w w' := by
  obtain ⟨z0, z1, rfl, g0, g1⟩ := partsWeigh ht
  obtain ⟨_, rfl, ⟨_, rfl, rfl⟩⟩ := hx
  simp only [wt, wtP] at hn
  have HA : Hid (∀ o1 o2 o3, Below w.heap.size w (((w.alloc o1).alloc o2).alloc o3)) := fun o1 o2 o3 => (((Below.refl _ _).alloc (Nat.le_refl _) _).alloc (by simp) _).alloc (by simp; omega) _
  clear hn ht g0 g1
  go_enter Tryz.func144, Tryz.ntmps144
  go_wp2
  refine bodyPost_ret (v := .agg #[.string z0, .int .i64 z1]) ?_ rfl ⟨_, [], rfl, ?_, List.nodup_nil, fun s hs => (by cases hs), ?_⟩
  · simp [results, Tryz.results144, go_sem]
  · exact oH.consP _ (oH.consP _ (oH.nil _))
  · repeat (first | with_reducible exact HA.out _ _ _ | with_reducible refine Below.setCell ?_ (by simp <;> omega) _)
theorem Tryz.infoUWeigh : (Tryz.prog.info? 182).map (fun i => (i.zero, i.size, decide (i.bytes ≤ 1000))) = some (some (.agg #[.string ByteArray.empty, .int .i64 0]), 2, true) := by kernel_rfl
set_option maxHeartbeats 1600000 in
theorem utoWeighS_any {lo hi : Nat} (n : Nat) (cs : UD) (c : Value) (w : World) (ht : tyS 2 n cs 15) (hn : n + wt cs ≤ 1048576) (hx : uS w lo hi 2 n cs c) :
    Calls Tryz.prog 71 #[c] w fun e w' => ∃ c' S, e = .returned c' ∧ oS w' 2 n cs c' S ∧ S.Nodup ∧ (∀ s ∈ S, w.heap.size ≤ s) ∧ Below w.heap.size w w' := by
  obtain ⟨i0, hinf, hz0, hz1, hz2⟩ : ∃ i, Tryz.prog.info? 182 = some i ∧ i.zero = some (.agg #[.string ByteArray.empty, .int .i64 0]) ∧ i.size = 2 ∧ i.bytes ≤ 1000 := by
    have h := Tryz.infoUWeigh
    cases e : Tryz.prog.info? 182 with
    | none => rw [e] at h; cases h
    | some i => rw [e] at h; simp at h; exact ⟨i, rfl, h.1, h.2.1, h.2.2⟩
  obtain ⟨a, cap, rfl, hx2⟩ := hx
  have Hx : Hid (uS w lo hi 2 n cs (.slice a n cap)) := ⟨a, cap, rfl, hx2⟩
  have Ht := uhide ht
  have Hn : Hid (∀ q, q < n → wt (rowU cs 2 q) ≤ 1048576) := fun q hq => by have := wt_row cs 2 q; omega
  have hnn : n ≤ 1048576 := by omega
  have hbb : i0.bytes * n ≤ 281474976710656 := Nat.le_trans (Nat.mul_le_mul hz2 hnn) (by decide)
  clear hx2 ht hn
  go_enter Tryz.func71, Tryz.ntmps71
  go_wp2_with (at_make; refine wpList_make_full _ rfl _ _ 33 rfl w.heap.size 182 i0 _ 2 Tryz.underlying33 hinf hz0 hz1 _ _ _ _ n rfl rfl rfl rfl hbb (by unfold maxLen; omega) (Nat.le_refl _) ?_; intro w1 hown hgrow)
  have T0 := uhide (TS.start (cs := cs) hown (Below.grown (Below.refl _ _) hgrow (Nat.le_refl _) (fun k hk => by cases hk)))
  clear hown hgrow
  go_loopw [4] (fun i wr => ∃ (q : Nat), q ≤ n ∧ i = .int .i64 q ∧ Hid (TS w wr 182 2 n cs q)) (fun i _ => n - (intOf i).toNat)
  case atStart => exact ⟨0, Nat.zero_le _, rfl, T0⟩
  case round =>
    clear T0
    obtain ⟨q, hq, rfl, HT⟩ := hrel
    by_cases hlt : q < n
    · obtain ⟨b, off, rfl, hbk, hm⟩ := (Hx.out.below HT.out.bel).cells (by omega)
      have htr := Ht.out.row hlt
      have hwr := Hn.out q hlt
      have hsz := uszD_row cs 2 q
      obtain ⟨xs, hh, hcl⟩ := (hm.row 2 q).hand
      have Hcon : Hid (∀ wx, Below wr.heap.size wr wx → Calls Tryz.prog 144 #[.agg xs.toArray] wx fun e w' => ∃ ys S, e = .returned (.agg ys.toArray) ∧ oH w' (rowU cs 2 q) ys S ∧ S.Nodup ∧ (∀ s ∈ S, wx.heap.size ≤ s) ∧ Below wx.heap.size wx w') := fun wx hb => utoWeigh_any (lo := lo) (hi := hi) _ _ wx htr hwr (hh.below hb)
      obtain ⟨z0, z1, hR, g0, g1⟩ := partsWeigh htr
      rw [hR] at hh
      obtain ⟨_, rfl, ⟨_, rfl, rfl⟩⟩ := hh
      have q0 : wr.cell? ⟨b, off + q * 2, none⟩ = some (.string z0) := hcl 0 _ rfl
      have q1 : wr.cell? ⟨b, off + q * 2 + 1, none⟩ = some (.int .i64 z1) := hcl 1 _ rfl
      have HR := uhide hR
      have HS : Hid (∀ (w2 : World) ys S, oH w2 (rowU cs 2 q) ys S → ys = [.string z0, .int .i64 z1]) := by
        intro w2 ys S h
        rw [HR.out] at h
        obtain ⟨_, rfl, ⟨_, rfl, ⟨rfl, _⟩⟩⟩ := h
        exact rfl
      have hKn : q * 2 + 2 ≤ n * 2 := by have := Nat.mul_le_mul_right 2 (show q + 1 ≤ n by omega); rw [Nat.succ_mul] at this; exact this
      clear hR hcl hm htr hsz hwr HR g0 g1
      go_wp2_with fail
      refine (Hcon.out _ (by repeat (first | exact Below.refl _ _ | refine Below.alloc ?_ (by simp) _))).mono ?_
      rintro e w2 ⟨ys, S, rfl, ho, hnd, hS, hb2⟩
      obtain rfl := HS.out _ _ _ ho
      have HT2 := uhide (HT.out.below hb2)
      have T1 := uhide (HT.out.step hb2 ho hnd hS Ht.out.2.2.2.1 hlt)
      obtain ⟨d0, p0x⟩ := HT2.out.cell (q * 2) (by omega)
      have f0 := HT2.out.fz (q * 2)
      obtain ⟨d1, p1x⟩ := HT2.out.cell (q * 2 + 1) (by omega)
      have f1 := HT2.out.fz (q * 2 + 1)
      clear ho hnd hS hb2 Hcon HS HT HT2 Hx Ht Hn
      go_wp2
      go_roundw
      case rel => exact ⟨q + 1, by omega, by go_num, T1⟩
      case measure => simp [intOf]; omega
    · have e : q = n := by omega
      subst e
      obtain ⟨S, h1, h2, h3, h4⟩ := HT.out.done (by decide) Ht.out.2.2.2.1
      have HS : Hid (oS wr 2 q cs (.slice (some ⟨w.heap.size, 0, none⟩) q q) S ∧ S.Nodup ∧ (∀ s ∈ S, w.heap.size ≤ s) ∧ Below w.heap.size w wr) := ⟨h1, h2, h3, h4⟩
      clear h1 h2 h3 h4
      go_wp2
      go_ret
      exact ⟨_, S, rfl, HS.out⟩
end Go.Proofs.YtdnodaoeflbfkaaGreat
