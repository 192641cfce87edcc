import Derived.Test.YtbihhcbbjdjhcaaDrawV
import Derived.WideShapes
namespace Go.Proofs.Ytbihhcbbjdjhcaa
open Go.RowKit Go.BigFrame
set_option linter.unusedVariables false
/-! terms that are drawn, right or not -/
def lenV : Value → Nat
  | .slice _ n _ => n
  | _ => 0
def goodA (t : TD) : Prop := 0 ≤ t.1 ∧ t.1 ≤ 7 ∧ t.2.1.size ≤ 25 ∧ t.2.2.length ≤ 9 ∧ ∀ s ∈ t.2.2, s.size ≤ 25
def goodAs (ts : List TD) : Prop := ∀ t ∈ ts, goodA t
theorem goodA_of {t : TD} (h : goodT t.1 t.2.1 t.2.2) : goodA t := ⟨by have := h.1; omega, by have := h.2.1; omega, h.2.2.1, by have := h.2.2.2.1; omega, h.2.2.2.2⟩
theorem goodAs_set {ts : List TD} (h : goodAs ts) (j : Nat) {t : TD} (ht : goodA t) : goodAs (ts.set j t) := fun x hx => by
  rcases List.mem_or_eq_of_mem_set hx with h' | h'
  · exact h x h'
  · rw [h']; exact ht
theorem OTD.grown {w w' : World} {o : Obj} {row : Option Nat} {lo g cap : Nat} {xs : List Value} {V : Nat → Value} {ts : List TD} (h : OTD w lo g cap xs V ts) (hg : (w.alloc o).grownBy w' row) (h0 : row ≠ some g) (hV : ∀ i, i < ts.length → ∀ b, (V i).ownBlock = some b → row ≠ some b) : OTD w' lo g cap xs V ts := by
  obtain ⟨h1, h2, h3⟩ := h
  refine ⟨owns_grownD (h1.alloc o) hg (fun b hb => by cases hb; exact h0), fun j hj => ?_, h3⟩
  obtain ⟨a0, a1, a2, a3, a4⟩ := h2 j hj
  exact ⟨a0, a1, a2, owns_grownD (a3.alloc o) hg (hV j hj), a4⟩
theorem strVs_app (a b : List ByteArray) : strVs (a ++ b) = strVs a ++ strVs b := by unfold strVs; rw [List.map_append]
theorem vals_news {w : World} {p : Addr} {vs : List ByteArray} (h : strOf w (some p) vs) (o : Obj) (j : Nat) (u : Value) (hj : (strVs vs)[j]? = some u) : (w.alloc o).cell? (p.add j) = some u := by
  have hl : j < vs.length := by
    have := (List.getElem?_eq_some_iff.1 hj).1
    unfold strVs at this
    rwa [List.length_map] at this
  obtain ⟨b, off, e, hat⟩ := h (by omega)
  cases e
  have hc := hat j hl
  have hu : u = .string vs[j] := by
    unfold strVs at hj
    rw [List.getElem?_map, List.getElem?_eq_getElem hl] at hj
    exact (Option.some.inj hj).symm
  rw [Go.WideShapes.add_plain, hu]
  exact (((Below.refl _ w).alloc (Nat.le_refl _) o).cell (p := ⟨b, off + j, none⟩) (World.block_lt_of_cell? _ _ hc)).trans hc
def drawnAs (w : World) (d n cap : Nat) (a : Option Addr) (e : Ending) (w' : World) : Prop := ∃ (ts : List TD) (g c : Nat), e = .returned (.slice (some ⟨g, 0, none⟩) ts.length c) ∧ Hid (ts.length ≤ 9 ∧ goodAs ts) ∧
  Hid (ownTs w' w.heap.size g c ts) ∧ Hid (CurIn w' d a n cap) ∧ Hid (Out d (d + 1) w w')
set_option maxRecDepth 100000 in
set_option maxHeartbeats 3200000 in
theorem l2DrawAny_any (d n cap : Nat) (a : Option Addr) (w : World) (hn : n ≤ 1048576) (hc : CurIn w d a n cap) :
    Calls Try.prog 13 #[.pointer (some ⟨d, 0, none⟩)] w (drawnAs w d n cap a) := by
  obtain ⟨i0, hi, hz0, hz1, hz2⟩ := info_parts Try.infoTerm
  have HJ : Hid (∃ i, Try.prog.info? 9 = some i ∧ i.zero = some (.string ByteArray.empty) ∧ i.size = 1 ∧ i.bytes = 16) := info_parts Try.infoStr
  have Hc := hide hc
  have Hd := hide hc.lt
  have Hall := hide hc.lt_all'
  clear hc
  go_enter Try.func13, Try.ntmps13
  go_wp2_with fail
  refine (l2Draw_any d n cap 5 a _ hn (by decide) (by decide) Hc.out).mono ?_
  rintro e w1 ⟨ts, g, c, rfl, Hs1, Hw1, HC, HO⟩
  obtain ⟨xs, V, Hw1'⟩ := Hw1.out
  have HP : Hid (OTD w1 w.heap.size g c xs V ts) := Hw1'
  have HS : Hid (ts.length ≤ 9 ∧ goodAs ts) := ⟨by have := Hs1.out.1; omega, fun t ht => goodA_of (Hs1.out.2 t ht)⟩
  have Hg1 : Hid (goodTs ts) := Hs1.out.2
  clear Hs1 Hw1 Hw1' Hc
  by_cases hz : 0 < ts.length
  · have hz' : (0 : Int) < (ts.length : Int) := by omega
    have hl9 := HS.out.1
    go_wp2_with fail
    refine (l1Once_any d n cap 5 a _ hn (by decide) HC.out).mono ?_
    rintro e w2 ⟨o, rfl, HC2, ho2⟩
    have HP2 := hide (HP.out.out ho2 Hd.out)
    have HO2 := hide (HO.out.trans ho2)
    clear HP HC HO ho2
    cases o
    · have HP := HP2
      have HO := HO2
      have HC := HC2
      clear HP2 HO2 HC2 hz hz' hl9
      generalize ts = tz at *
      go_wp2_with fail
      refine (l1Once_any d n cap 40 a _ hn (by decide) HC.out).mono ?_
      rintro e w7 ⟨o2, rfl, Hc7, ho7⟩
      have P7 := hide (HP.out.out ho7 Hd.out)
      have O7 := hide (HO.out.trans ho7)
      clear HP HC HO ho7
      cases o2
      · go_wp2
        go_ret
        exact ⟨tz, g, c, rfl, HS, P7.out.own, Hc7, O7⟩
      · go_wp2_with fail
        go_loopw [3] (fun v wr => ∃ (ts : List TD) (g c : Nat) (xs : List Value) (V : Nat → Value), v = .slice (some ⟨g, 0, none⟩) ts.length c ∧ Hid (ts.length ≤ 9 ∧ goodAs ts) ∧ Hid (OTD wr w.heap.size g c xs V ts) ∧ Hid (CurIn wr d a n cap) ∧ Hid (Out d (d + 1) w wr)) (fun v _ => 9 - lenV v)
        case atStart => exact ⟨tz, g, c, _, _, rfl, HS, P7, Hc7, O7⟩
        case round =>
          clear P7 Hc7 O7 HS
          obtain ⟨ts, g, c, xs, V, rfl, Hs, Hw, Hc, Ho⟩ := hrel
          have hl9 := Hs.out.1
          go_wp2_with fail
          refine (l1Below_any d n cap 2 a _ hn (by decide) Hc.out).mono ?_
          rintro e w2 ⟨q, hq, rfl, Hc2, ho2⟩
          have hq2 := hq (by decide)
          have Hw2 := hide (Hw.out.out ho2 Hd.out)
          have O2 := hide (Ho.out.trans ho2)
          have Ho2 := hide ho2
          have Hsz := hide (show w.heap.size ≤ w2.heap.size from O2.out.size)
          clear Ho Hc ho2 hq
          have hwq : wrap64 (8 + (q : Int)) = 8 + (q : Int) := by simp only [wrap64]; omega
          by_cases hlt : (ts.length : Int) < 8 + (q : Int)
          · have hl8 : ts.length ≤ 8 := by omega
            go_wp2_with (at_builtin; refine wpList_append_lies _ rfl _ _ 24 rfl w.heap.size 33 i0 _ 3 48 Try.underlying24 hi hz0 hz1 hz2 rfl (by decide) _ _ _ rfl (Hw2.out.1.alloc _) ⟨w2.heap.size, 0, none⟩ 1 1 [.int .i64 4, .string ⟨#[97]⟩, .slice none 0 0] rfl rfl (cell_three_new _ _ _ _ _) (fun x hx => by simp at hx; rcases hx with rfl | rfl | rfl <;> rfl) (by decide) (by unfold maxLen; omega) (by omega) (by have := Hsz.out; simp; omega) _ rfl ?_; intro g5 c5 w5 hown5 hgrow5 hat5 hlt5)
            have P5 := OTD_push (t := (4, ⟨#[97]⟩, [])) Hw2.out (Out.refl _ _ _) Hd.out (owns_none _ _ _ _) Hsz.out hown5 hgrow5 hat5
            have al : Below w2.heap.size w2 (w2.alloc (.cells #[.int .i64 4, .string ⟨#[97]⟩, .slice none 0 0] 33)) := (Below.refl _ _).alloc (Nat.le_refl _) _
            have hgb : ∀ b, (Value.slice (some ⟨g, 0, none⟩) ts.length c).ownBlock = some b → w.heap.size ≤ b := fun b hb => (owns_blk Hw2.out.1 hb).1
            have O5 := hide (Out.grown (O2.out.trans (Out.of_below al)) hgrow5 hgb)
            have C5 := hide (CurIn.grown (B := w.heap.size) (Hc2.out.later al) hgrow5 hgb Hd.out Hall.out)
            have hln : ts.length + 1 = (ts ++ [((4 : Int), (⟨#[97]⟩ : ByteArray), ([] : List ByteArray))]).length := by rw [List.length_append, List.length_singleton]
            have S5 : Hid ((ts ++ [((4 : Int), (⟨#[97]⟩ : ByteArray), ([] : List ByteArray))]).length ≤ 9 ∧ goodAs (ts ++ [(4, ⟨#[97]⟩, [])])) := ⟨by rw [← hln]; omega, fun t ht => by
              rcases List.mem_append.1 ht with h | h
              · exact Hs.out.2 t h
              · rw [List.mem_singleton.1 h]; exact ⟨by decide, by decide, by decide, by decide, fun s h => by cases h⟩⟩
            have HP5 := hide P5
            have hln' := hide hln
            clear P5 hown5 hgrow5 hat5 hlt5 al hgb hln Hw Hw2 O2 Ho2 Hc2 Hs Hsz
            go_wp2
            go_roundw
            case rel => exact ⟨ts ++ [(4, ⟨#[97]⟩, [])], g5, c5, _, _, by rw [← hln'.out], S5, HP5, C5, O5⟩
            case measure => simp [lenV]; omega
          · go_wp2
            go_ret
            exact ⟨ts, g, c, rfl, Hs, Hw2.out.own, Hc2, O2⟩
    · go_wp2_with fail
      refine (l1Below_any d n cap ts.length a _ hn (by omega) HC2.out).mono ?_
      rintro e w3 ⟨x, hx, rfl, HC3, ho3⟩
      have hxl := hx hz
      have HP3 := hide (HP2.out.out ho3 Hd.out)
      have HO3 := hide (HO2.out.trans ho3)
      clear HP2 HC2 HO2 ho3 hx
      go_wp2_with fail
      refine (l1Below_any d n cap 3 a _ hn (by decide) HC3.out).mono ?_
      rintro e w4 ⟨y, hy, rfl, HC4, ho4⟩
      have hy3 := hy (by decide)
      have HP4 := hide (HP3.out.out ho4 Hd.out)
      have HO4 := hide (HO3.out.trans ho4)
      clear HP3 HC3 HO3 ho4 hy
      have hxi : (x : Int) < (ts.length : Int) := by omega
      rcases (show y = 0 ∨ y = 1 ∨ y = 2 by omega) with rfl | rfl | rfl
      · go_wp2_with fail
        refine (l1Below_any d n cap 7 a _ hn (by decide) HC4.out).mono ?_
        rintro e w5 ⟨kd, hkd, rfl, HC5, ho5⟩
        have hk7 := hkd (by decide)
        have HP5 := hide (HP4.out.out ho5 Hd.out)
        have HO5 := hide (HO4.out.trans ho5)
        clear HP4 HC4 HO4 ho5 hkd
        obtain ⟨r0, r1, r2, r3, r4⟩ := HP5.out.2.1 x hxl
        have q0 := (HP5.out.1.cellAt (x * 3) (by omega)).trans r0
        have f0 := HP5.out.1.frozenAt (x * 3)
        clear r0 r1 r2 r3 r4
        have hlen : (ts.set x ((kd : Int), (ts[x]'hxl).2)).length = ts.length := List.length_set
        have so : Out g (g + 1) w5 (w5.setCell ⟨g, x * 3, none⟩ (.int .i64 kd)) := (Out.refl _ _ _).setCell (p := ⟨g, x * 3, none⟩) (Nat.le_refl _) (Nat.lt_succ_self _) _
        have hgb := (owns_blk HP5.out.1 (g := g) rfl)
        have HP := hide (HP5.out.kind hxl (kd : Int))
        have HO := hide (HO5.out.past so hgb.1)
        have HC := hide (HC5.out.frame (so.below (B := w.heap.size) hgb.1 (by omega)) Hd.out Hall.out)
        have HS5 : Hid ((ts.set x ((kd : Int), (ts[x]'hxl).2)).length ≤ 9 ∧ goodAs (ts.set x ((kd : Int), (ts[x]'hxl).2))) := ⟨by rw [hlen]; exact hl9, goodAs_set HS.out.2 x (by
          have h := HS.out.2 _ (List.getElem_mem hxl)
          exact ⟨by show (0 : Int) ≤ (kd : Int); omega, by show (kd : Int) ≤ 7; omega, h.2.2.1, h.2.2.2.1, h.2.2.2.2⟩)⟩
        clear so hgb HP5 HO5 HC5 HS
        have HS := HS5
        clear HS5
        have hxi' : (x : Int) < ((ts.set x ((kd : Int), (ts[x]'hxl).2)).length : Int) := by rw [hlen]; omega
        clear hxi hz hz' hl9
        rw [← hlen]
        clear hlen
        generalize ts.set x ((kd : Int), (ts[x]'hxl).2) = tz at *
        generalize (ts[x]'hxl).1 = kz at *
        go_wp2_with fail
        refine (l1Once_any d n cap 40 a _ hn (by decide) HC.out).mono ?_
        rintro e w7 ⟨o2, rfl, Hc7, ho7⟩
        have P7 := hide (HP.out.out ho7 Hd.out)
        have O7 := hide (HO.out.trans ho7)
        clear HP HC HO ho7
        cases o2
        · go_wp2
          go_ret
          exact ⟨tz, g, c, rfl, HS, P7.out.own, Hc7, O7⟩
        · go_wp2_with fail
          go_loopw [3] (fun v wr => ∃ (ts : List TD) (g c : Nat) (xs : List Value) (V : Nat → Value), v = .slice (some ⟨g, 0, none⟩) ts.length c ∧ Hid (ts.length ≤ 9 ∧ goodAs ts) ∧ Hid (OTD wr w.heap.size g c xs V ts) ∧ Hid (CurIn wr d a n cap) ∧ Hid (Out d (d + 1) w wr)) (fun v _ => 9 - lenV v)
          case atStart => exact ⟨tz, g, c, _, _, rfl, HS, P7, Hc7, O7⟩
          case round =>
            clear P7 Hc7 O7 HS
            obtain ⟨ts, g, c, xs, V, rfl, Hs, Hw, Hc, Ho⟩ := hrel
            have hl9 := Hs.out.1
            go_wp2_with fail
            refine (l1Below_any d n cap 2 a _ hn (by decide) Hc.out).mono ?_
            rintro e w2 ⟨q, hq, rfl, Hc2, ho2⟩
            have hq2 := hq (by decide)
            have Hw2 := hide (Hw.out.out ho2 Hd.out)
            have O2 := hide (Ho.out.trans ho2)
            have Ho2 := hide ho2
            have Hsz := hide (show w.heap.size ≤ w2.heap.size from O2.out.size)
            clear Ho Hc ho2 hq
            have hwq : wrap64 (8 + (q : Int)) = 8 + (q : Int) := by simp only [wrap64]; omega
            by_cases hlt : (ts.length : Int) < 8 + (q : Int)
            · have hl8 : ts.length ≤ 8 := by omega
              go_wp2_with (at_builtin; refine wpList_append_lies _ rfl _ _ 24 rfl w.heap.size 33 i0 _ 3 48 Try.underlying24 hi hz0 hz1 hz2 rfl (by decide) _ _ _ rfl (Hw2.out.1.alloc _) ⟨w2.heap.size, 0, none⟩ 1 1 [.int .i64 4, .string ⟨#[97]⟩, .slice none 0 0] rfl rfl (cell_three_new _ _ _ _ _) (fun x hx => by simp at hx; rcases hx with rfl | rfl | rfl <;> rfl) (by decide) (by unfold maxLen; omega) (by omega) (by have := Hsz.out; simp; omega) _ rfl ?_; intro g5 c5 w5 hown5 hgrow5 hat5 hlt5)
              have P5 := OTD_push (t := (4, ⟨#[97]⟩, [])) Hw2.out (Out.refl _ _ _) Hd.out (owns_none _ _ _ _) Hsz.out hown5 hgrow5 hat5
              have al : Below w2.heap.size w2 (w2.alloc (.cells #[.int .i64 4, .string ⟨#[97]⟩, .slice none 0 0] 33)) := (Below.refl _ _).alloc (Nat.le_refl _) _
              have hgb : ∀ b, (Value.slice (some ⟨g, 0, none⟩) ts.length c).ownBlock = some b → w.heap.size ≤ b := fun b hb => (owns_blk Hw2.out.1 hb).1
              have O5 := hide (Out.grown (O2.out.trans (Out.of_below al)) hgrow5 hgb)
              have C5 := hide (CurIn.grown (B := w.heap.size) (Hc2.out.later al) hgrow5 hgb Hd.out Hall.out)
              have hln : ts.length + 1 = (ts ++ [((4 : Int), (⟨#[97]⟩ : ByteArray), ([] : List ByteArray))]).length := by rw [List.length_append, List.length_singleton]
              have S5 : Hid ((ts ++ [((4 : Int), (⟨#[97]⟩ : ByteArray), ([] : List ByteArray))]).length ≤ 9 ∧ goodAs (ts ++ [(4, ⟨#[97]⟩, [])])) := ⟨by rw [← hln]; omega, fun t ht => by
                rcases List.mem_append.1 ht with h | h
                · exact Hs.out.2 t h
                · rw [List.mem_singleton.1 h]; exact ⟨by decide, by decide, by decide, by decide, fun s h => by cases h⟩⟩
              have HP5 := hide P5
              have hln' := hide hln
              clear P5 hown5 hgrow5 hat5 hlt5 al hgb hln Hw Hw2 O2 Ho2 Hc2 Hs Hsz
              go_wp2
              go_roundw
              case rel => exact ⟨ts ++ [(4, ⟨#[97]⟩, [])], g5, c5, _, _, by rw [← hln'.out], S5, HP5, C5, O5⟩
              case measure => simp [lenV]; omega
            · go_wp2
              go_ret
              exact ⟨ts, g, c, rfl, Hs, Hw2.out.own, Hc2, O2⟩
      · go_wp2_with fail
        refine (l1NameAny_any d n cap a _ hn HC4.out).mono ?_
        rintro e w5 ⟨K, hK, rfl, HC5, ho5⟩
        have hKs := names_small K hK
        have HP5 := hide (HP4.out.out ho5 Hd.out)
        have HO5 := hide (HO4.out.trans ho5)
        clear HP4 HC4 HO4 ho5 hK
        obtain ⟨r0, r1, r2, r3, r4⟩ := HP5.out.2.1 x hxl
        have q0 := (HP5.out.1.cellAt (x * 3 + 1) (by omega)).trans r1
        have f0 := HP5.out.1.frozenAt (x * 3 + 1)
        clear r0 r1 r2 r3 r4
        have hlen : (ts.set x ((ts[x]'hxl).1, K, (ts[x]'hxl).2.2)).length = ts.length := List.length_set
        have so : Out g (g + 1) w5 (w5.setCell ⟨g, x * 3 + 1, none⟩ (.string K)) := (Out.refl _ _ _).setCell (p := ⟨g, x * 3 + 1, none⟩) (Nat.le_refl _) (Nat.lt_succ_self _) _
        have hgb := (owns_blk HP5.out.1 (g := g) rfl)
        have HP := hide (HP5.out.key hxl K)
        have HO := hide (HO5.out.past so hgb.1)
        have HC := hide (HC5.out.frame (so.below (B := w.heap.size) hgb.1 (by omega)) Hd.out Hall.out)
        have HS5 : Hid ((ts.set x ((ts[x]'hxl).1, K, (ts[x]'hxl).2.2)).length ≤ 9 ∧ goodAs (ts.set x ((ts[x]'hxl).1, K, (ts[x]'hxl).2.2))) := ⟨by rw [hlen]; exact hl9, goodAs_set HS.out.2 x (by
          have h := HS.out.2 _ (List.getElem_mem hxl)
          exact ⟨h.1, h.2.1, hKs, h.2.2.2.1, h.2.2.2.2⟩)⟩
        clear so hgb HP5 HO5 HC5 HS
        have HS := HS5
        clear HS5
        have hxi' : (x : Int) < ((ts.set x ((ts[x]'hxl).1, K, (ts[x]'hxl).2.2)).length : Int) := by rw [hlen]; omega
        clear hxi hz hz' hl9
        rw [← hlen]
        clear hlen
        generalize ts.set x ((ts[x]'hxl).1, K, (ts[x]'hxl).2.2) = tz at *
        generalize (ts[x]'hxl).2.1 = kz at *
        go_wp2_with fail
        refine (l1Once_any d n cap 40 a _ hn (by decide) HC.out).mono ?_
        rintro e w7 ⟨o2, rfl, Hc7, ho7⟩
        have P7 := hide (HP.out.out ho7 Hd.out)
        have O7 := hide (HO.out.trans ho7)
        clear HP HC HO ho7
        cases o2
        · go_wp2
          go_ret
          exact ⟨tz, g, c, rfl, HS, P7.out.own, Hc7, O7⟩
        · go_wp2_with fail
          go_loopw [3] (fun v wr => ∃ (ts : List TD) (g c : Nat) (xs : List Value) (V : Nat → Value), v = .slice (some ⟨g, 0, none⟩) ts.length c ∧ Hid (ts.length ≤ 9 ∧ goodAs ts) ∧ Hid (OTD wr w.heap.size g c xs V ts) ∧ Hid (CurIn wr d a n cap) ∧ Hid (Out d (d + 1) w wr)) (fun v _ => 9 - lenV v)
          case atStart => exact ⟨tz, g, c, _, _, rfl, HS, P7, Hc7, O7⟩
          case round =>
            clear P7 Hc7 O7 HS
            obtain ⟨ts, g, c, xs, V, rfl, Hs, Hw, Hc, Ho⟩ := hrel
            have hl9 := Hs.out.1
            go_wp2_with fail
            refine (l1Below_any d n cap 2 a _ hn (by decide) Hc.out).mono ?_
            rintro e w2 ⟨q, hq, rfl, Hc2, ho2⟩
            have hq2 := hq (by decide)
            have Hw2 := hide (Hw.out.out ho2 Hd.out)
            have O2 := hide (Ho.out.trans ho2)
            have Ho2 := hide ho2
            have Hsz := hide (show w.heap.size ≤ w2.heap.size from O2.out.size)
            clear Ho Hc ho2 hq
            have hwq : wrap64 (8 + (q : Int)) = 8 + (q : Int) := by simp only [wrap64]; omega
            by_cases hlt : (ts.length : Int) < 8 + (q : Int)
            · have hl8 : ts.length ≤ 8 := by omega
              go_wp2_with (at_builtin; refine wpList_append_lies _ rfl _ _ 24 rfl w.heap.size 33 i0 _ 3 48 Try.underlying24 hi hz0 hz1 hz2 rfl (by decide) _ _ _ rfl (Hw2.out.1.alloc _) ⟨w2.heap.size, 0, none⟩ 1 1 [.int .i64 4, .string ⟨#[97]⟩, .slice none 0 0] rfl rfl (cell_three_new _ _ _ _ _) (fun x hx => by simp at hx; rcases hx with rfl | rfl | rfl <;> rfl) (by decide) (by unfold maxLen; omega) (by omega) (by have := Hsz.out; simp; omega) _ rfl ?_; intro g5 c5 w5 hown5 hgrow5 hat5 hlt5)
              have P5 := OTD_push (t := (4, ⟨#[97]⟩, [])) Hw2.out (Out.refl _ _ _) Hd.out (owns_none _ _ _ _) Hsz.out hown5 hgrow5 hat5
              have al : Below w2.heap.size w2 (w2.alloc (.cells #[.int .i64 4, .string ⟨#[97]⟩, .slice none 0 0] 33)) := (Below.refl _ _).alloc (Nat.le_refl _) _
              have hgb : ∀ b, (Value.slice (some ⟨g, 0, none⟩) ts.length c).ownBlock = some b → w.heap.size ≤ b := fun b hb => (owns_blk Hw2.out.1 hb).1
              have O5 := hide (Out.grown (O2.out.trans (Out.of_below al)) hgrow5 hgb)
              have C5 := hide (CurIn.grown (B := w.heap.size) (Hc2.out.later al) hgrow5 hgb Hd.out Hall.out)
              have hln : ts.length + 1 = (ts ++ [((4 : Int), (⟨#[97]⟩ : ByteArray), ([] : List ByteArray))]).length := by rw [List.length_append, List.length_singleton]
              have S5 : Hid ((ts ++ [((4 : Int), (⟨#[97]⟩ : ByteArray), ([] : List ByteArray))]).length ≤ 9 ∧ goodAs (ts ++ [(4, ⟨#[97]⟩, [])])) := ⟨by rw [← hln]; omega, fun t ht => by
                rcases List.mem_append.1 ht with h | h
                · exact Hs.out.2 t h
                · rw [List.mem_singleton.1 h]; exact ⟨by decide, by decide, by decide, by decide, fun s h => by cases h⟩⟩
              have HP5 := hide P5
              have hln' := hide hln
              clear P5 hown5 hgrow5 hat5 hlt5 al hgb hln Hw Hw2 O2 Ho2 Hc2 Hs Hsz
              go_wp2
              go_roundw
              case rel => exact ⟨ts ++ [(4, ⟨#[97]⟩, [])], g5, c5, _, _, by rw [← hln'.out], S5, HP5, C5, O5⟩
              case measure => simp [lenV]; omega
            · go_wp2
              go_ret
              exact ⟨ts, g, c, rfl, Hs, Hw2.out.own, Hc2, O2⟩
      · have hgl : g < w4.heap.size := (owns_blk HP4.out.1 (g := g) rfl).2
        have Hd4 : Hid (d < w4.heap.size) := HC4.out.lt
        have Hg4 : Hid (w.heap.size ≤ g ∧ g < w4.heap.size) := owns_blk HP4.out.1 (g := g) rfl
        have HVb : Hid (∀ i, i < ts.length → ∀ b, (V i).ownBlock = some b → b < w4.heap.size) := fun i hi b hb => (owns_blk (HP4.out.2.1 i hi).2.2.2.1 hb).2
        obtain ⟨r0, r1, r2, r3, r4⟩ := HP4.out.2.1 x hxl
        have hvg := Hg1.out _ (List.getElem_mem hxl)
        obtain ⟨av, cv, eV, hso, hcv, hnv⟩ := strOf_own r3 rfl
        have q2 := (HP4.out.1.cellAt (x * 3 + 2) (by omega)).trans r2
        have R2 := hide r2
        clear r0 r1 r2 r3 r4
        have E0 : Hid ((w4.alloc (.cells #[] 9)).ownsRow w4.heap.size 9 1 (.slice (some ⟨w4.heap.size, 0, none⟩) 0 0) 0 []) := World.ownsRow_lit w4 #[] 0 (Nat.le_refl _) (by decide) rfl
        have hvs : ((ts[x]'hxl).2.2).length ≤ 8 ∧ ∀ s ∈ (ts[x]'hxl).2.2, s.size ≤ 25 := ⟨hvg.2.2.2.1, hvg.2.2.2.2⟩
        clear hvg
        rw [eV] at q2 R2
        generalize (ts[x]'hxl).2.2 = vs at *
        have Hvs := hide hvs
        have Hso := hide hso
        have hv8 := hvs.1
        clear hvs hso eV
        cases av with
        | none =>
          have hc0 := hnv rfl
          subst hc0
          have hv0 : vs = [] := List.eq_nil_of_length_eq_zero (by omega)
          subst hv0
          have q3 : w4.cell? ⟨g, x * 3 + 2, none⟩ = some (.slice none 0 0) := q2
          clear q2 hcv hnv hv8 Hso
          go_wp2_with (at_builtin; obtain ⟨j0, hj, hj0, hj1, hj2⟩ := HJ.out; refine wpList_append_own_none rfl _ _ 31 rfl w4.heap.size 9 j0 1 Try.underlying31 hj _ _ _ rfl E0.out rfl ?_; clear hj hj0 hj1 hj2)
          have HV1 : Hid ((w4.alloc (.cells #[] 9)).ownsRow w4.heap.size 9 1 (.slice (some ⟨w4.heap.size, 0, none⟩) 0 0) ([] : List ByteArray).length (strVs [])) := E0.out
          have B5 : Hid (Below w4.heap.size w4 (w4.alloc (.cells #[] 9))) := (Below.refl _ _).alloc (Nat.le_refl _) _
          have HP5 := hide (HP4.out.out (Out.of_below B5.out) Hd.out)
          have HO5 := hide (HO4.out.trans (Out.of_below B5.out))
          have HC5 := hide (HC4.out.later B5.out)
          clear HP4 HO4 HC4
          go_wp2_with fail
          refine (l1NameAny_any d n cap a _ hn HC5.out).mono ?_
          rintro e w6 ⟨K, hK, rfl, HC6, ho6⟩
          have hKs := names_small K hK
          have HP6 := hide (HP5.out.out ho6 Hd.out)
          have HO6 := hide (HO5.out.trans ho6)
          have HV6 := hide (owns_out HV1.out ho6 (fun b hb => Or.inr (by have := (owns_blk HV1.out hb).1; have := Hd4.out; omega)))
          have Hz6 := hide (Nat.le_trans B5.out.size ho6.size)
          have Hrow : Hid (∀ b, Value.ownBlock (Value.slice (some ⟨w4.heap.size, 0, none⟩) 0 0) = some b → w4.heap.size ≤ b) := fun b hb => (owns_blk HV1.out hb).1
          clear HP5 HC5 HO5 ho6 hK HV1 B5
          go_wp2_with (at_builtin; obtain ⟨j0, hj, hj0, hj1, hj2⟩ := HJ.out; refine wpList_append_lies _ rfl _ _ 31 rfl w4.heap.size 9 j0 _ 1 16 Try.underlying31 hj hj0 hj1 hj2 rfl (by decide) _ _ _ rfl (HV6.out.alloc _) ⟨w6.heap.size, 0, none⟩ 1 1 [.string K] rfl rfl (cell_one_new w6 K _) (fun x hx => by simp at hx; rcases hx with rfl; rfl) (by decide) (by unfold maxLen; simp) (by simp) (by have := Hz6.out; simp; omega) _ rfl ?_; intro g7 c7 w7 hown7 hgrow7 hat7 hlt7; clear hj hj0 hj1 hj2 hat7 hlt7; have Hown7 := hide hown7; have Hgrow7 := hide hgrow7; clear hown7; have P7 := OTD.grown HP6.out hgrow7 (fun e => by have := Hrow.out _ e; have := Hg4.out; omega) (fun i hi b hb e => by have := Hrow.out _ e; have := HVb.out i hi b hb; omega); have q7 := (P7.1.cellAt (x * 3 + 2) (by omega)).trans R2.out; have f7 := P7.1.frozenAt (x * 3 + 2); have HP7 := hide P7; clear P7 hgrow7)
          have P7 := HP7.out
          have hown7 := Hown7.out
          have hgrow7 := Hgrow7.out
          have hlen : (ts.set x ((ts[x]'hxl).1, (ts[x]'hxl).2.1, ([] : List ByteArray) ++ [K])).length = ts.length := List.length_set
          have hgb := (owns_blk P7.1 (g := g) rfl)
          have so : Out g (g + 1) w7 (w7.setCell ⟨g, x * 3 + 2, none⟩ (Value.slice (some ⟨g7, 0, none⟩) (([] : List ByteArray).length + 1) c7)) := (Out.refl _ _ _).setCell (p := ⟨g, x * 3 + 2, none⟩) (Nat.le_refl _) (Nat.lt_succ_self _) _
          have hv2 : ∀ b, Value.ownBlock (Value.slice (some ⟨g7, 0, none⟩) (([] : List ByteArray).length + 1) c7) = some b → w4.heap.size ≤ b := fun b hb => (owns_blk hown7 hb).1
          have al : Below w6.heap.size w6 (w6.alloc (.cells #[.string K] 9)) := (Below.refl _ _).alloc (Nat.le_refl _) _
          have hrw : ∀ b, Value.ownBlock (Value.slice (some ⟨w4.heap.size, 0, none⟩) 0 0) = some b → w.heap.size ≤ b := fun b hb => by have := Hrow.out b hb; have := Hg4.out; omega
          have hown8 : w7.ownsRow w.heap.size 9 1 (Value.slice (some ⟨g7, 0, none⟩) (([] : List ByteArray).length + 1) c7) (([] : List ByteArray) ++ [K]).length (strVs (([] : List ByteArray) ++ [K])) := by
            rw [strVs_app, List.length_append, List.length_singleton]
            exact owns_mono hown7 (by have := Hg4.out; omega)
          have HP := hide (P7.vals hxl (Value.slice (some ⟨g7, 0, none⟩) (([] : List ByteArray).length + 1) c7) (([] : List ByteArray) ++ [K]) hown8 (fun e => by have := hv2 _ e; have := Hg4.out; omega) (fun i hi b hb e => by have := hv2 _ e; have := HVb.out i hi b hb; omega))
          have HO := hide ((Out.grown (HO6.out.trans (Out.of_below al)) hgrow7 hrw).past so hgb.1)
          have HC := hide ((CurIn.grown (B := w.heap.size) (HC6.out.later al) hgrow7 hrw Hd.out Hall.out).frame (so.below (B := w.heap.size) hgb.1 (by omega)) Hd.out Hall.out)
          have HS5 : Hid ((ts.set x ((ts[x]'hxl).1, (ts[x]'hxl).2.1, ([] : List ByteArray) ++ [K])).length ≤ 9 ∧ goodAs (ts.set x ((ts[x]'hxl).1, (ts[x]'hxl).2.1, ([] : List ByteArray) ++ [K]))) := ⟨by rw [hlen]; exact hl9, goodAs_set HS.out.2 x (by
            have h := HS.out.2 _ (List.getElem_mem hxl)
            have hb : ∀ s ∈ ([] : List ByteArray), s.size ≤ 25 := fun s h => by cases h
            exact ⟨h.1, h.2.1, h.2.2.1, by show ([K] : List ByteArray).length ≤ 9; simp, fun s hs => by
              rcases List.mem_append.1 hs with h' | h'
              · exact hb s h'
              · rw [List.mem_singleton.1 h']; exact hKs⟩)⟩
          clear so hgb HP6 HO6 HC6 HS P7 hown7 hown8 hgrow7 HP7 Hown7 Hgrow7 hv2 al hrw HV6 q7 f7
          have HS := HS5
          clear HS5
          clear hxi hz hz' hl9
          rw [← hlen]
          clear hlen
          try clear hgl
          try clear hcv
          try clear hv8
          try clear hKs
          try clear hown7
          try clear hgrow7
          try clear P7
          clear R2 Hz6 Hrow HVb Hg4 Hd4 Hg1 HJ
          generalize ts.set x ((ts[x]'hxl).1, (ts[x]'hxl).2.1, ([] : List ByteArray) ++ [K]) = tz at *
          go_wp2_with fail
          refine (l1Once_any d n cap 40 a _ hn (by decide) HC.out).mono ?_
          rintro e w7 ⟨o2, rfl, Hc7, ho7⟩
          have P7 := hide (HP.out.out ho7 Hd.out)
          have O7 := hide (HO.out.trans ho7)
          clear HP HC HO ho7
          cases o2
          · go_wp2
            go_ret
            exact ⟨tz, g, c, rfl, HS, P7.out.own, Hc7, O7⟩
          · go_wp2_with fail
            go_loopw [3] (fun v wr => ∃ (ts : List TD) (g c : Nat) (xs : List Value) (V : Nat → Value), v = .slice (some ⟨g, 0, none⟩) ts.length c ∧ Hid (ts.length ≤ 9 ∧ goodAs ts) ∧ Hid (OTD wr w.heap.size g c xs V ts) ∧ Hid (CurIn wr d a n cap) ∧ Hid (Out d (d + 1) w wr)) (fun v _ => 9 - lenV v)
            case atStart => exact ⟨tz, g, c, _, _, rfl, HS, P7, Hc7, O7⟩
            case round =>
              clear P7 Hc7 O7 HS
              obtain ⟨ts, g, c, xs, V, rfl, Hs, Hw, Hc, Ho⟩ := hrel
              have hl9 := Hs.out.1
              go_wp2_with fail
              refine (l1Below_any d n cap 2 a _ hn (by decide) Hc.out).mono ?_
              rintro e w2 ⟨q, hq, rfl, Hc2, ho2⟩
              have hq2 := hq (by decide)
              have Hw2 := hide (Hw.out.out ho2 Hd.out)
              have O2 := hide (Ho.out.trans ho2)
              have Ho2 := hide ho2
              have Hsz := hide (show w.heap.size ≤ w2.heap.size from O2.out.size)
              clear Ho Hc ho2 hq
              have hwq : wrap64 (8 + (q : Int)) = 8 + (q : Int) := by simp only [wrap64]; omega
              by_cases hlt : (ts.length : Int) < 8 + (q : Int)
              · have hl8 : ts.length ≤ 8 := by omega
                go_wp2_with (at_builtin; refine wpList_append_lies _ rfl _ _ 24 rfl w.heap.size 33 i0 _ 3 48 Try.underlying24 hi hz0 hz1 hz2 rfl (by decide) _ _ _ rfl (Hw2.out.1.alloc _) ⟨w2.heap.size, 0, none⟩ 1 1 [.int .i64 4, .string ⟨#[97]⟩, .slice none 0 0] rfl rfl (cell_three_new _ _ _ _ _) (fun x hx => by simp at hx; rcases hx with rfl | rfl | rfl <;> rfl) (by decide) (by unfold maxLen; omega) (by omega) (by have := Hsz.out; simp; omega) _ rfl ?_; intro g5 c5 w5 hown5 hgrow5 hat5 hlt5)
                have P5 := OTD_push (t := (4, ⟨#[97]⟩, [])) Hw2.out (Out.refl _ _ _) Hd.out (owns_none _ _ _ _) Hsz.out hown5 hgrow5 hat5
                have al : Below w2.heap.size w2 (w2.alloc (.cells #[.int .i64 4, .string ⟨#[97]⟩, .slice none 0 0] 33)) := (Below.refl _ _).alloc (Nat.le_refl _) _
                have hgb : ∀ b, (Value.slice (some ⟨g, 0, none⟩) ts.length c).ownBlock = some b → w.heap.size ≤ b := fun b hb => (owns_blk Hw2.out.1 hb).1
                have O5 := hide (Out.grown (O2.out.trans (Out.of_below al)) hgrow5 hgb)
                have C5 := hide (CurIn.grown (B := w.heap.size) (Hc2.out.later al) hgrow5 hgb Hd.out Hall.out)
                have hln : ts.length + 1 = (ts ++ [((4 : Int), (⟨#[97]⟩ : ByteArray), ([] : List ByteArray))]).length := by rw [List.length_append, List.length_singleton]
                have S5 : Hid ((ts ++ [((4 : Int), (⟨#[97]⟩ : ByteArray), ([] : List ByteArray))]).length ≤ 9 ∧ goodAs (ts ++ [(4, ⟨#[97]⟩, [])])) := ⟨by rw [← hln]; omega, fun t ht => by
                  rcases List.mem_append.1 ht with h | h
                  · exact Hs.out.2 t h
                  · rw [List.mem_singleton.1 h]; exact ⟨by decide, by decide, by decide, by decide, fun s h => by cases h⟩⟩
                have HP5 := hide P5
                have hln' := hide hln
                clear P5 hown5 hgrow5 hat5 hlt5 al hgb hln Hw Hw2 O2 Ho2 Hc2 Hs Hsz
                go_wp2
                go_roundw
                case rel => exact ⟨ts ++ [(4, ⟨#[97]⟩, [])], g5, c5, _, _, by rw [← hln'.out], S5, HP5, C5, O5⟩
                case measure => simp [lenV]; omega
              · go_wp2
                go_ret
                exact ⟨ts, g, c, rfl, Hs, Hw2.out.own, Hc2, O2⟩
        | some p =>
          clear hnv
          go_wp2_with (at_builtin; obtain ⟨j0, hj, hj0, hj1, hj2⟩ := HJ.out; refine wpList_append_own _ rfl _ _ 31 rfl w4.heap.size 9 j0 _ 1 16 Try.underlying31 hj hj0 hj1 hj2 rfl (by decide) _ _ _ rfl E0.out p vs.length cv (strVs vs) rfl (by unfold strVs; rw [List.length_map, Nat.mul_one]) (vals_news Hso.out _) (fun x hx => by unfold strVs at hx; obtain ⟨s, _, rfl⟩ := List.mem_map.1 hx; rfl) (by unfold maxLen; omega) (by omega) (by simp) ?_; intro v1 w5 hown5 hgrow5 hnil5; clear hj hj0 hj1 hj2)
          have HV1 : Hid (w5.ownsRow w4.heap.size 9 1 v1 vs.length (strVs vs)) := by
            have h := hown5
            rw [Nat.zero_add, List.nil_append] at h
            exact h
          have B5 : Hid (Below w4.heap.size w4 w5) := Below.grown ((Below.refl _ _).alloc (Nat.le_refl _) _) hgrow5 (by simp) (fun k hk => by cases hk; exact Nat.le_refl _)
          clear hown5 hgrow5 hnil5 E0 q2
          have HP5 := hide (HP4.out.out (Out.of_below B5.out) Hd.out)
          have HO5 := hide (HO4.out.trans (Out.of_below B5.out))
          have HC5 := hide (HC4.out.later B5.out)
          clear HP4 HO4 HC4
          go_wp2_with fail
          refine (l1NameAny_any d n cap a _ hn HC5.out).mono ?_
          rintro e w6 ⟨K, hK, rfl, HC6, ho6⟩
          have hKs := names_small K hK
          have HP6 := hide (HP5.out.out ho6 Hd.out)
          have HO6 := hide (HO5.out.trans ho6)
          have HV6 := hide (owns_out HV1.out ho6 (fun b hb => Or.inr (by have := (owns_blk HV1.out hb).1; have := Hd4.out; omega)))
          have Hz6 := hide (Nat.le_trans B5.out.size ho6.size)
          have Hrow : Hid (∀ b, Value.ownBlock v1 = some b → w4.heap.size ≤ b) := fun b hb => (owns_blk HV1.out hb).1
          clear HP5 HC5 HO5 ho6 hK HV1 B5
          go_wp2_with (at_builtin; obtain ⟨j0, hj, hj0, hj1, hj2⟩ := HJ.out; refine wpList_append_lies _ rfl _ _ 31 rfl w4.heap.size 9 j0 _ 1 16 Try.underlying31 hj hj0 hj1 hj2 rfl (by decide) _ _ _ rfl (HV6.out.alloc _) ⟨w6.heap.size, 0, none⟩ 1 1 [.string K] rfl rfl (cell_one_new w6 K _) (fun x hx => by simp at hx; rcases hx with rfl; rfl) (by decide) (by have hv9 := Hvs.out.1; unfold maxLen; omega) (by have hv9 := Hvs.out.1; omega) (by have := Hz6.out; simp; omega) _ rfl ?_; intro g7 c7 w7 hown7 hgrow7 hat7 hlt7; clear hj hj0 hj1 hj2 hat7 hlt7; have Hown7 := hide hown7; have Hgrow7 := hide hgrow7; clear hown7; have P7 := OTD.grown HP6.out hgrow7 (fun e => by have := Hrow.out _ e; have := Hg4.out; omega) (fun i hi b hb e => by have := Hrow.out _ e; have := HVb.out i hi b hb; omega); have q7 := (P7.1.cellAt (x * 3 + 2) (by omega)).trans R2.out; have f7 := P7.1.frozenAt (x * 3 + 2); have HP7 := hide P7; clear P7 hgrow7)
          have P7 := HP7.out
          have hown7 := Hown7.out
          have hgrow7 := Hgrow7.out
          have hlen : (ts.set x ((ts[x]'hxl).1, (ts[x]'hxl).2.1, vs ++ [K])).length = ts.length := List.length_set
          have hgb := (owns_blk P7.1 (g := g) rfl)
          have so : Out g (g + 1) w7 (w7.setCell ⟨g, x * 3 + 2, none⟩ (Value.slice (some ⟨g7, 0, none⟩) (vs.length + 1) c7)) := (Out.refl _ _ _).setCell (p := ⟨g, x * 3 + 2, none⟩) (Nat.le_refl _) (Nat.lt_succ_self _) _
          have hv2 : ∀ b, Value.ownBlock (Value.slice (some ⟨g7, 0, none⟩) (vs.length + 1) c7) = some b → w4.heap.size ≤ b := fun b hb => (owns_blk hown7 hb).1
          have al : Below w6.heap.size w6 (w6.alloc (.cells #[.string K] 9)) := (Below.refl _ _).alloc (Nat.le_refl _) _
          have hrw : ∀ b, Value.ownBlock v1 = some b → w.heap.size ≤ b := fun b hb => by have := Hrow.out b hb; have := Hg4.out; omega
          have hown8 : w7.ownsRow w.heap.size 9 1 (Value.slice (some ⟨g7, 0, none⟩) (vs.length + 1) c7) (vs ++ [K]).length (strVs (vs ++ [K])) := by
            rw [strVs_app, List.length_append, List.length_singleton]
            exact owns_mono hown7 (by have := Hg4.out; omega)
          have HP := hide (P7.vals hxl (Value.slice (some ⟨g7, 0, none⟩) (vs.length + 1) c7) (vs ++ [K]) hown8 (fun e => by have := hv2 _ e; have := Hg4.out; omega) (fun i hi b hb e => by have := hv2 _ e; have := HVb.out i hi b hb; omega))
          have HO := hide ((Out.grown (HO6.out.trans (Out.of_below al)) hgrow7 hrw).past so hgb.1)
          have HC := hide ((CurIn.grown (B := w.heap.size) (HC6.out.later al) hgrow7 hrw Hd.out Hall.out).frame (so.below (B := w.heap.size) hgb.1 (by omega)) Hd.out Hall.out)
          have HS5 : Hid ((ts.set x ((ts[x]'hxl).1, (ts[x]'hxl).2.1, vs ++ [K])).length ≤ 9 ∧ goodAs (ts.set x ((ts[x]'hxl).1, (ts[x]'hxl).2.1, vs ++ [K]))) := ⟨by rw [hlen]; exact hl9, goodAs_set HS.out.2 x (by
            have h := HS.out.2 _ (List.getElem_mem hxl)
            have hb := Hvs.out
            exact ⟨h.1, h.2.1, h.2.2.1, by show (vs ++ [K]).length ≤ 9; rw [List.length_append, List.length_singleton]; omega, fun s hs => by
              rcases List.mem_append.1 hs with h' | h'
              · exact hb.2 s h'
              · rw [List.mem_singleton.1 h']; exact hKs⟩)⟩
          clear so hgb HP6 HO6 HC6 HS P7 hown7 hown8 hgrow7 HP7 Hown7 Hgrow7 hv2 al hrw HV6 q7 f7
          have HS := HS5
          clear HS5
          clear hxi hz hz' hl9
          rw [← hlen]
          clear hlen
          try clear hgl
          try clear hcv
          try clear hv8
          try clear hKs
          try clear hown7
          try clear hgrow7
          try clear P7
          clear R2 Hz6 Hrow HVb Hg4 Hd4 Hg1 HJ
          generalize ts.set x ((ts[x]'hxl).1, (ts[x]'hxl).2.1, vs ++ [K]) = tz at *
          go_wp2_with fail
          refine (l1Once_any d n cap 40 a _ hn (by decide) HC.out).mono ?_
          rintro e w7 ⟨o2, rfl, Hc7, ho7⟩
          have P7 := hide (HP.out.out ho7 Hd.out)
          have O7 := hide (HO.out.trans ho7)
          clear HP HC HO ho7
          cases o2
          · go_wp2
            go_ret
            exact ⟨tz, g, c, rfl, HS, P7.out.own, Hc7, O7⟩
          · go_wp2_with fail
            go_loopw [3] (fun v wr => ∃ (ts : List TD) (g c : Nat) (xs : List Value) (V : Nat → Value), v = .slice (some ⟨g, 0, none⟩) ts.length c ∧ Hid (ts.length ≤ 9 ∧ goodAs ts) ∧ Hid (OTD wr w.heap.size g c xs V ts) ∧ Hid (CurIn wr d a n cap) ∧ Hid (Out d (d + 1) w wr)) (fun v _ => 9 - lenV v)
            case atStart => exact ⟨tz, g, c, _, _, rfl, HS, P7, Hc7, O7⟩
            case round =>
              clear P7 Hc7 O7 HS
              obtain ⟨ts, g, c, xs, V, rfl, Hs, Hw, Hc, Ho⟩ := hrel
              have hl9 := Hs.out.1
              go_wp2_with fail
              refine (l1Below_any d n cap 2 a _ hn (by decide) Hc.out).mono ?_
              rintro e w2 ⟨q, hq, rfl, Hc2, ho2⟩
              have hq2 := hq (by decide)
              have Hw2 := hide (Hw.out.out ho2 Hd.out)
              have O2 := hide (Ho.out.trans ho2)
              have Ho2 := hide ho2
              have Hsz := hide (show w.heap.size ≤ w2.heap.size from O2.out.size)
              clear Ho Hc ho2 hq
              have hwq : wrap64 (8 + (q : Int)) = 8 + (q : Int) := by simp only [wrap64]; omega
              by_cases hlt : (ts.length : Int) < 8 + (q : Int)
              · have hl8 : ts.length ≤ 8 := by omega
                go_wp2_with (at_builtin; refine wpList_append_lies _ rfl _ _ 24 rfl w.heap.size 33 i0 _ 3 48 Try.underlying24 hi hz0 hz1 hz2 rfl (by decide) _ _ _ rfl (Hw2.out.1.alloc _) ⟨w2.heap.size, 0, none⟩ 1 1 [.int .i64 4, .string ⟨#[97]⟩, .slice none 0 0] rfl rfl (cell_three_new _ _ _ _ _) (fun x hx => by simp at hx; rcases hx with rfl | rfl | rfl <;> rfl) (by decide) (by unfold maxLen; omega) (by omega) (by have := Hsz.out; simp; omega) _ rfl ?_; intro g5 c5 w5 hown5 hgrow5 hat5 hlt5)
                have P5 := OTD_push (t := (4, ⟨#[97]⟩, [])) Hw2.out (Out.refl _ _ _) Hd.out (owns_none _ _ _ _) Hsz.out hown5 hgrow5 hat5
                have al : Below w2.heap.size w2 (w2.alloc (.cells #[.int .i64 4, .string ⟨#[97]⟩, .slice none 0 0] 33)) := (Below.refl _ _).alloc (Nat.le_refl _) _
                have hgb : ∀ b, (Value.slice (some ⟨g, 0, none⟩) ts.length c).ownBlock = some b → w.heap.size ≤ b := fun b hb => (owns_blk Hw2.out.1 hb).1
                have O5 := hide (Out.grown (O2.out.trans (Out.of_below al)) hgrow5 hgb)
                have C5 := hide (CurIn.grown (B := w.heap.size) (Hc2.out.later al) hgrow5 hgb Hd.out Hall.out)
                have hln : ts.length + 1 = (ts ++ [((4 : Int), (⟨#[97]⟩ : ByteArray), ([] : List ByteArray))]).length := by rw [List.length_append, List.length_singleton]
                have S5 : Hid ((ts ++ [((4 : Int), (⟨#[97]⟩ : ByteArray), ([] : List ByteArray))]).length ≤ 9 ∧ goodAs (ts ++ [(4, ⟨#[97]⟩, [])])) := ⟨by rw [← hln]; omega, fun t ht => by
                  rcases List.mem_append.1 ht with h | h
                  · exact Hs.out.2 t h
                  · rw [List.mem_singleton.1 h]; exact ⟨by decide, by decide, by decide, by decide, fun s h => by cases h⟩⟩
                have HP5 := hide P5
                have hln' := hide hln
                clear P5 hown5 hgrow5 hat5 hlt5 al hgb hln Hw Hw2 O2 Ho2 Hc2 Hs Hsz
                go_wp2
                go_roundw
                case rel => exact ⟨ts ++ [(4, ⟨#[97]⟩, [])], g5, c5, _, _, by rw [← hln'.out], S5, HP5, C5, O5⟩
                case measure => simp [lenV]; omega
              · go_wp2
                go_ret
                exact ⟨ts, g, c, rfl, Hs, Hw2.out.own, Hc2, O2⟩
  · have hz' : ¬ (0 : Int) < (ts.length : Int) := by omega
    clear hz
    generalize ts = tz at *
    go_wp2_with fail
    refine (l1Once_any d n cap 40 a _ hn (by decide) HC.out).mono ?_
    rintro e w7 ⟨o2, rfl, Hc7, ho7⟩
    have P7 := hide (HP.out.out ho7 Hd.out)
    have O7 := hide (HO.out.trans ho7)
    clear HP HC HO ho7
    cases o2
    · go_wp2
      go_ret
      exact ⟨tz, g, c, rfl, HS, P7.out.own, Hc7, O7⟩
    · go_wp2_with fail
      go_loopw [3] (fun v wr => ∃ (ts : List TD) (g c : Nat) (xs : List Value) (V : Nat → Value), v = .slice (some ⟨g, 0, none⟩) ts.length c ∧ Hid (ts.length ≤ 9 ∧ goodAs ts) ∧ Hid (OTD wr w.heap.size g c xs V ts) ∧ Hid (CurIn wr d a n cap) ∧ Hid (Out d (d + 1) w wr)) (fun v _ => 9 - lenV v)
      case atStart => exact ⟨tz, g, c, _, _, rfl, HS, P7, Hc7, O7⟩
      case round =>
        clear P7 Hc7 O7 HS
        obtain ⟨ts, g, c, xs, V, rfl, Hs, Hw, Hc, Ho⟩ := hrel
        have hl9 := Hs.out.1
        go_wp2_with fail
        refine (l1Below_any d n cap 2 a _ hn (by decide) Hc.out).mono ?_
        rintro e w2 ⟨q, hq, rfl, Hc2, ho2⟩
        have hq2 := hq (by decide)
        have Hw2 := hide (Hw.out.out ho2 Hd.out)
        have O2 := hide (Ho.out.trans ho2)
        have Ho2 := hide ho2
        have Hsz := hide (show w.heap.size ≤ w2.heap.size from O2.out.size)
        clear Ho Hc ho2 hq
        have hwq : wrap64 (8 + (q : Int)) = 8 + (q : Int) := by simp only [wrap64]; omega
        by_cases hlt : (ts.length : Int) < 8 + (q : Int)
        · have hl8 : ts.length ≤ 8 := by omega
          go_wp2_with (at_builtin; refine wpList_append_lies _ rfl _ _ 24 rfl w.heap.size 33 i0 _ 3 48 Try.underlying24 hi hz0 hz1 hz2 rfl (by decide) _ _ _ rfl (Hw2.out.1.alloc _) ⟨w2.heap.size, 0, none⟩ 1 1 [.int .i64 4, .string ⟨#[97]⟩, .slice none 0 0] rfl rfl (cell_three_new _ _ _ _ _) (fun x hx => by simp at hx; rcases hx with rfl | rfl | rfl <;> rfl) (by decide) (by unfold maxLen; omega) (by omega) (by have := Hsz.out; simp; omega) _ rfl ?_; intro g5 c5 w5 hown5 hgrow5 hat5 hlt5)
          have P5 := OTD_push (t := (4, ⟨#[97]⟩, [])) Hw2.out (Out.refl _ _ _) Hd.out (owns_none _ _ _ _) Hsz.out hown5 hgrow5 hat5
          have al : Below w2.heap.size w2 (w2.alloc (.cells #[.int .i64 4, .string ⟨#[97]⟩, .slice none 0 0] 33)) := (Below.refl _ _).alloc (Nat.le_refl _) _
          have hgb : ∀ b, (Value.slice (some ⟨g, 0, none⟩) ts.length c).ownBlock = some b → w.heap.size ≤ b := fun b hb => (owns_blk Hw2.out.1 hb).1
          have O5 := hide (Out.grown (O2.out.trans (Out.of_below al)) hgrow5 hgb)
          have C5 := hide (CurIn.grown (B := w.heap.size) (Hc2.out.later al) hgrow5 hgb Hd.out Hall.out)
          have hln : ts.length + 1 = (ts ++ [((4 : Int), (⟨#[97]⟩ : ByteArray), ([] : List ByteArray))]).length := by rw [List.length_append, List.length_singleton]
          have S5 : Hid ((ts ++ [((4 : Int), (⟨#[97]⟩ : ByteArray), ([] : List ByteArray))]).length ≤ 9 ∧ goodAs (ts ++ [(4, ⟨#[97]⟩, [])])) := ⟨by rw [← hln]; omega, fun t ht => by
            rcases List.mem_append.1 ht with h | h
            · exact Hs.out.2 t h
            · rw [List.mem_singleton.1 h]; exact ⟨by decide, by decide, by decide, by decide, fun s h => by cases h⟩⟩
          have HP5 := hide P5
          have hln' := hide hln
          clear P5 hown5 hgrow5 hat5 hlt5 al hgb hln Hw Hw2 O2 Ho2 Hc2 Hs Hsz
          go_wp2
          go_roundw
          case rel => exact ⟨ts ++ [(4, ⟨#[97]⟩, [])], g5, c5, _, _, by rw [← hln'.out], S5, HP5, C5, O5⟩
          case measure => simp [lenV]; omega
        · go_wp2
          go_ret
          exact ⟨ts, g, c, rfl, Hs, Hw2.out.own, Hc2, O2⟩
end Go.Proofs.Ytbihhcbbjdjhcaa
