/- Texts of one claim, joined: each in its own section, in build order. -/
import Derived.Test.YtdnodaoeflbfkaaGreatJ2
import Derived.Test.YtdnodaoeflbfkaaGreatJ7
import Derived.Test.YtdnodaoeflbfkaaGreatJ4
import Derived.Test.YtdnodaoeflbfkaaGreatJ3
import Derived.Test.YtdnodaoeflbfkaaGreatChecked
import Derived.Deep.RegionHeld3
import Derived.Test.YtdnodaoeflbfkaaGreatJ6
import Derived.Test.YtdnodaoeflbfkaaGreatJ9
/- Data as cells: the helpers of the laws over Change. -/
namespace Go.Proofs.YtdnodaoeflbfkaaGreat
open Go.RowKit Go.BigFrame
set_option linter.unusedVariables false
set_option linter.unusedSimpArgs false

set_option maxRecDepth 20000 in
set_option maxHeartbeats 3200000 in
theorem utoChange_any {lo hi : Nat} (d : UD) (xs : List Value) (w : World) (ht : tyL d (uE 9)) (hn : wt d ≤ 1048576) (hx : uH w lo hi d xs) :
    Calls Tryz.prog 171 #[.agg xs.toArray] w fun e w' => ∃ ys S, e = .returned (.agg ys.toArray) ∧ oH w' d ys S ∧ S.Nodup ∧ (∀ s ∈ S, w.heap.size ≤ s) ∧ Below w.heap.size w w' := by
  have hty := ht
  replace ht : tyL d [.i .i64, .b, .i .i64, .s, .i .i64, .i .i64, .i .i64, .b, .l 1 0, .i .i64, .s, .i .i64, .l 1 0, .l 5 6, .i .i64, .s, .i .i64, .l 1 0, .l 5 6] := ht
  obtain ⟨z0, _, rfl, g0, h0⟩ := tyL.i ht
  obtain ⟨z1, _, rfl, h1⟩ := tyL.b h0
  clear h0
  obtain ⟨d2, _, rfl, g2, h2⟩ := tyL.split (f1 := uE 8) (f2 := []) h1
  clear h1
  obtain rfl := tyL.nil h2
  clear h2
  obtain ⟨_, rfl, h0⟩ := hx
  obtain ⟨_, rfl, h1⟩ := h0
  obtain ⟨y2, _, rfl, l2, s2, h2⟩ := uH.split h1
  replace l2 : y2.length = 17 := l2.trans (tyL.len g2)
  clear h1
  obtain rfl := h2
  simp only [wt, wtP, wt_app] at hn
  generalize hD : (UD.p (.int .i64 z0) (UD.p (.bool z1) (UD.app d2 UD.nil))) = D at hty ⊢
  have HD := uhide hD
  clear hD
  have HC2 : Hid (∀ wx : World, Below w.heap.size w wx → Calls Tryz.prog 170 #[.agg y2.toArray] wx fun e w' => ∃ ys T, e = .returned (.agg ys.toArray) ∧ ys.length = 17 ∧ Hid (oH w' d2 ys T) ∧ Hid (own2 T wx.heap.size w'.heap.size) ∧ Hid (∀ u ∈ ys, u.oneCell' = true) ∧ Below wx.heap.size wx w') := fun wx hb => (utoObj_any (lo := lo) (hi := hi) d2 _ wx g2 (by omega) (s2.below hb)).mono fun e w' ⟨ys, T, h1, h2, h3, h4, h5⟩ => ⟨ys, T, h1, h2.len.trans (tyL.len g2), h2, ⟨h3, fun s hs => ⟨h4 s hs, h2.lt _ _ _ s hs⟩⟩, ones_own g2 h2, h5⟩
  obtain ⟨AX, hAX⟩ : ∃ AX : List Value, AX = (Value.int .i64 z0 :: (Value.bool z1 :: ((y2 ++ [])))) := ⟨_, rfl⟩
  rw [← hAX]
  have hlen : AX.length = 19 := by rw [hAX]; simp [l2]
  have e0 : AX[0]? = some (.int .i64 z0) := at_mid (i := 0) (pre := (([] : List Value))) (ys := [.int .i64 z0]) (post := (Value.bool z1 :: ((y2 ++ [])))) (by rw [hAX]; simp) (by simp) rfl
  have e1 : AX[1]? = some (.bool z1) := at_mid (i := 0) (pre := ([Value.int .i64 z0])) (ys := [.bool z1]) (post := ((y2 ++ []))) (by rw [hAX]; simp) (by simp) rfl
  have e2 : ∀ i v, y2[i]? = some v → AX[2 + i]? = some v := fun i v h => at_mid (pre := ([Value.int .i64 z0, Value.bool z1])) (ys := y2) (post := []) (by rw [hAX]; simp) (by simp) h
  clear hAX
  have HTY := uhide hty
  clear hty
  clear hn g0 g2 s2
  have E0 := uhide e0
  have E1 := uhide e1
  have E2 := uhide e2
  clear e0 e1 e2
  have BZ0 : Hid (0 + 1 ≤ ([.int .i64 0, .bool false, .int .i64 0, .string ⟨#[]⟩, .int .i64 0, .int .i64 0, .int .i64 0, .bool false, .slice none 0 0, .int .i64 0, .string ⟨#[]⟩, .int .i64 0, .slice none 0 0, .slice none 0 0, .int .i64 0, .string ⟨#[]⟩, .int .i64 0, .slice none 0 0, .slice none 0 0] : List Value).length) := by show _ ≤ _; decide
  have BZ1 : Hid (1 + 1 ≤ ([.int .i64 0, .bool false, .int .i64 0, .string ⟨#[]⟩, .int .i64 0, .int .i64 0, .int .i64 0, .bool false, .slice none 0 0, .int .i64 0, .string ⟨#[]⟩, .int .i64 0, .slice none 0 0, .slice none 0 0, .int .i64 0, .string ⟨#[]⟩, .int .i64 0, .slice none 0 0, .slice none 0 0] : List Value).length) := by show _ ≤ _; decide
  have BZ2 : Hid (2 + 17 ≤ ([.int .i64 0, .bool false, .int .i64 0, .string ⟨#[]⟩, .int .i64 0, .int .i64 0, .int .i64 0, .bool false, .slice none 0 0, .int .i64 0, .string ⟨#[]⟩, .int .i64 0, .slice none 0 0, .slice none 0 0, .int .i64 0, .string ⟨#[]⟩, .int .i64 0, .slice none 0 0, .slice none 0 0] : List Value).length) := by show _ ≤ _; decide
  have YZ2 : Hid ((Tryz.prog.info? 214).map (·.size) = some y2.length) := by show _ = _; rw [l2]; exact Tryz.zChange_laws_Obj
  clear l2
  have C := uhide (CP.start (w := w) (TA := 217) (TO := 140) (AX := AX) (Z := [.int .i64 0, .bool false, .int .i64 0, .string ⟨#[]⟩, .int .i64 0, .int .i64 0, .int .i64 0, .bool false, .slice none 0 0, .int .i64 0, .string ⟨#[]⟩, .int .i64 0, .slice none 0 0, .slice none 0 0, .int .i64 0, .string ⟨#[]⟩, .int .i64 0, .slice none 0 0, .slice none 0 0]))
  go_enter Tryz.func171, Tryz.ntmps171
  go_wp2_with (first
    | ((with_reducible refine wpList_load_one ?qqg56 3 ?qqx56 ?qqo56 w.heap.size 0 ?qqh56 (.int .i64 z0) Tryz.rChange_int (C.out.cell E0.out) ?_); (case qqg56 => rfl); (case qqo56 => rfl); (case qqh56 => simp [Act.eval, Act.put]))
    | ((with_reducible refine wpList_store_v ?qqg57 3 ?qqx57 ?qqy57 ?qqo57 ?qqd57 (w.heap.size + 1 + 1) 0 ?qqh57 (.int .i64 z0) ?qqv57 one_int Tryz.zChange_int (C.out.there 1 BZ0.out) ?_); (case qqg57 => rfl); (case qqo57 => rfl); (case qqd57 => rfl); (case qqh57 => simp [Act.eval, Act.put]); (case qqv57 => simp [Act.eval, Act.put]); intro wy ey; replace C := uhide (C.out.plain ey (j' := 1) rfl (by decide)); clear ey)
    | ((with_reducible refine wpList_load_one ?qqg58 4 ?qqx58 ?qqo58 w.heap.size 1 ?qqh58 (.bool z1) Tryz.rChange_bool (C.out.cell E1.out) ?_); (case qqg58 => rfl); (case qqo58 => rfl); (case qqh58 => simp [Act.eval, Act.put]))
    | ((with_reducible refine wpList_store_v ?qqg59 4 ?qqx59 ?qqy59 ?qqo59 ?qqd59 (w.heap.size + 1 + 1) 1 ?qqh59 (.bool z1) ?qqv59 one_bool Tryz.zChange_bool (C.out.there 1 BZ1.out) ?_); (case qqg59 => rfl); (case qqo59 => rfl); (case qqd59 => rfl); (case qqh59 => simp [Act.eval, Act.put]); (case qqv59 => simp [Act.eval, Act.put]); intro wy ey; replace C := uhide (C.out.plain ey (j' := 2) rfl (by decide)); clear ey)
    | ((with_reducible refine wpList_load_row2 ?qqg60 214 ?qqx60 ?qqo60 w.heap.size 2 ?qqh60 y2 Tryz.rChange_laws_Obj YZ2.out (C.out.range E2.out) ?_); (case qqg60 => rfl); (case qqo60 => rfl); (case qqh60 => simp [Act.eval, Act.put]))
    )
  refine (HC2.out _ C.out.bel).mono ?_
  rintro e w1 ⟨y2r, T2, rfl, L2r, O2, W2, U2, hb2⟩
  have D := uhide (C.out.below hb2)
  have SZ : Hid ((Tryz.prog.info? 138).map (·.size) = some y2r.length) := by show _ = _; rw [L2r]; exact Tryz.zChange_impl_Obj
  have TH : Hid (w1.there (w.heap.size + 1 + 1) 2 y2r.length) := by rw [L2r]; exact D.out.there 17 BZ2.out
  have HB2 := uhide hb2
  clear hb2
  have FZ0 : Hid (∀ l : List Value, l.length = 19 → Hid ((Tryz.prog.info? 140).map (·.size) = some l.length)) := fun l h => by show _ = _; rw [h]; exact Tryz.zChange_impl_Change
  have HZL : Hid (19 = ([.int .i64 0, .bool false, .int .i64 0, .string ⟨#[]⟩, .int .i64 0, .int .i64 0, .int .i64 0, .bool false, .slice none 0 0, .int .i64 0, .string ⟨#[]⟩, .int .i64 0, .slice none 0 0, .slice none 0 0, .int .i64 0, .string ⟨#[]⟩, .int .i64 0, .slice none 0 0, .slice none 0 0] : List Value).length) := by show _ = _; decide
  go_wp2_with (first
    | ((with_reducible refine wpList_store_cells ?qqg72 138 ?qqx72 ?qqy72 ?qqo72 ?qqd72 (w.heap.size + 1 + 1) 2 ?qqh72 (.agg y2r.toArray) ?qqv72 y2r cells_agg U2.out SZ.out TH.out ?_); (case qqg72 => rfl); (case qqo72 => rfl); (case qqd72 => rfl); (case qqh72 => simp [Act.eval, Act.put]); (case qqv72 => simp [Act.eval, Act.put]); intro wy ey; replace C := uhide (C.out.step HB2.out O2.out W2.out ey (j' := 19) (by rw [L2r]) (by decide)); clear ey D SZ TH HB2 O2 W2; obtain ⟨dn, S, RG, hl, TH, hod, HF⟩ := C.out.fin (D := D) (by rw [← HD.out]; apply UD.ext; simp only [UD.app_toL, UD.toL, List.cons_append, List.nil_append, List.append_nil]) HZL.out; have FZ := FZ0.out dn hl; have ON := uhide (ones_own HTY.out hod); have HFF := uhide HF; clear C hod HF)
    | ((with_reducible refine wpList_load_row2 ?qqg73 140 ?qqx73 ?qqo73 (w.heap.size + 1 + 1) 0 ?qqh73 dn Tryz.rChange_impl_Change FZ.out RG.out ?_); (case qqg73 => rfl); (case qqo73 => rfl); (case qqh73 => simp [Act.eval, Act.put]))
    | ((with_reducible refine wpList_store_cells ?qqg74 140 ?qqx74 ?qqy74 ?qqo74 ?qqd74 (w.heap.size + 1) 0 ?qqh74 (.agg dn.toArray) ?qqv74 dn cells_agg ON.out FZ.out TH.out ?_); (case qqg74 => rfl); (case qqo74 => rfl); (case qqd74 => rfl); (case qqh74 => simp [Act.eval, Act.put]); (case qqv74 => simp [Act.eval, Act.put]); intro wy ey; have HG := uhide (HFF.out wy ey); clear ey HFF)
    )
  obtain ⟨HO, h1, h2, h3, h4⟩ := HG.out
  refine bodyPost_ret (v := .agg dn.toArray) ?_ rfl ⟨dn, S, rfl, ?_, h2, h3, h4⟩
  · exact results_row rfl _ _ (w.heap.size + 1) _ _ (by simp [Act.put]) HO Tryz.rChange_impl_Change (by rw [hl]; exact Tryz.zChange_impl_Change)
  · exact h1
theorem Tryz.infoUChange : (Tryz.prog.info? 140).map (fun i => (i.zero, i.size, decide (i.bytes ≤ 1000))) = some (some (.agg #[.int .i64 0, .bool false, .int .i64 0, .string ByteArray.empty, .int .i64 0, .int .i64 0, .int .i64 0, .bool false, .slice none 0 0, .int .i64 0, .string ByteArray.empty, .int .i64 0, .slice none 0 0, .slice none 0 0, .int .i64 0, .string ByteArray.empty, .int .i64 0, .slice none 0 0, .slice none 0 0]), 19, true) := by kernel_rfl
set_option maxRecDepth 20000 in
set_option maxHeartbeats 1600000 in
theorem utoChangeS_any {lo hi : Nat} (n : Nat) (cs : UD) (c : Value) (w : World) (ht : tyS 19 n cs 9) (hn : n + wt cs ≤ 1048576) (hx : uS w lo hi 19 n cs c) :
    Calls Tryz.prog 92 #[c] w fun e w' => ∃ c' S, e = .returned c' ∧ oS w' 19 n cs c' S ∧ S.Nodup ∧ (∀ s ∈ S, w.heap.size ≤ s) ∧ Below w.heap.size w w' := by
  obtain ⟨i0, hinf, hz0, hz1, hz2⟩ : ∃ i, Tryz.prog.info? 140 = some i ∧ i.zero = some (.agg #[.int .i64 0, .bool false, .int .i64 0, .string ByteArray.empty, .int .i64 0, .int .i64 0, .int .i64 0, .bool false, .slice none 0 0, .int .i64 0, .string ByteArray.empty, .int .i64 0, .slice none 0 0, .slice none 0 0, .int .i64 0, .string ByteArray.empty, .int .i64 0, .slice none 0 0, .slice none 0 0]) ∧ i.size = 19 ∧ i.bytes ≤ 1000 := by
    have h := Tryz.infoUChange
    cases e : Tryz.prog.info? 140 with
    | none => rw [e] at h; cases h
    | some i => rw [e] at h; simp at h; exact ⟨i, rfl, h.1, h.2.1, h.2.2⟩
  obtain ⟨a, cap, rfl, hx2⟩ := hx
  have Hx : Hid (uS w lo hi 19 n cs (.slice a n cap)) := ⟨a, cap, rfl, hx2⟩
  have Ht := uhide ht
  have Hn : Hid (∀ q, q < n → wt (rowU cs 19 q) ≤ 1048576) := fun q hq => by have := wt_row cs 19 q; omega
  have hnn : n ≤ 1048576 := by omega
  have hbb : i0.bytes * n ≤ 281474976710656 := Nat.le_trans (Nat.mul_le_mul hz2 hnn) (by decide)
  clear hx2 ht hn
  go_enter Tryz.func92, Tryz.ntmps92
  go_wp2_with (at_make; refine wpList_make_full _ rfl _ _ 67 rfl w.heap.size 140 i0 _ 19 Tryz.underlying67 hinf hz0 hz1 _ _ _ _ n rfl rfl rfl rfl hbb (by unfold maxLen; omega) (Nat.le_refl _) ?_; intro w1 hown hgrow)
  have T0 := uhide (TS.start (cs := cs) hown (Below.grown (Below.refl _ _) hgrow (Nat.le_refl _) (fun k hk => by cases hk)))
  clear hown hgrow
  go_loopw [4] (fun i wr => ∃ (q : Nat), q ≤ n ∧ i = .int .i64 q ∧ Hid (TS w wr 140 19 n cs q)) (fun i _ => n - (intOf i).toNat)
  case atStart => exact ⟨0, Nat.zero_le _, rfl, T0⟩
  case round =>
    clear T0
    obtain ⟨q, hq, rfl, HT⟩ := hrel
    by_cases hlt : q < n
    · obtain ⟨b, off, rfl, hbk, hm⟩ := (Hx.out.below HT.out.bel).cells (by omega)
      have htr := Ht.out.row hlt
      have hwr := Hn.out q hlt
      obtain ⟨xs, hh, hcl⟩ := (hm.row 19 q).hand
      have hxl : xs.length = 19 := by rw [hh.len, tyL.len htr]; rfl
      have Hcon : Hid (∀ wx, Below wr.heap.size wr wx → Calls Tryz.prog 171 #[.agg xs.toArray] wx fun e w' => ∃ ys S, e = .returned (.agg ys.toArray) ∧ Hid (oH w' (rowU cs 19 q) ys S) ∧ Hid S.Nodup ∧ Hid (∀ s ∈ S, wx.heap.size ≤ s) ∧ Hid (ys.length = 19) ∧ Hid (∀ u ∈ ys, u.oneCell' = true) ∧ Hid (Below wx.heap.size wx w')) := fun wx hb => (utoChange_any (lo := lo) (hi := hi) _ _ wx htr hwr (hh.below hb)).mono fun e w' ⟨ys, S, h1, h2, h3, h4, h5⟩ => ⟨ys, S, h1, h2, h3, h4, h2.len.trans (tyL.len htr), ones_own htr h2, h5⟩
      have RG : Hid (wr.rangeAt b (off + q * 19) xs) := hcl
      have FZ : Hid ((Tryz.prog.info? 217).map (·.size) = some xs.length) := by show _ = _; rw [hxl]; exact Tryz.zChange_laws_Change
      have hKn : q * 19 + 19 ≤ n * 19 := by have := Nat.mul_le_mul_right 19 (show q + 1 ≤ n by omega); rw [Nat.succ_mul] at this; exact this
      clear hcl hm htr hwr hh hxl
      go_wp2_with (first
        | ((with_reducible refine wpList_load_row2 ?qqg120 217 ?qqx120 ?qqo120 b (off + q * 19) ?qqh120 xs Tryz.rChange_laws_Change FZ.out RG.out ?_); (case qqg120 => rfl); (case qqo120 => rfl); (case qqh120 => simp [Act.eval, Act.put]))
        )
      refine (Hcon.out _ (Below.refl _ _)).mono ?_
      rintro e w2 ⟨ys, S, rfl, ho, hnd, hS, hyl, hone, hb2⟩
      have TH : Hid (w2.there w.heap.size (q * 19) ys.length) := by rw [hyl.out]; exact (HT.out.below hb2.out).there _ _ hKn
      have FY : Hid ((Tryz.prog.info? 140).map (·.size) = some ys.length) := by show _ = _; rw [hyl.out]; exact Tryz.zChange_impl_Change
      go_wp2_with (first
        | ((with_reducible refine wpList_store_cells ?qqg127 140 ?qqx127 ?qqy127 ?qqo127 ?qqd127 w.heap.size (q * 19) ?qqh127 (.agg ys.toArray) ?qqv127 ys cells_agg hone.out FY.out TH.out ?_); (case qqg127 => rfl); (case qqo127 => rfl); (case qqd127 => rfl); (case qqh127 => simp [Act.eval, Act.put]); (case qqv127 => simp [Act.eval, Act.put]); intro wy ey; have T1 := uhide (HT.out.row hb2.out ho.out hnd.out hS.out Ht.out.2.2.2.1 hlt ey); clear ey)
        )
      go_roundw
      case rel => exact ⟨q + 1, by omega, by go_num, T1⟩
      case measure => simp [intOf]; omega
    · have e : q = n := by omega
      subst e
      obtain ⟨S, h1, h2, h3, h4⟩ := HT.out.done (by decide) Ht.out.2.2.2.1
      have HS : Hid (oS wr 19 q cs (.slice (some ⟨w.heap.size, 0, none⟩) q q) S ∧ S.Nodup ∧ (∀ s ∈ S, w.heap.size ≤ s) ∧ Below w.heap.size w wr) := ⟨h1, h2, h3, h4⟩
      clear h1 h2 h3 h4
      go_wp2
      go_ret
      exact ⟨_, S, rfl, HS.out⟩
end Go.Proofs.YtdnodaoeflbfkaaGreat
/- Data as cells: the helpers of the laws over Base. -/
namespace Go.Proofs.YtdnodaoeflbfkaaGreat
open Go.RowKit Go.BigFrame
set_option linter.unusedVariables false
set_option linter.unusedSimpArgs false

set_option maxRecDepth 20000 in
set_option maxHeartbeats 3200000 in
theorem utoBase_any {lo hi : Nat} (d : UD) (xs : List Value) (w : World) (ht : tyL d (uE 10)) (hn : wt d ≤ 1048576) (hx : uH w lo hi d xs) :
    Calls Tryz.prog 35 #[.agg xs.toArray] w fun e w' => ∃ ys S, e = .returned (.agg ys.toArray) ∧ oH w' d ys S ∧ S.Nodup ∧ (∀ s ∈ S, w.heap.size ≤ s) ∧ Below w.heap.size w w' := by
  have hty := ht
  replace ht : tyL d [.l 17 8, .i .i64, .i .i64, .l 19 9] := ht
  obtain ⟨n0, c0, _, rfl, g0, h0⟩ := tyL.l ht
  obtain ⟨z1, _, rfl, g1, h1⟩ := tyL.i h0
  clear h0
  obtain ⟨z2, _, rfl, g2, h2⟩ := tyL.i h1
  clear h1
  obtain ⟨n3, c3, _, rfl, g3, h3⟩ := tyL.l h2
  clear h2
  obtain rfl := tyL.nil h3
  clear h3
  obtain ⟨v0, _, rfl, s0, h0⟩ := hx
  obtain ⟨_, rfl, h1⟩ := h0
  obtain ⟨_, rfl, h2⟩ := h1
  obtain ⟨v3, _, rfl, s3, h3⟩ := h2
  obtain rfl := h3
  simp only [wt, wtP] at hn
  generalize hD : (UD.l 17 n0 c0 (UD.p (.int .i64 z1) (UD.p (.int .i64 z2) (UD.l 19 n3 c3 UD.nil)))) = D at hty ⊢
  have HD := uhide hD
  clear hD
  have HC0 : Hid (∀ wx : World, Below w.heap.size w wx → Calls Tryz.prog 91 #[v0] wx fun e w' => ∃ a p T, e = .returned (.slice a n0 p) ∧ Hid (oS w' 17 n0 c0 (.slice a n0 p) T) ∧ Hid (own2 T wx.heap.size w'.heap.size) ∧ Below wx.heap.size wx w') := fun wx hb => (utoObjS_any (lo := lo) (hi := hi) n0 c0 _ wx g0 (by omega) (s0.below hb)).mono fun e w' ⟨c', T, h1, h2, h3, h4, h5⟩ => by
    obtain ⟨a, p, rfl⟩ := h2.slice
    exact ⟨a, p, T, h1, h2, ⟨h3, fun s hs => ⟨h4 s hs, h2.lt s hs⟩⟩, h5⟩
  have HC3 : Hid (∀ wx : World, Below w.heap.size w wx → Calls Tryz.prog 92 #[v3] wx fun e w' => ∃ a p T, e = .returned (.slice a n3 p) ∧ Hid (oS w' 19 n3 c3 (.slice a n3 p) T) ∧ Hid (own2 T wx.heap.size w'.heap.size) ∧ Below wx.heap.size wx w') := fun wx hb => (utoChangeS_any (lo := lo) (hi := hi) n3 c3 _ wx g3 (by omega) (s3.below hb)).mono fun e w' ⟨c', T, h1, h2, h3, h4, h5⟩ => by
    obtain ⟨a, p, rfl⟩ := h2.slice
    exact ⟨a, p, T, h1, h2, ⟨h3, fun s hs => ⟨h4 s hs, h2.lt s hs⟩⟩, h5⟩
  obtain ⟨AX, hAX⟩ : ∃ AX : List Value, AX = (v0 :: (Value.int .i64 z1 :: (Value.int .i64 z2 :: (v3 :: [])))) := ⟨_, rfl⟩
  rw [← hAX]
  have hlen : AX.length = 4 := by rw [hAX]; simp
  have e0 : AX[0]? = some (v0) := at_mid (i := 0) (pre := (([] : List Value))) (ys := [v0]) (post := (Value.int .i64 z1 :: (Value.int .i64 z2 :: (v3 :: [])))) (by rw [hAX]; simp) (by simp) rfl
  have e1 : AX[1]? = some (.int .i64 z1) := at_mid (i := 0) (pre := ([v0])) (ys := [.int .i64 z1]) (post := (Value.int .i64 z2 :: (v3 :: []))) (by rw [hAX]; simp) (by simp) rfl
  have e2 : AX[2]? = some (.int .i64 z2) := at_mid (i := 0) (pre := ([v0, Value.int .i64 z1])) (ys := [.int .i64 z2]) (post := (v3 :: [])) (by rw [hAX]; simp) (by simp) rfl
  have e3 : AX[3]? = some (v3) := at_mid (i := 0) (pre := ([v0, Value.int .i64 z1, Value.int .i64 z2])) (ys := [v3]) (post := []) (by rw [hAX]; simp) (by simp) rfl
  clear hAX
  have HTY := uhide hty
  clear hty
  clear hn g0 s0 g1 g2 g3 s3
  have E0 := uhide e0
  have E1 := uhide e1
  have E2 := uhide e2
  have E3 := uhide e3
  clear e0 e1 e2 e3
  have BZ0 : Hid (0 + 1 ≤ ([.slice none 0 0, .int .i64 0, .int .i64 0, .slice none 0 0] : List Value).length) := by show _ ≤ _; decide
  have BZ1 : Hid (1 + 1 ≤ ([.slice none 0 0, .int .i64 0, .int .i64 0, .slice none 0 0] : List Value).length) := by show _ ≤ _; decide
  have BZ2 : Hid (2 + 1 ≤ ([.slice none 0 0, .int .i64 0, .int .i64 0, .slice none 0 0] : List Value).length) := by show _ ≤ _; decide
  have BZ3 : Hid (3 + 1 ≤ ([.slice none 0 0, .int .i64 0, .int .i64 0, .slice none 0 0] : List Value).length) := by show _ ≤ _; decide
  have C := uhide (CP.start (w := w) (TA := 61) (TO := 69) (AX := AX) (Z := [.slice none 0 0, .int .i64 0, .int .i64 0, .slice none 0 0]))
  go_enter Tryz.func35, Tryz.ntmps35
  go_wp2_with (first
    | ((with_reducible refine wpList_load_one ?qqg64 58 ?qqx64 ?qqo64 w.heap.size 0 ?qqh64 (v0) Tryz.rBase_Llaws_Obj (C.out.cell E0.out) ?_); (case qqg64 => rfl); (case qqo64 => rfl); (case qqh64 => simp [Act.eval, Act.put]))
    )
  refine (HC0.out _ C.out.bel).mono ?_
  rintro e w1 ⟨a0r, p0r, T0, rfl, O0, W0, hb0⟩
  have D := uhide (C.out.below hb0)
  have HB0 := uhide hb0
  clear hb0
  go_wp2_with (first
    | ((with_reducible refine wpList_store_v ?qqg72 63 ?qqx72 ?qqy72 ?qqo72 ?qqd72 (w.heap.size + 1 + 1) 0 ?qqh72 (.slice a0r n0 p0r) ?qqv72 one_slice Tryz.zBase_Limpl_Obj (D.out.there 1 BZ0.out) ?_); (case qqg72 => rfl); (case qqo72 => rfl); (case qqd72 => rfl); (case qqh72 => simp [Act.eval, Act.put]); (case qqv72 => simp [Act.eval, Act.put]); intro wy ey; replace C := uhide (C.out.list HB0.out O0.out W0.out ey (j' := 1) rfl (by decide)); clear ey D HB0 O0 W0)
    | ((with_reducible refine wpList_load_one ?qqg73 3 ?qqx73 ?qqo73 w.heap.size 1 ?qqh73 (.int .i64 z1) Tryz.rBase_int (C.out.cell E1.out) ?_); (case qqg73 => rfl); (case qqo73 => rfl); (case qqh73 => simp [Act.eval, Act.put]))
    | ((with_reducible refine wpList_store_v ?qqg74 3 ?qqx74 ?qqy74 ?qqo74 ?qqd74 (w.heap.size + 1 + 1) 1 ?qqh74 (.int .i64 z1) ?qqv74 one_int Tryz.zBase_int (C.out.there 1 BZ1.out) ?_); (case qqg74 => rfl); (case qqo74 => rfl); (case qqd74 => rfl); (case qqh74 => simp [Act.eval, Act.put]); (case qqv74 => simp [Act.eval, Act.put]); intro wy ey; replace C := uhide (C.out.plain ey (j' := 2) rfl (by decide)); clear ey)
    | ((with_reducible refine wpList_load_one ?qqg75 3 ?qqx75 ?qqo75 w.heap.size 2 ?qqh75 (.int .i64 z2) Tryz.rBase_int (C.out.cell E2.out) ?_); (case qqg75 => rfl); (case qqo75 => rfl); (case qqh75 => simp [Act.eval, Act.put]))
    | ((with_reducible refine wpList_store_v ?qqg76 3 ?qqx76 ?qqy76 ?qqo76 ?qqd76 (w.heap.size + 1 + 1) 2 ?qqh76 (.int .i64 z2) ?qqv76 one_int Tryz.zBase_int (C.out.there 1 BZ2.out) ?_); (case qqg76 => rfl); (case qqo76 => rfl); (case qqd76 => rfl); (case qqh76 => simp [Act.eval, Act.put]); (case qqv76 => simp [Act.eval, Act.put]); intro wy ey; replace C := uhide (C.out.plain ey (j' := 3) rfl (by decide)); clear ey)
    | ((with_reducible refine wpList_load_one ?qqg77 59 ?qqx77 ?qqo77 w.heap.size 3 ?qqh77 (v3) Tryz.rBase_Llaws_Change (C.out.cell E3.out) ?_); (case qqg77 => rfl); (case qqo77 => rfl); (case qqh77 => simp [Act.eval, Act.put]))
    )
  refine (HC3.out _ C.out.bel).mono ?_
  rintro e w2 ⟨a3r, p3r, T3, rfl, O3, W3, hb3⟩
  have D := uhide (C.out.below hb3)
  have HB3 := uhide hb3
  clear hb3
  have FZ0 : Hid (∀ l : List Value, l.length = 4 → Hid ((Tryz.prog.info? 69).map (·.size) = some l.length)) := fun l h => by show _ = _; rw [h]; exact Tryz.zBase_impl_Base
  have HZL : Hid (4 = ([.slice none 0 0, .int .i64 0, .int .i64 0, .slice none 0 0] : List Value).length) := by show _ = _; decide
  go_wp2_with (first
    | ((with_reducible refine wpList_store_v ?qqg87 67 ?qqx87 ?qqy87 ?qqo87 ?qqd87 (w.heap.size + 1 + 1) 3 ?qqh87 (.slice a3r n3 p3r) ?qqv87 one_slice Tryz.zBase_Limpl_Change (D.out.there 1 BZ3.out) ?_); (case qqg87 => rfl); (case qqo87 => rfl); (case qqd87 => rfl); (case qqh87 => simp [Act.eval, Act.put]); (case qqv87 => simp [Act.eval, Act.put]); intro wy ey; replace C := uhide (C.out.list HB3.out O3.out W3.out ey (j' := 4) rfl (by decide)); clear ey D HB3 O3 W3; obtain ⟨dn, S, RG, hl, TH, hod, HF⟩ := C.out.fin (D := D) (by rw [← HD.out]; apply UD.ext; simp only [UD.app_toL, UD.toL, List.cons_append, List.nil_append]) HZL.out; have FZ := FZ0.out dn hl; have ON := uhide (ones_own HTY.out hod); have HFF := uhide HF; clear C hod HF)
    | ((with_reducible refine wpList_load_row2 ?qqg88 69 ?qqx88 ?qqo88 (w.heap.size + 1 + 1) 0 ?qqh88 dn Tryz.rBase_impl_Base FZ.out RG.out ?_); (case qqg88 => rfl); (case qqo88 => rfl); (case qqh88 => simp [Act.eval, Act.put]))
    | ((with_reducible refine wpList_store_cells ?qqg89 69 ?qqx89 ?qqy89 ?qqo89 ?qqd89 (w.heap.size + 1) 0 ?qqh89 (.agg dn.toArray) ?qqv89 dn cells_agg ON.out FZ.out TH.out ?_); (case qqg89 => rfl); (case qqo89 => rfl); (case qqd89 => rfl); (case qqh89 => simp [Act.eval, Act.put]); (case qqv89 => simp [Act.eval, Act.put]); intro wy ey; have HG := uhide (HFF.out wy ey); clear ey HFF)
    )
  obtain ⟨HO, h1, h2, h3, h4⟩ := HG.out
  refine bodyPost_ret (v := .agg dn.toArray) ?_ rfl ⟨dn, S, rfl, ?_, h2, h3, h4⟩
  · exact results_row rfl _ _ (w.heap.size + 1) _ _ (by simp [Act.put]) HO Tryz.rBase_impl_Base (by rw [hl]; exact Tryz.zBase_impl_Base)
  · exact h1
end Go.Proofs.YtdnodaoeflbfkaaGreat
/- Data as cells: the helpers of the laws over Obj. -/
namespace Go.Proofs.YtdnodaoeflbfkaaGreat
open Go.RowKit Go.BigFrame
set_option linter.unusedVariables false
set_option linter.unusedSimpArgs false

set_option maxRecDepth 100000 in
set_option maxHeartbeats 4000000 in
theorem umarkObjS_any (n k0 : Nat) (cs : UD) (c : Value) (S : List Nat) (w : World) (ht : tyS 17 n cs 8) (hnd : S.Nodup) (hk0 : 1 ≤ k0) (hk1 : k0 + cnt cs ≤ 100000000) (hx : oS w 17 n cs c S) :
    Calls Tryz.prog 96 #[c, .int .i64 k0] w fun e w' => e = .returned (.int .i64 (k0 + cnt cs : Nat)) ∧ oS w' 17 n (mk cs k0) c S ∧ OutS S w w' := by
  obtain ⟨a, cap, rfl⟩ := hx.slice
  have hmx := ht.2.2.1
  unfold maxLen at hmx
  rcases Nat.eq_zero_or_pos n with h0 | hpos
  · subst h0
    obtain ⟨e1, e2⟩ := hx.empty rfl k0
    rw [e1, e2]
    have Hx := uhide hx
    clear hx ht hnd e1 e2
    go_enter Tryz.func96, Tryz.ntmps96
    go_wp2
    go_loopw [1, 5] (fun s i wr => i = .int .i64 0 ∧ s = .int .i64 k0 ∧ wr = w) (fun _ _ _ => 0)
    case atStart => exact ⟨rfl, rfl, rfl⟩
    case round =>
      obtain ⟨rfl, rfl, rfl⟩ := hrel
      go_wp2
      go_ret
      exact ⟨rfl, Hx.out, OutS.refl _ _⟩
  obtain ⟨e, g, S1, xs0, M0, rfl, hp0, hl0⟩ := MS.start hx hnd hpos k0
  obtain ⟨cap, h1, hgl⟩ := M0.own
  cases h1
  have M0 := uhide M0
  have Ht := uhide ht
  have Hp0 := uhide hp0
  have Hl0 := uhide hl0
  have Hkk : Hid (∀ q, k0 + cnt (cs.takeN (q * 17)) ≤ 100000000) := fun q => by have := cnt_le cs (q * 17); omega
  clear hx ht hnd hp0 hl0
  go_enter Tryz.func96, Tryz.ntmps96
  go_wp2
  go_loopw [1, 5] (fun s i wr => ∃ (q : Nat), q ≤ n ∧ i = .int .i64 q ∧ s = .int .i64 (k0 + cnt (cs.takeN (q * 17)) : Nat) ∧ Hid (MS w wr e 17 n (.slice (some ⟨g, 0, none⟩) n cap) g cs k0 S1 xs0 (q * 17))) (fun _ i _ => n - (intOf i).toNat)
  case atStart => exact ⟨0, Nat.zero_le _, rfl, by rw [Nat.zero_mul]; rfl, by rw [Nat.zero_mul]; exact M0⟩
  case round =>
    clear M0
    obtain ⟨q, hq, rfl, rfl, HM⟩ := hrel
    by_cases hlt : q < n
    · have htr := Ht.out.row hlt
      have hKn : q * 17 + 17 ≤ n * 17 := by have := Nat.mul_le_mul_right 17 (show q + 1 ≤ n by omega); rw [Nat.succ_mul] at this; exact this
      obtain ⟨z0, z1, z2, z3, z4, z5, n6, c6, z7, z8, z9, n10, c10, n11, c11, z12, z13, z14, n15, c15, n16, c16, hR, g0, g1, g2, g3, g4, g6, g7, g8, g9, g10, g11, g12, g13, g14, g15, g16⟩ := partsObj htr
      obtain ⟨kq, hkq⟩ : ∃ kq, k0 + cnt (cs.takeN (q * 17)) = kq := ⟨_, rfl⟩
      have hK0 : 1 ≤ kq := by omega
      have at0 : cs.at? (q * 17) = some (.p (.int .i64 z0)) := at_row (j := 0) hR (by decide) rfl
      have ct0 : Hid (k0 + cnt (cs.takeN (q * 17)) = kq) := hkq
      have at1 : cs.at? (q * 17 + 1) = some (.p (.string z1)) := at_row (j := 1) hR (by decide) rfl
      have ct1 : Hid (k0 + cnt (cs.takeN (q * 17 + 1)) = (kq + 1)) := ct_next ct0.out at0
      have at2 : cs.at? (q * 17 + 2) = some (.p (.int .i64 z2)) := at_row (j := 2) hR (by decide) rfl
      have ct2 : Hid (k0 + cnt (cs.takeN (q * 17 + 2)) = ((kq + 1) + 1)) := ct_next ct1.out at1
      have at3 : cs.at? (q * 17 + 3) = some (.p (.int .i64 z3)) := at_row (j := 3) hR (by decide) rfl
      have ct3 : Hid (k0 + cnt (cs.takeN (q * 17 + 3)) = (((kq + 1) + 1) + 1)) := ct_next ct2.out at2
      have at4 : cs.at? (q * 17 + 4) = some (.p (.int .i64 z4)) := at_row (j := 4) hR (by decide) rfl
      have ct4 : Hid (k0 + cnt (cs.takeN (q * 17 + 4)) = ((((kq + 1) + 1) + 1) + 1)) := ct_next ct3.out at3
      have at5 : cs.at? (q * 17 + 5) = some (.p (.bool z5)) := at_row (j := 5) hR (by decide) rfl
      have ct5 : Hid (k0 + cnt (cs.takeN (q * 17 + 5)) = (((((kq + 1) + 1) + 1) + 1) + 1)) := ct_next ct4.out at4
      have at6 : cs.at? (q * 17 + 6) = some (.l 1 n6 c6) := at_row (j := 6) hR (by decide) rfl
      have ct6 : Hid (k0 + cnt (cs.takeN (q * 17 + 6)) = ((((((kq + 1) + 1) + 1) + 1) + 1) + 1)) := ct_next ct5.out at5
      obtain ⟨a6, p6, x6⟩ := Hl0.out _ _ _ _ at6
      have at7 : cs.at? (q * 17 + 7) = some (.p (.int .i64 z7)) := at_row (j := 7) hR (by decide) rfl
      have ct7 : Hid (k0 + cnt (cs.takeN (q * 17 + 7)) = (((((((kq + 1) + 1) + 1) + 1) + 1) + 1) + cnt c6)) := ct_next ct6.out at6
      have at8 : cs.at? (q * 17 + 8) = some (.p (.string z8)) := at_row (j := 8) hR (by decide) rfl
      have ct8 : Hid (k0 + cnt (cs.takeN (q * 17 + 8)) = ((((((((kq + 1) + 1) + 1) + 1) + 1) + 1) + cnt c6) + 1)) := ct_next ct7.out at7
      have at9 : cs.at? (q * 17 + 9) = some (.p (.int .i64 z9)) := at_row (j := 9) hR (by decide) rfl
      have ct9 : Hid (k0 + cnt (cs.takeN (q * 17 + 9)) = (((((((((kq + 1) + 1) + 1) + 1) + 1) + 1) + cnt c6) + 1) + 1)) := ct_next ct8.out at8
      have at10 : cs.at? (q * 17 + 10) = some (.l 1 n10 c10) := at_row (j := 10) hR (by decide) rfl
      have ct10 : Hid (k0 + cnt (cs.takeN (q * 17 + 10)) = ((((((((((kq + 1) + 1) + 1) + 1) + 1) + 1) + cnt c6) + 1) + 1) + 1)) := ct_next ct9.out at9
      obtain ⟨a10, p10, x10⟩ := Hl0.out _ _ _ _ at10
      have at11 : cs.at? (q * 17 + 11) = some (.l 5 n11 c11) := at_row (j := 11) hR (by decide) rfl
      have ct11 : Hid (k0 + cnt (cs.takeN (q * 17 + 11)) = (((((((((((kq + 1) + 1) + 1) + 1) + 1) + 1) + cnt c6) + 1) + 1) + 1) + cnt c10)) := ct_next ct10.out at10
      obtain ⟨a11, p11, x11⟩ := Hl0.out _ _ _ _ at11
      have at12 : cs.at? (q * 17 + 12) = some (.p (.int .i64 z12)) := at_row (j := 12) hR (by decide) rfl
      have ct12 : Hid (k0 + cnt (cs.takeN (q * 17 + 12)) = ((((((((((((kq + 1) + 1) + 1) + 1) + 1) + 1) + cnt c6) + 1) + 1) + 1) + cnt c10) + cnt c11)) := ct_next ct11.out at11
      have at13 : cs.at? (q * 17 + 13) = some (.p (.string z13)) := at_row (j := 13) hR (by decide) rfl
      have ct13 : Hid (k0 + cnt (cs.takeN (q * 17 + 13)) = (((((((((((((kq + 1) + 1) + 1) + 1) + 1) + 1) + cnt c6) + 1) + 1) + 1) + cnt c10) + cnt c11) + 1)) := ct_next ct12.out at12
      have at14 : cs.at? (q * 17 + 14) = some (.p (.int .i64 z14)) := at_row (j := 14) hR (by decide) rfl
      have ct14 : Hid (k0 + cnt (cs.takeN (q * 17 + 14)) = ((((((((((((((kq + 1) + 1) + 1) + 1) + 1) + 1) + cnt c6) + 1) + 1) + 1) + cnt c10) + cnt c11) + 1) + 1)) := ct_next ct13.out at13
      have at15 : cs.at? (q * 17 + 15) = some (.l 1 n15 c15) := at_row (j := 15) hR (by decide) rfl
      have ct15 : Hid (k0 + cnt (cs.takeN (q * 17 + 15)) = (((((((((((((((kq + 1) + 1) + 1) + 1) + 1) + 1) + cnt c6) + 1) + 1) + 1) + cnt c10) + cnt c11) + 1) + 1) + 1)) := ct_next ct14.out at14
      obtain ⟨a15, p15, x15⟩ := Hl0.out _ _ _ _ at15
      have at16 : cs.at? (q * 17 + 16) = some (.l 5 n16 c16) := at_row (j := 16) hR (by decide) rfl
      have ct16 : Hid (k0 + cnt (cs.takeN (q * 17 + 16)) = ((((((((((((((((kq + 1) + 1) + 1) + 1) + 1) + 1) + cnt c6) + 1) + 1) + 1) + cnt c10) + cnt c11) + 1) + 1) + 1) + cnt c15)) := ct_next ct15.out at15
      obtain ⟨a16, p16, x16⟩ := Hl0.out _ _ _ _ at16
      have hend : Hid (k0 + cnt (cs.takeN ((q + 1) * 17)) = (((((((((((((((((kq + 1) + 1) + 1) + 1) + 1) + 1) + cnt c6) + 1) + 1) + 1) + cnt c10) + cnt c11) + 1) + 1) + 1) + cnt c15) + cnt c16)) := ct_end (ct_next ct16.out at16)
      have hkb : (((((((((((((((((kq + 1) + 1) + 1) + 1) + 1) + 1) + cnt c6) + 1) + 1) + 1) + cnt c10) + cnt c11) + 1) + 1) + 1) + cnt c15) + cnt c16) ≤ 100000000 := by have h := Hkk.out (q + 1); rw [hend.out] at h; exact h
      have hk1q : Hid (k0 + cnt (cs.takeN (q * 17)) = kq) := hkq
      clear hkq
      have KB0 : kq ≤ 1000000000 := by omega
      have HP0 : Hid (∀ (wx wy : World) (u : Value), MS w wx e 17 n (.slice (some ⟨g, 0, none⟩) n cap) g cs k0 S1 xs0 (q * 17) → u = .int .i64 (kq : Nat) → wy = wx.setCells g (q * 17) [u] → MS w wy e 17 n (.slice (some ⟨g, 0, none⟩) n cap) g cs k0 S1 xs0 (q * 17 + 1)) := fun wx wy u h hu e => h.cellS at0 ct0.out (hu.trans (mkP_int _ _ KB0).symm) e rfl
      have HP1 : Hid (∀ (wx wy : World) (u : Value), MS w wx e 17 n (.slice (some ⟨g, 0, none⟩) n cap) g cs k0 S1 xs0 (q * 17 + 1) → u = .string (umtx (kq + 1)) → wy = wx.setCells g (q * 17 + 1) [u] → MS w wy e 17 n (.slice (some ⟨g, 0, none⟩) n cap) g cs k0 S1 xs0 (q * 17 + 2)) := fun wx wy u h hu e => h.cellS at1 ct1.out (hu.trans rfl) e rfl
      have HT1 : Hid (∀ (wx : World) (x : Int), x = (((kq + 1) : Nat) : Int) → Calls Tryz.prog 84 #[.int .i64 x] wx fun e1 w' => e1 = .returned (.string (umtx (kq + 1))) ∧ Below wx.heap.size wx w') := fun wx x hx => by rw [hx]; exact umarkText_any _ wx (by omega) (by omega)
      have KB2 : ((kq + 1) + 1) ≤ 1000000000 := by omega
      have HP2 : Hid (∀ (wx wy : World) (u : Value), MS w wx e 17 n (.slice (some ⟨g, 0, none⟩) n cap) g cs k0 S1 xs0 (q * 17 + 2) → u = .int .i64 (((kq + 1) + 1) : Nat) → wy = wx.setCells g (q * 17 + 2) [u] → MS w wy e 17 n (.slice (some ⟨g, 0, none⟩) n cap) g cs k0 S1 xs0 (q * 17 + 3)) := fun wx wy u h hu e => h.cellS at2 ct2.out (hu.trans (mkP_int _ _ KB2).symm) e rfl
      have KB3 : (((kq + 1) + 1) + 1) ≤ 1000000000 := by omega
      have HP3 : Hid (∀ (wx wy : World) (u : Value), MS w wx e 17 n (.slice (some ⟨g, 0, none⟩) n cap) g cs k0 S1 xs0 (q * 17 + 3) → u = .int .i64 ((((kq + 1) + 1) + 1) : Nat) → wy = wx.setCells g (q * 17 + 3) [u] → MS w wy e 17 n (.slice (some ⟨g, 0, none⟩) n cap) g cs k0 S1 xs0 (q * 17 + 4)) := fun wx wy u h hu e => h.cellS at3 ct3.out (hu.trans (mkP_int _ _ KB3).symm) e rfl
      have KB4 : ((((kq + 1) + 1) + 1) + 1) ≤ 1000000000 := by omega
      have HP4 : Hid (∀ (wx wy : World) (u : Value), MS w wx e 17 n (.slice (some ⟨g, 0, none⟩) n cap) g cs k0 S1 xs0 (q * 17 + 4) → u = .int .i64 (((((kq + 1) + 1) + 1) + 1) : Nat) → wy = wx.setCells g (q * 17 + 4) [u] → MS w wy e 17 n (.slice (some ⟨g, 0, none⟩) n cap) g cs k0 S1 xs0 (q * 17 + 5)) := fun wx wy u h hu e => h.cellS at4 ct4.out (hu.trans (mkP_int _ _ KB4).symm) e rfl
      have HP5 : Hid (∀ (wx wy : World) (u : Value), MS w wx e 17 n (.slice (some ⟨g, 0, none⟩) n cap) g cs k0 S1 xs0 (q * 17 + 5) → u = .bool ((((((kq + 1) + 1) + 1) + 1) + 1) % 3 == 0) → wy = wx.setCells g (q * 17 + 5) [u] → MS w wy e 17 n (.slice (some ⟨g, 0, none⟩) n cap) g cs k0 S1 xs0 (q * 17 + 6)) := fun wx wy u h hu e => h.cellS at5 ct5.out (hu.trans rfl) e rfl
      have HC6 : Hid (∀ (wx : World) (x : Int), MS w wx e 17 n (.slice (some ⟨g, 0, none⟩) n cap) g cs k0 S1 xs0 (q * 17 + 6) → x = ((((((((kq + 1) + 1) + 1) + 1) + 1) + 1) : Nat) : Int) → Calls Tryz.prog 56 #[.slice a6 n6 p6, .int .i64 x] wx fun e1 w' => e1 = .returned (.int .i64 ((((((((kq + 1) + 1) + 1) + 1) + 1) + 1) + cnt c6 : Nat))) ∧ Hid (MS w w' e 17 n (.slice (some ⟨g, 0, none⟩) n cap) g cs k0 S1 xs0 (q * 17 + 7))) := by
        intro wx x h hxx
        rw [hxx]
        obtain ⟨c', T, q1, q2, q3, q5⟩ := h.part at6
        rw [x6] at q1
        cases q1
        rw [ct6.out] at q5
        exact (umarkStringS_any n6 ((((((kq + 1) + 1) + 1) + 1) + 1) + 1) c6 _ T wx g6 q3 (by omega) (by omega) q2).mono fun e1 w' h => ⟨h.1, q5 w' h.2.2 h.2.1⟩
      have KB7 : (((((((kq + 1) + 1) + 1) + 1) + 1) + 1) + cnt c6) ≤ 1000000000 := by omega
      have HP7 : Hid (∀ (wx wy : World) (u : Value), MS w wx e 17 n (.slice (some ⟨g, 0, none⟩) n cap) g cs k0 S1 xs0 (q * 17 + 7) → u = .int .i64 ((((((((kq + 1) + 1) + 1) + 1) + 1) + 1) + cnt c6) : Nat) → wy = wx.setCells g (q * 17 + 7) [u] → MS w wy e 17 n (.slice (some ⟨g, 0, none⟩) n cap) g cs k0 S1 xs0 (q * 17 + 8)) := fun wx wy u h hu e => h.cellS at7 ct7.out (hu.trans (mkP_int _ _ KB7).symm) e rfl
      have HP8 : Hid (∀ (wx wy : World) (u : Value), MS w wx e 17 n (.slice (some ⟨g, 0, none⟩) n cap) g cs k0 S1 xs0 (q * 17 + 8) → u = .string (umtx ((((((((kq + 1) + 1) + 1) + 1) + 1) + 1) + cnt c6) + 1)) → wy = wx.setCells g (q * 17 + 8) [u] → MS w wy e 17 n (.slice (some ⟨g, 0, none⟩) n cap) g cs k0 S1 xs0 (q * 17 + 9)) := fun wx wy u h hu e => h.cellS at8 ct8.out (hu.trans rfl) e rfl
      have HT8 : Hid (∀ (wx : World) (x : Int), x = ((((((((((kq + 1) + 1) + 1) + 1) + 1) + 1) + cnt c6) + 1) : Nat) : Int) → Calls Tryz.prog 84 #[.int .i64 x] wx fun e1 w' => e1 = .returned (.string (umtx ((((((((kq + 1) + 1) + 1) + 1) + 1) + 1) + cnt c6) + 1))) ∧ Below wx.heap.size wx w') := fun wx x hx => by rw [hx]; exact umarkText_any _ wx (by omega) (by omega)
      have KB9 : (((((((((kq + 1) + 1) + 1) + 1) + 1) + 1) + cnt c6) + 1) + 1) ≤ 1000000000 := by omega
      have HP9 : Hid (∀ (wx wy : World) (u : Value), MS w wx e 17 n (.slice (some ⟨g, 0, none⟩) n cap) g cs k0 S1 xs0 (q * 17 + 9) → u = .int .i64 ((((((((((kq + 1) + 1) + 1) + 1) + 1) + 1) + cnt c6) + 1) + 1) : Nat) → wy = wx.setCells g (q * 17 + 9) [u] → MS w wy e 17 n (.slice (some ⟨g, 0, none⟩) n cap) g cs k0 S1 xs0 (q * 17 + 10)) := fun wx wy u h hu e => h.cellS at9 ct9.out (hu.trans (mkP_int _ _ KB9).symm) e rfl
      have HC10 : Hid (∀ (wx : World) (x : Int), MS w wx e 17 n (.slice (some ⟨g, 0, none⟩) n cap) g cs k0 S1 xs0 (q * 17 + 10) → x = ((((((((((((kq + 1) + 1) + 1) + 1) + 1) + 1) + cnt c6) + 1) + 1) + 1) : Nat) : Int) → Calls Tryz.prog 56 #[.slice a10 n10 p10, .int .i64 x] wx fun e1 w' => e1 = .returned (.int .i64 ((((((((((((kq + 1) + 1) + 1) + 1) + 1) + 1) + cnt c6) + 1) + 1) + 1) + cnt c10 : Nat))) ∧ Hid (MS w w' e 17 n (.slice (some ⟨g, 0, none⟩) n cap) g cs k0 S1 xs0 (q * 17 + 11))) := by
        intro wx x h hxx
        rw [hxx]
        obtain ⟨c', T, q1, q2, q3, q5⟩ := h.part at10
        rw [x10] at q1
        cases q1
        rw [ct10.out] at q5
        exact (umarkStringS_any n10 ((((((((((kq + 1) + 1) + 1) + 1) + 1) + 1) + cnt c6) + 1) + 1) + 1) c10 _ T wx g10 q3 (by omega) (by omega) q2).mono fun e1 w' h => ⟨h.1, q5 w' h.2.2 h.2.1⟩
      have HC11 : Hid (∀ (wx : World) (x : Int), MS w wx e 17 n (.slice (some ⟨g, 0, none⟩) n cap) g cs k0 S1 xs0 (q * 17 + 11) → x = (((((((((((((kq + 1) + 1) + 1) + 1) + 1) + 1) + cnt c6) + 1) + 1) + 1) + cnt c10) : Nat) : Int) → Calls Tryz.prog 104 #[.slice a11 n11 p11, .int .i64 x] wx fun e1 w' => e1 = .returned (.int .i64 (((((((((((((kq + 1) + 1) + 1) + 1) + 1) + 1) + cnt c6) + 1) + 1) + 1) + cnt c10) + cnt c11 : Nat))) ∧ Hid (MS w w' e 17 n (.slice (some ⟨g, 0, none⟩) n cap) g cs k0 S1 xs0 (q * 17 + 12))) := by
        intro wx x h hxx
        rw [hxx]
        obtain ⟨c', T, q1, q2, q3, q5⟩ := h.part at11
        rw [x11] at q1
        cases q1
        rw [ct11.out] at q5
        exact (umarkValueS_any n11 (((((((((((kq + 1) + 1) + 1) + 1) + 1) + 1) + cnt c6) + 1) + 1) + 1) + cnt c10) c11 _ T wx g11 q3 (by omega) (by omega) q2).mono fun e1 w' h => ⟨h.1, q5 w' h.2.2 h.2.1⟩
      have KB12 : ((((((((((((kq + 1) + 1) + 1) + 1) + 1) + 1) + cnt c6) + 1) + 1) + 1) + cnt c10) + cnt c11) ≤ 1000000000 := by omega
      have HP12 : Hid (∀ (wx wy : World) (u : Value), MS w wx e 17 n (.slice (some ⟨g, 0, none⟩) n cap) g cs k0 S1 xs0 (q * 17 + 12) → u = .int .i64 (((((((((((((kq + 1) + 1) + 1) + 1) + 1) + 1) + cnt c6) + 1) + 1) + 1) + cnt c10) + cnt c11) : Nat) → wy = wx.setCells g (q * 17 + 12) [u] → MS w wy e 17 n (.slice (some ⟨g, 0, none⟩) n cap) g cs k0 S1 xs0 (q * 17 + 13)) := fun wx wy u h hu e => h.cellS at12 ct12.out (hu.trans (mkP_int _ _ KB12).symm) e rfl
      have HP13 : Hid (∀ (wx wy : World) (u : Value), MS w wx e 17 n (.slice (some ⟨g, 0, none⟩) n cap) g cs k0 S1 xs0 (q * 17 + 13) → u = .string (umtx (((((((((((((kq + 1) + 1) + 1) + 1) + 1) + 1) + cnt c6) + 1) + 1) + 1) + cnt c10) + cnt c11) + 1)) → wy = wx.setCells g (q * 17 + 13) [u] → MS w wy e 17 n (.slice (some ⟨g, 0, none⟩) n cap) g cs k0 S1 xs0 (q * 17 + 14)) := fun wx wy u h hu e => h.cellS at13 ct13.out (hu.trans rfl) e rfl
      have HT13 : Hid (∀ (wx : World) (x : Int), x = (((((((((((((((kq + 1) + 1) + 1) + 1) + 1) + 1) + cnt c6) + 1) + 1) + 1) + cnt c10) + cnt c11) + 1) : Nat) : Int) → Calls Tryz.prog 84 #[.int .i64 x] wx fun e1 w' => e1 = .returned (.string (umtx (((((((((((((kq + 1) + 1) + 1) + 1) + 1) + 1) + cnt c6) + 1) + 1) + 1) + cnt c10) + cnt c11) + 1))) ∧ Below wx.heap.size wx w') := fun wx x hx => by rw [hx]; exact umarkText_any _ wx (by omega) (by omega)
      have KB14 : ((((((((((((((kq + 1) + 1) + 1) + 1) + 1) + 1) + cnt c6) + 1) + 1) + 1) + cnt c10) + cnt c11) + 1) + 1) ≤ 1000000000 := by omega
      have HP14 : Hid (∀ (wx wy : World) (u : Value), MS w wx e 17 n (.slice (some ⟨g, 0, none⟩) n cap) g cs k0 S1 xs0 (q * 17 + 14) → u = .int .i64 (((((((((((((((kq + 1) + 1) + 1) + 1) + 1) + 1) + cnt c6) + 1) + 1) + 1) + cnt c10) + cnt c11) + 1) + 1) : Nat) → wy = wx.setCells g (q * 17 + 14) [u] → MS w wy e 17 n (.slice (some ⟨g, 0, none⟩) n cap) g cs k0 S1 xs0 (q * 17 + 15)) := fun wx wy u h hu e => h.cellS at14 ct14.out (hu.trans (mkP_int _ _ KB14).symm) e rfl
      have HC15 : Hid (∀ (wx : World) (x : Int), MS w wx e 17 n (.slice (some ⟨g, 0, none⟩) n cap) g cs k0 S1 xs0 (q * 17 + 15) → x = (((((((((((((((((kq + 1) + 1) + 1) + 1) + 1) + 1) + cnt c6) + 1) + 1) + 1) + cnt c10) + cnt c11) + 1) + 1) + 1) : Nat) : Int) → Calls Tryz.prog 56 #[.slice a15 n15 p15, .int .i64 x] wx fun e1 w' => e1 = .returned (.int .i64 (((((((((((((((((kq + 1) + 1) + 1) + 1) + 1) + 1) + cnt c6) + 1) + 1) + 1) + cnt c10) + cnt c11) + 1) + 1) + 1) + cnt c15 : Nat))) ∧ Hid (MS w w' e 17 n (.slice (some ⟨g, 0, none⟩) n cap) g cs k0 S1 xs0 (q * 17 + 16))) := by
        intro wx x h hxx
        rw [hxx]
        obtain ⟨c', T, q1, q2, q3, q5⟩ := h.part at15
        rw [x15] at q1
        cases q1
        rw [ct15.out] at q5
        exact (umarkStringS_any n15 (((((((((((((((kq + 1) + 1) + 1) + 1) + 1) + 1) + cnt c6) + 1) + 1) + 1) + cnt c10) + cnt c11) + 1) + 1) + 1) c15 _ T wx g15 q3 (by omega) (by omega) q2).mono fun e1 w' h => ⟨h.1, q5 w' h.2.2 h.2.1⟩
      have HC16 : Hid (∀ (wx : World) (x : Int), MS w wx e 17 n (.slice (some ⟨g, 0, none⟩) n cap) g cs k0 S1 xs0 (q * 17 + 16) → x = ((((((((((((((((((kq + 1) + 1) + 1) + 1) + 1) + 1) + cnt c6) + 1) + 1) + 1) + cnt c10) + cnt c11) + 1) + 1) + 1) + cnt c15) : Nat) : Int) → Calls Tryz.prog 104 #[.slice a16 n16 p16, .int .i64 x] wx fun e1 w' => e1 = .returned (.int .i64 ((((((((((((((((((kq + 1) + 1) + 1) + 1) + 1) + 1) + cnt c6) + 1) + 1) + 1) + cnt c10) + cnt c11) + 1) + 1) + 1) + cnt c15) + cnt c16 : Nat))) ∧ Hid (MS w w' e 17 n (.slice (some ⟨g, 0, none⟩) n cap) g cs k0 S1 xs0 (q * 17 + 17))) := by
        intro wx x h hxx
        rw [hxx]
        obtain ⟨c', T, q1, q2, q3, q5⟩ := h.part at16
        rw [x16] at q1
        cases q1
        rw [ct16.out] at q5
        exact (umarkValueS_any n16 ((((((((((((((((kq + 1) + 1) + 1) + 1) + 1) + 1) + cnt c6) + 1) + 1) + 1) + cnt c10) + cnt c11) + 1) + 1) + 1) + cnt c15) c16 _ T wx g16 q3 (by omega) (by omega) q2).mono fun e1 w' h => ⟨h.1, q5 w' h.2.2 h.2.1⟩
      have NN0 : Hid (q * 17 < n * 17) := by show _ < _; omega
      have NN1 : Hid (q * 17 + 1 < n * 17) := by show _ < _; omega
      have NN2 : Hid (q * 17 + 2 < n * 17) := by show _ < _; omega
      have NN3 : Hid (q * 17 + 3 < n * 17) := by show _ < _; omega
      have NN4 : Hid (q * 17 + 4 < n * 17) := by show _ < _; omega
      have NN5 : Hid (q * 17 + 5 < n * 17) := by show _ < _; omega
      have HQ6 : Hid (∀ wx, MS w wx e 17 n (.slice (some ⟨g, 0, none⟩) n cap) g cs k0 S1 xs0 (q * 17 + 6) → wx.cell? ⟨g, q * 17 + 6, none⟩ = some (.slice a6 n6 p6)) := fun wx h => h.cellAt _ _ (by omega) x6 (by omega)
      have NN6 : Hid (q * 17 + 6 < n * 17) := by show _ < _; omega
      have NN7 : Hid (q * 17 + 7 < n * 17) := by show _ < _; omega
      have NN8 : Hid (q * 17 + 8 < n * 17) := by show _ < _; omega
      have NN9 : Hid (q * 17 + 9 < n * 17) := by show _ < _; omega
      have HQ10 : Hid (∀ wx, MS w wx e 17 n (.slice (some ⟨g, 0, none⟩) n cap) g cs k0 S1 xs0 (q * 17 + 10) → wx.cell? ⟨g, q * 17 + 10, none⟩ = some (.slice a10 n10 p10)) := fun wx h => h.cellAt _ _ (by omega) x10 (by omega)
      have NN10 : Hid (q * 17 + 10 < n * 17) := by show _ < _; omega
      have HQ11 : Hid (∀ wx, MS w wx e 17 n (.slice (some ⟨g, 0, none⟩) n cap) g cs k0 S1 xs0 (q * 17 + 11) → wx.cell? ⟨g, q * 17 + 11, none⟩ = some (.slice a11 n11 p11)) := fun wx h => h.cellAt _ _ (by omega) x11 (by omega)
      have NN11 : Hid (q * 17 + 11 < n * 17) := by show _ < _; omega
      have NN12 : Hid (q * 17 + 12 < n * 17) := by show _ < _; omega
      have NN13 : Hid (q * 17 + 13 < n * 17) := by show _ < _; omega
      have NN14 : Hid (q * 17 + 14 < n * 17) := by show _ < _; omega
      have HQ15 : Hid (∀ wx, MS w wx e 17 n (.slice (some ⟨g, 0, none⟩) n cap) g cs k0 S1 xs0 (q * 17 + 15) → wx.cell? ⟨g, q * 17 + 15, none⟩ = some (.slice a15 n15 p15)) := fun wx h => h.cellAt _ _ (by omega) x15 (by omega)
      have NN15 : Hid (q * 17 + 15 < n * 17) := by show _ < _; omega
      have HQ16 : Hid (∀ wx, MS w wx e 17 n (.slice (some ⟨g, 0, none⟩) n cap) g cs k0 S1 xs0 (q * 17 + 16) → wx.cell? ⟨g, q * 17 + 16, none⟩ = some (.slice a16 n16 p16)) := fun wx h => h.cellAt _ _ (by omega) x16 (by omega)
      have NN16 : Hid (q * 17 + 16 < n * 17) := by show _ < _; omega
      have HN : Hid (∀ wx, MS w wx e 17 n (.slice (some ⟨g, 0, none⟩) n cap) g cs k0 S1 xs0 (q * 17 + 17) → MS w wx e 17 n (.slice (some ⟨g, 0, none⟩) n cap) g cs k0 S1 xs0 ((q + 1) * 17)) := fun wx h => by rw [show q * 17 + 17 = (q + 1) * 17 by omega] at h; exact h
      have HE := hend
      rw [hk1q.out]
      clear hR htr hend hk1q Ht Hkk Hp0 Hl0 g0 g1 g2 g3 g4 g6 g7 g8 g9 g10 g11 g12 g13 g14 g15 g16 at0 at1 at2 at3 at4 at5 at6 at7 at8 at9 at10 at11 at12 at13 at14 at15 at16 ct0 ct1 ct2 ct3 ct4 ct5 ct6 ct7 ct8 ct9 ct10 ct11 ct12 ct13 ct14 ct15 ct16 x6 x10 x11 x15 x16
      generalize umtx (kq + 1) = M1 at *
      generalize cnt c6 = m6 at *
      generalize umtx ((((((((kq + 1) + 1) + 1) + 1) + 1) + 1) + m6) + 1) = M8 at *
      generalize cnt c10 = m10 at *
      generalize cnt c11 = m11 at *
      generalize umtx (((((((((((((kq + 1) + 1) + 1) + 1) + 1) + 1) + m6) + 1) + 1) + 1) + m10) + m11) + 1) = M13 at *
      generalize cnt c15 = m15 at *
      generalize cnt c16 = m16 at *
      have EB5 : ((((((((kq + 1) + 1) + 1) + 1) + 1) : Nat) : Int) % 3 == 0) = ((((((kq + 1) + 1) + 1) + 1) + 1) % 3 == 0) := by rw [Bool.eq_iff_iff, beq_iff_eq, beq_iff_eq]; omega
      push_cast at EB5
      replace EB5 := uhide EB5
      go_wp2_with (first
        | ((with_reducible refine wpList_store_v ?qqg291 3 ?qqx291 ?qqy291 ?qqo291 ?qqd291 g (q * 17) ?qqh291 (.int .i64 (kq : Nat)) ?qqv291 one_int Tryz.zObj_int (HM.out.there _ NN0.out) ?_); (case qqg291 => rfl); (case qqo291 => rfl); (case qqd291 => rfl); (case qqh291 => simp [Act.eval, Act.put]); (case qqv291 => first | (simp; done) | (simp [Act.eval]; done) | (simp [Act.eval]; omega) | (simp only [Act.put]; simp; done) | (simp only [Act.put]; simp [Act.eval]; done) | (simp only [Act.put]; simp [Act.eval]; omega) | (simp [Act.eval, Bool.eq_iff_iff]; omega)); intro wy ey; replace HM := uhide (HP0.out _ wy _ HM.out rfl ey); clear ey)
        )
      refine (HT1.out _ _ (by omega)).mono ?_
      rintro e1 w1 ⟨rfl, hb1⟩
      replace HM := uhide (HM.out.below hb1)
      clear hb1
      go_wp2_with (first
        | ((with_reducible refine wpList_store_v ?qqg298 9 ?qqx298 ?qqy298 ?qqo298 ?qqd298 g (q * 17 + 1) ?qqh298 (.string M1) ?qqv298 one_string Tryz.zObj_string (HM.out.there _ NN1.out) ?_); (case qqg298 => rfl); (case qqo298 => rfl); (case qqd298 => rfl); (case qqh298 => simp [Act.eval, Act.put]); (case qqv298 => first | (simp; done) | (simp [Act.eval]; done) | (simp [Act.eval]; omega) | (simp only [Act.put]; simp; done) | (simp only [Act.put]; simp [Act.eval]; done) | (simp only [Act.put]; simp [Act.eval]; omega) | (simp [Act.eval, Bool.eq_iff_iff]; omega)); intro wy ey; replace HM := uhide (HP1.out _ wy _ HM.out rfl ey); clear ey)
        | ((with_reducible refine wpList_store_v ?qqg299 3 ?qqx299 ?qqy299 ?qqo299 ?qqd299 g (q * 17 + 2) ?qqh299 (.int .i64 (((kq + 1) + 1) : Nat)) ?qqv299 one_int Tryz.zObj_int (HM.out.there _ NN2.out) ?_); (case qqg299 => rfl); (case qqo299 => rfl); (case qqd299 => rfl); (case qqh299 => simp [Act.eval, Act.put]); (case qqv299 => first | (simp; done) | (simp [Act.eval]; done) | (simp [Act.eval]; omega) | (simp only [Act.put]; simp; done) | (simp only [Act.put]; simp [Act.eval]; done) | (simp only [Act.put]; simp [Act.eval]; omega) | (simp [Act.eval, Bool.eq_iff_iff]; omega)); intro wy ey; replace HM := uhide (HP2.out _ wy _ HM.out rfl ey); clear ey)
        | ((with_reducible refine wpList_store_v ?qqg300 3 ?qqx300 ?qqy300 ?qqo300 ?qqd300 g (q * 17 + 3) ?qqh300 (.int .i64 ((((kq + 1) + 1) + 1) : Nat)) ?qqv300 one_int Tryz.zObj_int (HM.out.there _ NN3.out) ?_); (case qqg300 => rfl); (case qqo300 => rfl); (case qqd300 => rfl); (case qqh300 => simp [Act.eval, Act.put]); (case qqv300 => first | (simp; done) | (simp [Act.eval]; done) | (simp [Act.eval]; omega) | (simp only [Act.put]; simp; done) | (simp only [Act.put]; simp [Act.eval]; done) | (simp only [Act.put]; simp [Act.eval]; omega) | (simp [Act.eval, Bool.eq_iff_iff]; omega)); intro wy ey; replace HM := uhide (HP3.out _ wy _ HM.out rfl ey); clear ey)
        | ((with_reducible refine wpList_store_v ?qqg301 3 ?qqx301 ?qqy301 ?qqo301 ?qqd301 g (q * 17 + 4) ?qqh301 (.int .i64 (((((kq + 1) + 1) + 1) + 1) : Nat)) ?qqv301 one_int Tryz.zObj_int (HM.out.there _ NN4.out) ?_); (case qqg301 => rfl); (case qqo301 => rfl); (case qqd301 => rfl); (case qqh301 => simp [Act.eval, Act.put]); (case qqv301 => first | (simp; done) | (simp [Act.eval]; done) | (simp [Act.eval]; omega) | (simp only [Act.put]; simp; done) | (simp only [Act.put]; simp [Act.eval]; done) | (simp only [Act.put]; simp [Act.eval]; omega) | (simp [Act.eval, Bool.eq_iff_iff]; omega)); intro wy ey; replace HM := uhide (HP4.out _ wy _ HM.out rfl ey); clear ey)
        | ((with_reducible refine wpList_store_v ?qqg302 4 ?qqx302 ?qqy302 ?qqo302 ?qqd302 g (q * 17 + 5) ?qqh302 (.bool ((((((kq + 1) + 1) + 1) + 1) + 1) % 3 == 0)) ?qqv302 one_bool Tryz.zObj_bool (HM.out.there _ NN5.out) ?_); (case qqg302 => rfl); (case qqo302 => rfl); (case qqd302 => rfl); (case qqh302 => simp [Act.eval, Act.put]); (case qqv302 => first | exact congrArg Value.bool EB5.out | rfl); intro wy ey; replace HM := uhide (HP5.out _ wy _ HM.out rfl ey); clear ey)
        | ((with_reducible refine wpList_load_one ?qqg303 23 ?qqx303 ?qqo303 g (q * 17 + 6) ?qqh303 (.slice a6 n6 p6) Tryz.rObj_Lstring (HQ6.out _ HM.out) ?_); (case qqg303 => rfl); (case qqo303 => rfl); (case qqh303 => simp [Act.eval, Act.put]))
        )
      refine (HC6.out _ _ HM.out (by omega)).mono ?_
      rintro e1 w2 ⟨rfl, HM2⟩
      replace HM := HM2
      go_wp2_with (first
        | ((with_reducible refine wpList_store_v ?qqg309 3 ?qqx309 ?qqy309 ?qqo309 ?qqd309 g (q * 17 + 7) ?qqh309 (.int .i64 ((((((((kq + 1) + 1) + 1) + 1) + 1) + 1) + m6) : Nat)) ?qqv309 one_int Tryz.zObj_int (HM.out.there _ NN7.out) ?_); (case qqg309 => rfl); (case qqo309 => rfl); (case qqd309 => rfl); (case qqh309 => simp [Act.eval, Act.put]); (case qqv309 => first | (simp; done) | (simp [Act.eval]; done) | (simp [Act.eval]; omega) | (simp only [Act.put]; simp; done) | (simp only [Act.put]; simp [Act.eval]; done) | (simp only [Act.put]; simp [Act.eval]; omega) | (simp [Act.eval, Bool.eq_iff_iff]; omega)); intro wy ey; replace HM := uhide (HP7.out _ wy _ HM.out rfl ey); clear ey)
        )
      refine (HT8.out _ _ (by omega)).mono ?_
      rintro e1 w3 ⟨rfl, hb3⟩
      replace HM := uhide (HM.out.below hb3)
      clear hb3
      go_wp2_with (first
        | ((with_reducible refine wpList_store_v ?qqg316 9 ?qqx316 ?qqy316 ?qqo316 ?qqd316 g (q * 17 + 8) ?qqh316 (.string M8) ?qqv316 one_string Tryz.zObj_string (HM.out.there _ NN8.out) ?_); (case qqg316 => rfl); (case qqo316 => rfl); (case qqd316 => rfl); (case qqh316 => simp [Act.eval, Act.put]); (case qqv316 => first | (simp; done) | (simp [Act.eval]; done) | (simp [Act.eval]; omega) | (simp only [Act.put]; simp; done) | (simp only [Act.put]; simp [Act.eval]; done) | (simp only [Act.put]; simp [Act.eval]; omega) | (simp [Act.eval, Bool.eq_iff_iff]; omega)); intro wy ey; replace HM := uhide (HP8.out _ wy _ HM.out rfl ey); clear ey)
        | ((with_reducible refine wpList_store_v ?qqg317 3 ?qqx317 ?qqy317 ?qqo317 ?qqd317 g (q * 17 + 9) ?qqh317 (.int .i64 ((((((((((kq + 1) + 1) + 1) + 1) + 1) + 1) + m6) + 1) + 1) : Nat)) ?qqv317 one_int Tryz.zObj_int (HM.out.there _ NN9.out) ?_); (case qqg317 => rfl); (case qqo317 => rfl); (case qqd317 => rfl); (case qqh317 => simp [Act.eval, Act.put]); (case qqv317 => first | (simp; done) | (simp [Act.eval]; done) | (simp [Act.eval]; omega) | (simp only [Act.put]; simp; done) | (simp only [Act.put]; simp [Act.eval]; done) | (simp only [Act.put]; simp [Act.eval]; omega) | (simp [Act.eval, Bool.eq_iff_iff]; omega)); intro wy ey; replace HM := uhide (HP9.out _ wy _ HM.out rfl ey); clear ey)
        | ((with_reducible refine wpList_load_one ?qqg318 23 ?qqx318 ?qqo318 g (q * 17 + 10) ?qqh318 (.slice a10 n10 p10) Tryz.rObj_Lstring (HQ10.out _ HM.out) ?_); (case qqg318 => rfl); (case qqo318 => rfl); (case qqh318 => simp [Act.eval, Act.put]))
        )
      refine (HC10.out _ _ HM.out (by omega)).mono ?_
      rintro e1 w4 ⟨rfl, HM2⟩
      replace HM := HM2
      go_wp2_with (first
        | ((with_reducible refine wpList_load_one ?qqg324 88 ?qqx324 ?qqo324 g (q * 17 + 11) ?qqh324 (.slice a11 n11 p11) Tryz.rObj_Limpl_Value (HQ11.out _ HM.out) ?_); (case qqg324 => rfl); (case qqo324 => rfl); (case qqh324 => simp [Act.eval, Act.put]))
        )
      refine (HC11.out _ _ HM.out (by omega)).mono ?_
      rintro e1 w5 ⟨rfl, HM2⟩
      replace HM := HM2
      go_wp2_with (first
        | ((with_reducible refine wpList_store_v ?qqg330 3 ?qqx330 ?qqy330 ?qqo330 ?qqd330 g (q * 17 + 12) ?qqh330 (.int .i64 (((((((((((((kq + 1) + 1) + 1) + 1) + 1) + 1) + m6) + 1) + 1) + 1) + m10) + m11) : Nat)) ?qqv330 one_int Tryz.zObj_int (HM.out.there _ NN12.out) ?_); (case qqg330 => rfl); (case qqo330 => rfl); (case qqd330 => rfl); (case qqh330 => simp [Act.eval, Act.put]); (case qqv330 => first | (simp; done) | (simp [Act.eval]; done) | (simp [Act.eval]; omega) | (simp only [Act.put]; simp; done) | (simp only [Act.put]; simp [Act.eval]; done) | (simp only [Act.put]; simp [Act.eval]; omega) | (simp [Act.eval, Bool.eq_iff_iff]; omega)); intro wy ey; replace HM := uhide (HP12.out _ wy _ HM.out rfl ey); clear ey)
        )
      refine (HT13.out _ _ (by omega)).mono ?_
      rintro e1 w6 ⟨rfl, hb6⟩
      replace HM := uhide (HM.out.below hb6)
      clear hb6
      go_wp2_with (first
        | ((with_reducible refine wpList_store_v ?qqg337 9 ?qqx337 ?qqy337 ?qqo337 ?qqd337 g (q * 17 + 13) ?qqh337 (.string M13) ?qqv337 one_string Tryz.zObj_string (HM.out.there _ NN13.out) ?_); (case qqg337 => rfl); (case qqo337 => rfl); (case qqd337 => rfl); (case qqh337 => simp [Act.eval, Act.put]); (case qqv337 => first | (simp; done) | (simp [Act.eval]; done) | (simp [Act.eval]; omega) | (simp only [Act.put]; simp; done) | (simp only [Act.put]; simp [Act.eval]; done) | (simp only [Act.put]; simp [Act.eval]; omega) | (simp [Act.eval, Bool.eq_iff_iff]; omega)); intro wy ey; replace HM := uhide (HP13.out _ wy _ HM.out rfl ey); clear ey)
        | ((with_reducible refine wpList_store_v ?qqg338 3 ?qqx338 ?qqy338 ?qqo338 ?qqd338 g (q * 17 + 14) ?qqh338 (.int .i64 (((((((((((((((kq + 1) + 1) + 1) + 1) + 1) + 1) + m6) + 1) + 1) + 1) + m10) + m11) + 1) + 1) : Nat)) ?qqv338 one_int Tryz.zObj_int (HM.out.there _ NN14.out) ?_); (case qqg338 => rfl); (case qqo338 => rfl); (case qqd338 => rfl); (case qqh338 => simp [Act.eval, Act.put]); (case qqv338 => first | (simp; done) | (simp [Act.eval]; done) | (simp [Act.eval]; omega) | (simp only [Act.put]; simp; done) | (simp only [Act.put]; simp [Act.eval]; done) | (simp only [Act.put]; simp [Act.eval]; omega) | (simp [Act.eval, Bool.eq_iff_iff]; omega)); intro wy ey; replace HM := uhide (HP14.out _ wy _ HM.out rfl ey); clear ey)
        | ((with_reducible refine wpList_load_one ?qqg339 23 ?qqx339 ?qqo339 g (q * 17 + 15) ?qqh339 (.slice a15 n15 p15) Tryz.rObj_Lstring (HQ15.out _ HM.out) ?_); (case qqg339 => rfl); (case qqo339 => rfl); (case qqh339 => simp [Act.eval, Act.put]))
        )
      refine (HC15.out _ _ HM.out (by omega)).mono ?_
      rintro e1 w7 ⟨rfl, HM2⟩
      replace HM := HM2
      go_wp2_with (first
        | ((with_reducible refine wpList_load_one ?qqg345 88 ?qqx345 ?qqo345 g (q * 17 + 16) ?qqh345 (.slice a16 n16 p16) Tryz.rObj_Limpl_Value (HQ16.out _ HM.out) ?_); (case qqg345 => rfl); (case qqo345 => rfl); (case qqh345 => simp [Act.eval, Act.put]))
        )
      refine (HC16.out _ _ HM.out (by omega)).mono ?_
      rintro e1 w8 ⟨rfl, HM2⟩
      replace HM := HM2
      go_wp2
      go_roundw
      case rel => exact ⟨q + 1, by omega, by go_num, by rw [HE.out]; go_num, HN.out _ HM.out⟩
      case measure => (simp [intOf]; omega)
    · have e : q = n := by omega
      subst e
      obtain ⟨h1, h2⟩ := HM.out.done (by decide)
      have HD := uhide (And.intro h1 h2)
      have hl : cs.takeN (q * 17) = cs := by apply UD.ext; unfold UD.takeN; rw [UD.toL_ofL]; exact List.take_of_length_le (Nat.le_of_eq Ht.out.2.2.2.1)
      rw [hl]
      clear h1 h2 hl HM Ht Hp0 Hl0 Hkk
      go_wp2
      go_ret
      exact ⟨rfl, HD.out⟩
end Go.Proofs.YtdnodaoeflbfkaaGreat
/- Data as cells: the helpers of the laws over Change. -/
namespace Go.Proofs.YtdnodaoeflbfkaaGreat
open Go.RowKit Go.BigFrame
set_option linter.unusedVariables false
set_option linter.unusedSimpArgs false

set_option maxRecDepth 100000 in
set_option maxHeartbeats 4000000 in
theorem umarkChangeS_any (n k0 : Nat) (cs : UD) (c : Value) (S : List Nat) (w : World) (ht : tyS 19 n cs 9) (hnd : S.Nodup) (hk0 : 1 ≤ k0) (hk1 : k0 + cnt cs ≤ 100000000) (hx : oS w 19 n cs c S) :
    Calls Tryz.prog 45 #[c, .int .i64 k0] w fun e w' => e = .returned (.int .i64 (k0 + cnt cs : Nat)) ∧ oS w' 19 n (mk cs k0) c S ∧ OutS S w w' := by
  obtain ⟨a, cap, rfl⟩ := hx.slice
  have hmx := ht.2.2.1
  unfold maxLen at hmx
  rcases Nat.eq_zero_or_pos n with h0 | hpos
  · subst h0
    obtain ⟨e1, e2⟩ := hx.empty rfl k0
    rw [e1, e2]
    have Hx := uhide hx
    clear hx ht hnd e1 e2
    go_enter Tryz.func45, Tryz.ntmps45
    go_wp2
    go_loopw [1, 5] (fun s i wr => i = .int .i64 0 ∧ s = .int .i64 k0 ∧ wr = w) (fun _ _ _ => 0)
    case atStart => exact ⟨rfl, rfl, rfl⟩
    case round =>
      obtain ⟨rfl, rfl, rfl⟩ := hrel
      go_wp2
      go_ret
      exact ⟨rfl, Hx.out, OutS.refl _ _⟩
  obtain ⟨e, g, S1, xs0, M0, rfl, hp0, hl0⟩ := MS.start hx hnd hpos k0
  obtain ⟨cap, h1, hgl⟩ := M0.own
  cases h1
  have M0 := uhide M0
  have Ht := uhide ht
  have Hp0 := uhide hp0
  have Hl0 := uhide hl0
  have Hkk : Hid (∀ q, k0 + cnt (cs.takeN (q * 19)) ≤ 100000000) := fun q => by have := cnt_le cs (q * 19); omega
  clear hx ht hnd hp0 hl0
  go_enter Tryz.func45, Tryz.ntmps45
  go_wp2
  go_loopw [1, 5] (fun s i wr => ∃ (q : Nat), q ≤ n ∧ i = .int .i64 q ∧ s = .int .i64 (k0 + cnt (cs.takeN (q * 19)) : Nat) ∧ Hid (MS w wr e 19 n (.slice (some ⟨g, 0, none⟩) n cap) g cs k0 S1 xs0 (q * 19))) (fun _ i _ => n - (intOf i).toNat)
  case atStart => exact ⟨0, Nat.zero_le _, rfl, by rw [Nat.zero_mul]; rfl, by rw [Nat.zero_mul]; exact M0⟩
  case round =>
    clear M0
    obtain ⟨q, hq, rfl, rfl, HM⟩ := hrel
    by_cases hlt : q < n
    · have htr := Ht.out.row hlt
      have hKn : q * 19 + 19 ≤ n * 19 := by have := Nat.mul_le_mul_right 19 (show q + 1 ≤ n by omega); rw [Nat.succ_mul] at this; exact this
      obtain ⟨z0, z1, z2, z3, z4, z5, z6, z7, n8, c8, z9, z10, z11, n12, c12, n13, c13, z14, z15, z16, n17, c17, n18, c18, hR, g0, g2, g3, g4, g5, g6, g8, g9, g10, g11, g12, g13, g14, g15, g16, g17, g18⟩ := partsChange htr
      obtain ⟨kq, hkq⟩ : ∃ kq, k0 + cnt (cs.takeN (q * 19)) = kq := ⟨_, rfl⟩
      have hK0 : 1 ≤ kq := by omega
      have at0 : cs.at? (q * 19) = some (.p (.int .i64 z0)) := at_row (j := 0) hR (by decide) rfl
      have ct0 : Hid (k0 + cnt (cs.takeN (q * 19)) = kq) := hkq
      have at1 : cs.at? (q * 19 + 1) = some (.p (.bool z1)) := at_row (j := 1) hR (by decide) rfl
      have ct1 : Hid (k0 + cnt (cs.takeN (q * 19 + 1)) = (kq + 1)) := ct_next ct0.out at0
      have at2 : cs.at? (q * 19 + 2) = some (.p (.int .i64 z2)) := at_row (j := 2) hR (by decide) rfl
      have ct2 : Hid (k0 + cnt (cs.takeN (q * 19 + 2)) = ((kq + 1) + 1)) := ct_next ct1.out at1
      have at3 : cs.at? (q * 19 + 3) = some (.p (.string z3)) := at_row (j := 3) hR (by decide) rfl
      have ct3 : Hid (k0 + cnt (cs.takeN (q * 19 + 3)) = (((kq + 1) + 1) + 1)) := ct_next ct2.out at2
      have at4 : cs.at? (q * 19 + 4) = some (.p (.int .i64 z4)) := at_row (j := 4) hR (by decide) rfl
      have ct4 : Hid (k0 + cnt (cs.takeN (q * 19 + 4)) = ((((kq + 1) + 1) + 1) + 1)) := ct_next ct3.out at3
      have at5 : cs.at? (q * 19 + 5) = some (.p (.int .i64 z5)) := at_row (j := 5) hR (by decide) rfl
      have ct5 : Hid (k0 + cnt (cs.takeN (q * 19 + 5)) = (((((kq + 1) + 1) + 1) + 1) + 1)) := ct_next ct4.out at4
      have at6 : cs.at? (q * 19 + 6) = some (.p (.int .i64 z6)) := at_row (j := 6) hR (by decide) rfl
      have ct6 : Hid (k0 + cnt (cs.takeN (q * 19 + 6)) = ((((((kq + 1) + 1) + 1) + 1) + 1) + 1)) := ct_next ct5.out at5
      have at7 : cs.at? (q * 19 + 7) = some (.p (.bool z7)) := at_row (j := 7) hR (by decide) rfl
      have ct7 : Hid (k0 + cnt (cs.takeN (q * 19 + 7)) = (((((((kq + 1) + 1) + 1) + 1) + 1) + 1) + 1)) := ct_next ct6.out at6
      have at8 : cs.at? (q * 19 + 8) = some (.l 1 n8 c8) := at_row (j := 8) hR (by decide) rfl
      have ct8 : Hid (k0 + cnt (cs.takeN (q * 19 + 8)) = ((((((((kq + 1) + 1) + 1) + 1) + 1) + 1) + 1) + 1)) := ct_next ct7.out at7
      obtain ⟨a8, p8, x8⟩ := Hl0.out _ _ _ _ at8
      have at9 : cs.at? (q * 19 + 9) = some (.p (.int .i64 z9)) := at_row (j := 9) hR (by decide) rfl
      have ct9 : Hid (k0 + cnt (cs.takeN (q * 19 + 9)) = (((((((((kq + 1) + 1) + 1) + 1) + 1) + 1) + 1) + 1) + cnt c8)) := ct_next ct8.out at8
      have at10 : cs.at? (q * 19 + 10) = some (.p (.string z10)) := at_row (j := 10) hR (by decide) rfl
      have ct10 : Hid (k0 + cnt (cs.takeN (q * 19 + 10)) = ((((((((((kq + 1) + 1) + 1) + 1) + 1) + 1) + 1) + 1) + cnt c8) + 1)) := ct_next ct9.out at9
      have at11 : cs.at? (q * 19 + 11) = some (.p (.int .i64 z11)) := at_row (j := 11) hR (by decide) rfl
      have ct11 : Hid (k0 + cnt (cs.takeN (q * 19 + 11)) = (((((((((((kq + 1) + 1) + 1) + 1) + 1) + 1) + 1) + 1) + cnt c8) + 1) + 1)) := ct_next ct10.out at10
      have at12 : cs.at? (q * 19 + 12) = some (.l 1 n12 c12) := at_row (j := 12) hR (by decide) rfl
      have ct12 : Hid (k0 + cnt (cs.takeN (q * 19 + 12)) = ((((((((((((kq + 1) + 1) + 1) + 1) + 1) + 1) + 1) + 1) + cnt c8) + 1) + 1) + 1)) := ct_next ct11.out at11
      obtain ⟨a12, p12, x12⟩ := Hl0.out _ _ _ _ at12
      have at13 : cs.at? (q * 19 + 13) = some (.l 5 n13 c13) := at_row (j := 13) hR (by decide) rfl
      have ct13 : Hid (k0 + cnt (cs.takeN (q * 19 + 13)) = (((((((((((((kq + 1) + 1) + 1) + 1) + 1) + 1) + 1) + 1) + cnt c8) + 1) + 1) + 1) + cnt c12)) := ct_next ct12.out at12
      obtain ⟨a13, p13, x13⟩ := Hl0.out _ _ _ _ at13
      have at14 : cs.at? (q * 19 + 14) = some (.p (.int .i64 z14)) := at_row (j := 14) hR (by decide) rfl
      have ct14 : Hid (k0 + cnt (cs.takeN (q * 19 + 14)) = ((((((((((((((kq + 1) + 1) + 1) + 1) + 1) + 1) + 1) + 1) + cnt c8) + 1) + 1) + 1) + cnt c12) + cnt c13)) := ct_next ct13.out at13
      have at15 : cs.at? (q * 19 + 15) = some (.p (.string z15)) := at_row (j := 15) hR (by decide) rfl
      have ct15 : Hid (k0 + cnt (cs.takeN (q * 19 + 15)) = (((((((((((((((kq + 1) + 1) + 1) + 1) + 1) + 1) + 1) + 1) + cnt c8) + 1) + 1) + 1) + cnt c12) + cnt c13) + 1)) := ct_next ct14.out at14
      have at16 : cs.at? (q * 19 + 16) = some (.p (.int .i64 z16)) := at_row (j := 16) hR (by decide) rfl
      have ct16 : Hid (k0 + cnt (cs.takeN (q * 19 + 16)) = ((((((((((((((((kq + 1) + 1) + 1) + 1) + 1) + 1) + 1) + 1) + cnt c8) + 1) + 1) + 1) + cnt c12) + cnt c13) + 1) + 1)) := ct_next ct15.out at15
      have at17 : cs.at? (q * 19 + 17) = some (.l 1 n17 c17) := at_row (j := 17) hR (by decide) rfl
      have ct17 : Hid (k0 + cnt (cs.takeN (q * 19 + 17)) = (((((((((((((((((kq + 1) + 1) + 1) + 1) + 1) + 1) + 1) + 1) + cnt c8) + 1) + 1) + 1) + cnt c12) + cnt c13) + 1) + 1) + 1)) := ct_next ct16.out at16
      obtain ⟨a17, p17, x17⟩ := Hl0.out _ _ _ _ at17
      have at18 : cs.at? (q * 19 + 18) = some (.l 5 n18 c18) := at_row (j := 18) hR (by decide) rfl
      have ct18 : Hid (k0 + cnt (cs.takeN (q * 19 + 18)) = ((((((((((((((((((kq + 1) + 1) + 1) + 1) + 1) + 1) + 1) + 1) + cnt c8) + 1) + 1) + 1) + cnt c12) + cnt c13) + 1) + 1) + 1) + cnt c17)) := ct_next ct17.out at17
      obtain ⟨a18, p18, x18⟩ := Hl0.out _ _ _ _ at18
      have hend : Hid (k0 + cnt (cs.takeN ((q + 1) * 19)) = (((((((((((((((((((kq + 1) + 1) + 1) + 1) + 1) + 1) + 1) + 1) + cnt c8) + 1) + 1) + 1) + cnt c12) + cnt c13) + 1) + 1) + 1) + cnt c17) + cnt c18)) := ct_end (ct_next ct18.out at18)
      have hkb : (((((((((((((((((((kq + 1) + 1) + 1) + 1) + 1) + 1) + 1) + 1) + cnt c8) + 1) + 1) + 1) + cnt c12) + cnt c13) + 1) + 1) + 1) + cnt c17) + cnt c18) ≤ 100000000 := by have h := Hkk.out (q + 1); rw [hend.out] at h; exact h
      have hk1q : Hid (k0 + cnt (cs.takeN (q * 19)) = kq) := hkq
      clear hkq
      have KB0 : kq ≤ 1000000000 := by omega
      have HP0 : Hid (∀ (wx wy : World) (u : Value), MS w wx e 19 n (.slice (some ⟨g, 0, none⟩) n cap) g cs k0 S1 xs0 (q * 19) → u = .int .i64 (kq : Nat) → wy = wx.setCells g (q * 19) [u] → MS w wy e 19 n (.slice (some ⟨g, 0, none⟩) n cap) g cs k0 S1 xs0 (q * 19 + 1)) := fun wx wy u h hu e => h.cellS at0 ct0.out (hu.trans (mkP_int _ _ KB0).symm) e rfl
      have HP1 : Hid (∀ (wx wy : World) (u : Value), MS w wx e 19 n (.slice (some ⟨g, 0, none⟩) n cap) g cs k0 S1 xs0 (q * 19 + 1) → u = .bool ((kq + 1) % 3 == 0) → wy = wx.setCells g (q * 19 + 1) [u] → MS w wy e 19 n (.slice (some ⟨g, 0, none⟩) n cap) g cs k0 S1 xs0 (q * 19 + 2)) := fun wx wy u h hu e => h.cellS at1 ct1.out (hu.trans rfl) e rfl
      have KB2 : ((kq + 1) + 1) ≤ 1000000000 := by omega
      have HP2 : Hid (∀ (wx wy : World) (u : Value), MS w wx e 19 n (.slice (some ⟨g, 0, none⟩) n cap) g cs k0 S1 xs0 (q * 19 + 2) → u = .int .i64 (((kq + 1) + 1) : Nat) → wy = wx.setCells g (q * 19 + 2) [u] → MS w wy e 19 n (.slice (some ⟨g, 0, none⟩) n cap) g cs k0 S1 xs0 (q * 19 + 3)) := fun wx wy u h hu e => h.cellS at2 ct2.out (hu.trans (mkP_int _ _ KB2).symm) e rfl
      have HP3 : Hid (∀ (wx wy : World) (u : Value), MS w wx e 19 n (.slice (some ⟨g, 0, none⟩) n cap) g cs k0 S1 xs0 (q * 19 + 3) → u = .string (umtx (((kq + 1) + 1) + 1)) → wy = wx.setCells g (q * 19 + 3) [u] → MS w wy e 19 n (.slice (some ⟨g, 0, none⟩) n cap) g cs k0 S1 xs0 (q * 19 + 4)) := fun wx wy u h hu e => h.cellS at3 ct3.out (hu.trans rfl) e rfl
      have HT3 : Hid (∀ (wx : World) (x : Int), x = (((((kq + 1) + 1) + 1) : Nat) : Int) → Calls Tryz.prog 84 #[.int .i64 x] wx fun e1 w' => e1 = .returned (.string (umtx (((kq + 1) + 1) + 1))) ∧ Below wx.heap.size wx w') := fun wx x hx => by rw [hx]; exact umarkText_any _ wx (by omega) (by omega)
      have KB4 : ((((kq + 1) + 1) + 1) + 1) ≤ 1000000000 := by omega
      have HP4 : Hid (∀ (wx wy : World) (u : Value), MS w wx e 19 n (.slice (some ⟨g, 0, none⟩) n cap) g cs k0 S1 xs0 (q * 19 + 4) → u = .int .i64 (((((kq + 1) + 1) + 1) + 1) : Nat) → wy = wx.setCells g (q * 19 + 4) [u] → MS w wy e 19 n (.slice (some ⟨g, 0, none⟩) n cap) g cs k0 S1 xs0 (q * 19 + 5)) := fun wx wy u h hu e => h.cellS at4 ct4.out (hu.trans (mkP_int _ _ KB4).symm) e rfl
      have KB5 : (((((kq + 1) + 1) + 1) + 1) + 1) ≤ 1000000000 := by omega
      have HP5 : Hid (∀ (wx wy : World) (u : Value), MS w wx e 19 n (.slice (some ⟨g, 0, none⟩) n cap) g cs k0 S1 xs0 (q * 19 + 5) → u = .int .i64 ((((((kq + 1) + 1) + 1) + 1) + 1) : Nat) → wy = wx.setCells g (q * 19 + 5) [u] → MS w wy e 19 n (.slice (some ⟨g, 0, none⟩) n cap) g cs k0 S1 xs0 (q * 19 + 6)) := fun wx wy u h hu e => h.cellS at5 ct5.out (hu.trans (mkP_int _ _ KB5).symm) e rfl
      have KB6 : ((((((kq + 1) + 1) + 1) + 1) + 1) + 1) ≤ 1000000000 := by omega
      have HP6 : Hid (∀ (wx wy : World) (u : Value), MS w wx e 19 n (.slice (some ⟨g, 0, none⟩) n cap) g cs k0 S1 xs0 (q * 19 + 6) → u = .int .i64 (((((((kq + 1) + 1) + 1) + 1) + 1) + 1) : Nat) → wy = wx.setCells g (q * 19 + 6) [u] → MS w wy e 19 n (.slice (some ⟨g, 0, none⟩) n cap) g cs k0 S1 xs0 (q * 19 + 7)) := fun wx wy u h hu e => h.cellS at6 ct6.out (hu.trans (mkP_int _ _ KB6).symm) e rfl
      have HP7 : Hid (∀ (wx wy : World) (u : Value), MS w wx e 19 n (.slice (some ⟨g, 0, none⟩) n cap) g cs k0 S1 xs0 (q * 19 + 7) → u = .bool ((((((((kq + 1) + 1) + 1) + 1) + 1) + 1) + 1) % 3 == 0) → wy = wx.setCells g (q * 19 + 7) [u] → MS w wy e 19 n (.slice (some ⟨g, 0, none⟩) n cap) g cs k0 S1 xs0 (q * 19 + 8)) := fun wx wy u h hu e => h.cellS at7 ct7.out (hu.trans rfl) e rfl
      have HC8 : Hid (∀ (wx : World) (x : Int), MS w wx e 19 n (.slice (some ⟨g, 0, none⟩) n cap) g cs k0 S1 xs0 (q * 19 + 8) → x = ((((((((((kq + 1) + 1) + 1) + 1) + 1) + 1) + 1) + 1) : Nat) : Int) → Calls Tryz.prog 56 #[.slice a8 n8 p8, .int .i64 x] wx fun e1 w' => e1 = .returned (.int .i64 ((((((((((kq + 1) + 1) + 1) + 1) + 1) + 1) + 1) + 1) + cnt c8 : Nat))) ∧ Hid (MS w w' e 19 n (.slice (some ⟨g, 0, none⟩) n cap) g cs k0 S1 xs0 (q * 19 + 9))) := by
        intro wx x h hxx
        rw [hxx]
        obtain ⟨c', T, q1, q2, q3, q5⟩ := h.part at8
        rw [x8] at q1
        cases q1
        rw [ct8.out] at q5
        exact (umarkStringS_any n8 ((((((((kq + 1) + 1) + 1) + 1) + 1) + 1) + 1) + 1) c8 _ T wx g8 q3 (by omega) (by omega) q2).mono fun e1 w' h => ⟨h.1, q5 w' h.2.2 h.2.1⟩
      have KB9 : (((((((((kq + 1) + 1) + 1) + 1) + 1) + 1) + 1) + 1) + cnt c8) ≤ 1000000000 := by omega
      have HP9 : Hid (∀ (wx wy : World) (u : Value), MS w wx e 19 n (.slice (some ⟨g, 0, none⟩) n cap) g cs k0 S1 xs0 (q * 19 + 9) → u = .int .i64 ((((((((((kq + 1) + 1) + 1) + 1) + 1) + 1) + 1) + 1) + cnt c8) : Nat) → wy = wx.setCells g (q * 19 + 9) [u] → MS w wy e 19 n (.slice (some ⟨g, 0, none⟩) n cap) g cs k0 S1 xs0 (q * 19 + 10)) := fun wx wy u h hu e => h.cellS at9 ct9.out (hu.trans (mkP_int _ _ KB9).symm) e rfl
      have HP10 : Hid (∀ (wx wy : World) (u : Value), MS w wx e 19 n (.slice (some ⟨g, 0, none⟩) n cap) g cs k0 S1 xs0 (q * 19 + 10) → u = .string (umtx ((((((((((kq + 1) + 1) + 1) + 1) + 1) + 1) + 1) + 1) + cnt c8) + 1)) → wy = wx.setCells g (q * 19 + 10) [u] → MS w wy e 19 n (.slice (some ⟨g, 0, none⟩) n cap) g cs k0 S1 xs0 (q * 19 + 11)) := fun wx wy u h hu e => h.cellS at10 ct10.out (hu.trans rfl) e rfl
      have HT10 : Hid (∀ (wx : World) (x : Int), x = ((((((((((((kq + 1) + 1) + 1) + 1) + 1) + 1) + 1) + 1) + cnt c8) + 1) : Nat) : Int) → Calls Tryz.prog 84 #[.int .i64 x] wx fun e1 w' => e1 = .returned (.string (umtx ((((((((((kq + 1) + 1) + 1) + 1) + 1) + 1) + 1) + 1) + cnt c8) + 1))) ∧ Below wx.heap.size wx w') := fun wx x hx => by rw [hx]; exact umarkText_any _ wx (by omega) (by omega)
      have KB11 : (((((((((((kq + 1) + 1) + 1) + 1) + 1) + 1) + 1) + 1) + cnt c8) + 1) + 1) ≤ 1000000000 := by omega
      have HP11 : Hid (∀ (wx wy : World) (u : Value), MS w wx e 19 n (.slice (some ⟨g, 0, none⟩) n cap) g cs k0 S1 xs0 (q * 19 + 11) → u = .int .i64 ((((((((((((kq + 1) + 1) + 1) + 1) + 1) + 1) + 1) + 1) + cnt c8) + 1) + 1) : Nat) → wy = wx.setCells g (q * 19 + 11) [u] → MS w wy e 19 n (.slice (some ⟨g, 0, none⟩) n cap) g cs k0 S1 xs0 (q * 19 + 12)) := fun wx wy u h hu e => h.cellS at11 ct11.out (hu.trans (mkP_int _ _ KB11).symm) e rfl
      have HC12 : Hid (∀ (wx : World) (x : Int), MS w wx e 19 n (.slice (some ⟨g, 0, none⟩) n cap) g cs k0 S1 xs0 (q * 19 + 12) → x = ((((((((((((((kq + 1) + 1) + 1) + 1) + 1) + 1) + 1) + 1) + cnt c8) + 1) + 1) + 1) : Nat) : Int) → Calls Tryz.prog 56 #[.slice a12 n12 p12, .int .i64 x] wx fun e1 w' => e1 = .returned (.int .i64 ((((((((((((((kq + 1) + 1) + 1) + 1) + 1) + 1) + 1) + 1) + cnt c8) + 1) + 1) + 1) + cnt c12 : Nat))) ∧ Hid (MS w w' e 19 n (.slice (some ⟨g, 0, none⟩) n cap) g cs k0 S1 xs0 (q * 19 + 13))) := by
        intro wx x h hxx
        rw [hxx]
        obtain ⟨c', T, q1, q2, q3, q5⟩ := h.part at12
        rw [x12] at q1
        cases q1
        rw [ct12.out] at q5
        exact (umarkStringS_any n12 ((((((((((((kq + 1) + 1) + 1) + 1) + 1) + 1) + 1) + 1) + cnt c8) + 1) + 1) + 1) c12 _ T wx g12 q3 (by omega) (by omega) q2).mono fun e1 w' h => ⟨h.1, q5 w' h.2.2 h.2.1⟩
      have HC13 : Hid (∀ (wx : World) (x : Int), MS w wx e 19 n (.slice (some ⟨g, 0, none⟩) n cap) g cs k0 S1 xs0 (q * 19 + 13) → x = (((((((((((((((kq + 1) + 1) + 1) + 1) + 1) + 1) + 1) + 1) + cnt c8) + 1) + 1) + 1) + cnt c12) : Nat) : Int) → Calls Tryz.prog 104 #[.slice a13 n13 p13, .int .i64 x] wx fun e1 w' => e1 = .returned (.int .i64 (((((((((((((((kq + 1) + 1) + 1) + 1) + 1) + 1) + 1) + 1) + cnt c8) + 1) + 1) + 1) + cnt c12) + cnt c13 : Nat))) ∧ Hid (MS w w' e 19 n (.slice (some ⟨g, 0, none⟩) n cap) g cs k0 S1 xs0 (q * 19 + 14))) := by
        intro wx x h hxx
        rw [hxx]
        obtain ⟨c', T, q1, q2, q3, q5⟩ := h.part at13
        rw [x13] at q1
        cases q1
        rw [ct13.out] at q5
        exact (umarkValueS_any n13 (((((((((((((kq + 1) + 1) + 1) + 1) + 1) + 1) + 1) + 1) + cnt c8) + 1) + 1) + 1) + cnt c12) c13 _ T wx g13 q3 (by omega) (by omega) q2).mono fun e1 w' h => ⟨h.1, q5 w' h.2.2 h.2.1⟩
      have KB14 : ((((((((((((((kq + 1) + 1) + 1) + 1) + 1) + 1) + 1) + 1) + cnt c8) + 1) + 1) + 1) + cnt c12) + cnt c13) ≤ 1000000000 := by omega
      have HP14 : Hid (∀ (wx wy : World) (u : Value), MS w wx e 19 n (.slice (some ⟨g, 0, none⟩) n cap) g cs k0 S1 xs0 (q * 19 + 14) → u = .int .i64 (((((((((((((((kq + 1) + 1) + 1) + 1) + 1) + 1) + 1) + 1) + cnt c8) + 1) + 1) + 1) + cnt c12) + cnt c13) : Nat) → wy = wx.setCells g (q * 19 + 14) [u] → MS w wy e 19 n (.slice (some ⟨g, 0, none⟩) n cap) g cs k0 S1 xs0 (q * 19 + 15)) := fun wx wy u h hu e => h.cellS at14 ct14.out (hu.trans (mkP_int _ _ KB14).symm) e rfl
      have HP15 : Hid (∀ (wx wy : World) (u : Value), MS w wx e 19 n (.slice (some ⟨g, 0, none⟩) n cap) g cs k0 S1 xs0 (q * 19 + 15) → u = .string (umtx (((((((((((((((kq + 1) + 1) + 1) + 1) + 1) + 1) + 1) + 1) + cnt c8) + 1) + 1) + 1) + cnt c12) + cnt c13) + 1)) → wy = wx.setCells g (q * 19 + 15) [u] → MS w wy e 19 n (.slice (some ⟨g, 0, none⟩) n cap) g cs k0 S1 xs0 (q * 19 + 16)) := fun wx wy u h hu e => h.cellS at15 ct15.out (hu.trans rfl) e rfl
      have HT15 : Hid (∀ (wx : World) (x : Int), x = (((((((((((((((((kq + 1) + 1) + 1) + 1) + 1) + 1) + 1) + 1) + cnt c8) + 1) + 1) + 1) + cnt c12) + cnt c13) + 1) : Nat) : Int) → Calls Tryz.prog 84 #[.int .i64 x] wx fun e1 w' => e1 = .returned (.string (umtx (((((((((((((((kq + 1) + 1) + 1) + 1) + 1) + 1) + 1) + 1) + cnt c8) + 1) + 1) + 1) + cnt c12) + cnt c13) + 1))) ∧ Below wx.heap.size wx w') := fun wx x hx => by rw [hx]; exact umarkText_any _ wx (by omega) (by omega)
      have KB16 : ((((((((((((((((kq + 1) + 1) + 1) + 1) + 1) + 1) + 1) + 1) + cnt c8) + 1) + 1) + 1) + cnt c12) + cnt c13) + 1) + 1) ≤ 1000000000 := by omega
      have HP16 : Hid (∀ (wx wy : World) (u : Value), MS w wx e 19 n (.slice (some ⟨g, 0, none⟩) n cap) g cs k0 S1 xs0 (q * 19 + 16) → u = .int .i64 (((((((((((((((((kq + 1) + 1) + 1) + 1) + 1) + 1) + 1) + 1) + cnt c8) + 1) + 1) + 1) + cnt c12) + cnt c13) + 1) + 1) : Nat) → wy = wx.setCells g (q * 19 + 16) [u] → MS w wy e 19 n (.slice (some ⟨g, 0, none⟩) n cap) g cs k0 S1 xs0 (q * 19 + 17)) := fun wx wy u h hu e => h.cellS at16 ct16.out (hu.trans (mkP_int _ _ KB16).symm) e rfl
      have HC17 : Hid (∀ (wx : World) (x : Int), MS w wx e 19 n (.slice (some ⟨g, 0, none⟩) n cap) g cs k0 S1 xs0 (q * 19 + 17) → x = (((((((((((((((((((kq + 1) + 1) + 1) + 1) + 1) + 1) + 1) + 1) + cnt c8) + 1) + 1) + 1) + cnt c12) + cnt c13) + 1) + 1) + 1) : Nat) : Int) → Calls Tryz.prog 56 #[.slice a17 n17 p17, .int .i64 x] wx fun e1 w' => e1 = .returned (.int .i64 (((((((((((((((((((kq + 1) + 1) + 1) + 1) + 1) + 1) + 1) + 1) + cnt c8) + 1) + 1) + 1) + cnt c12) + cnt c13) + 1) + 1) + 1) + cnt c17 : Nat))) ∧ Hid (MS w w' e 19 n (.slice (some ⟨g, 0, none⟩) n cap) g cs k0 S1 xs0 (q * 19 + 18))) := by
        intro wx x h hxx
        rw [hxx]
        obtain ⟨c', T, q1, q2, q3, q5⟩ := h.part at17
        rw [x17] at q1
        cases q1
        rw [ct17.out] at q5
        exact (umarkStringS_any n17 (((((((((((((((((kq + 1) + 1) + 1) + 1) + 1) + 1) + 1) + 1) + cnt c8) + 1) + 1) + 1) + cnt c12) + cnt c13) + 1) + 1) + 1) c17 _ T wx g17 q3 (by omega) (by omega) q2).mono fun e1 w' h => ⟨h.1, q5 w' h.2.2 h.2.1⟩
      have HC18 : Hid (∀ (wx : World) (x : Int), MS w wx e 19 n (.slice (some ⟨g, 0, none⟩) n cap) g cs k0 S1 xs0 (q * 19 + 18) → x = ((((((((((((((((((((kq + 1) + 1) + 1) + 1) + 1) + 1) + 1) + 1) + cnt c8) + 1) + 1) + 1) + cnt c12) + cnt c13) + 1) + 1) + 1) + cnt c17) : Nat) : Int) → Calls Tryz.prog 104 #[.slice a18 n18 p18, .int .i64 x] wx fun e1 w' => e1 = .returned (.int .i64 ((((((((((((((((((((kq + 1) + 1) + 1) + 1) + 1) + 1) + 1) + 1) + cnt c8) + 1) + 1) + 1) + cnt c12) + cnt c13) + 1) + 1) + 1) + cnt c17) + cnt c18 : Nat))) ∧ Hid (MS w w' e 19 n (.slice (some ⟨g, 0, none⟩) n cap) g cs k0 S1 xs0 (q * 19 + 19))) := by
        intro wx x h hxx
        rw [hxx]
        obtain ⟨c', T, q1, q2, q3, q5⟩ := h.part at18
        rw [x18] at q1
        cases q1
        rw [ct18.out] at q5
        exact (umarkValueS_any n18 ((((((((((((((((((kq + 1) + 1) + 1) + 1) + 1) + 1) + 1) + 1) + cnt c8) + 1) + 1) + 1) + cnt c12) + cnt c13) + 1) + 1) + 1) + cnt c17) c18 _ T wx g18 q3 (by omega) (by omega) q2).mono fun e1 w' h => ⟨h.1, q5 w' h.2.2 h.2.1⟩
      have NN0 : Hid (q * 19 < n * 19) := by show _ < _; omega
      have NN1 : Hid (q * 19 + 1 < n * 19) := by show _ < _; omega
      have NN2 : Hid (q * 19 + 2 < n * 19) := by show _ < _; omega
      have NN3 : Hid (q * 19 + 3 < n * 19) := by show _ < _; omega
      have NN4 : Hid (q * 19 + 4 < n * 19) := by show _ < _; omega
      have NN5 : Hid (q * 19 + 5 < n * 19) := by show _ < _; omega
      have NN6 : Hid (q * 19 + 6 < n * 19) := by show _ < _; omega
      have NN7 : Hid (q * 19 + 7 < n * 19) := by show _ < _; omega
      have HQ8 : Hid (∀ wx, MS w wx e 19 n (.slice (some ⟨g, 0, none⟩) n cap) g cs k0 S1 xs0 (q * 19 + 8) → wx.cell? ⟨g, q * 19 + 8, none⟩ = some (.slice a8 n8 p8)) := fun wx h => h.cellAt _ _ (by omega) x8 (by omega)
      have NN8 : Hid (q * 19 + 8 < n * 19) := by show _ < _; omega
      have NN9 : Hid (q * 19 + 9 < n * 19) := by show _ < _; omega
      have NN10 : Hid (q * 19 + 10 < n * 19) := by show _ < _; omega
      have NN11 : Hid (q * 19 + 11 < n * 19) := by show _ < _; omega
      have HQ12 : Hid (∀ wx, MS w wx e 19 n (.slice (some ⟨g, 0, none⟩) n cap) g cs k0 S1 xs0 (q * 19 + 12) → wx.cell? ⟨g, q * 19 + 12, none⟩ = some (.slice a12 n12 p12)) := fun wx h => h.cellAt _ _ (by omega) x12 (by omega)
      have NN12 : Hid (q * 19 + 12 < n * 19) := by show _ < _; omega
      have HQ13 : Hid (∀ wx, MS w wx e 19 n (.slice (some ⟨g, 0, none⟩) n cap) g cs k0 S1 xs0 (q * 19 + 13) → wx.cell? ⟨g, q * 19 + 13, none⟩ = some (.slice a13 n13 p13)) := fun wx h => h.cellAt _ _ (by omega) x13 (by omega)
      have NN13 : Hid (q * 19 + 13 < n * 19) := by show _ < _; omega
      have NN14 : Hid (q * 19 + 14 < n * 19) := by show _ < _; omega
      have NN15 : Hid (q * 19 + 15 < n * 19) := by show _ < _; omega
      have NN16 : Hid (q * 19 + 16 < n * 19) := by show _ < _; omega
      have HQ17 : Hid (∀ wx, MS w wx e 19 n (.slice (some ⟨g, 0, none⟩) n cap) g cs k0 S1 xs0 (q * 19 + 17) → wx.cell? ⟨g, q * 19 + 17, none⟩ = some (.slice a17 n17 p17)) := fun wx h => h.cellAt _ _ (by omega) x17 (by omega)
      have NN17 : Hid (q * 19 + 17 < n * 19) := by show _ < _; omega
      have HQ18 : Hid (∀ wx, MS w wx e 19 n (.slice (some ⟨g, 0, none⟩) n cap) g cs k0 S1 xs0 (q * 19 + 18) → wx.cell? ⟨g, q * 19 + 18, none⟩ = some (.slice a18 n18 p18)) := fun wx h => h.cellAt _ _ (by omega) x18 (by omega)
      have NN18 : Hid (q * 19 + 18 < n * 19) := by show _ < _; omega
      have HN : Hid (∀ wx, MS w wx e 19 n (.slice (some ⟨g, 0, none⟩) n cap) g cs k0 S1 xs0 (q * 19 + 19) → MS w wx e 19 n (.slice (some ⟨g, 0, none⟩) n cap) g cs k0 S1 xs0 ((q + 1) * 19)) := fun wx h => by rw [show q * 19 + 19 = (q + 1) * 19 by omega] at h; exact h
      have HE := hend
      rw [hk1q.out]
      clear hR htr hend hk1q Ht Hkk Hp0 Hl0 g0 g2 g3 g4 g5 g6 g8 g9 g10 g11 g12 g13 g14 g15 g16 g17 g18 at0 at1 at2 at3 at4 at5 at6 at7 at8 at9 at10 at11 at12 at13 at14 at15 at16 at17 at18 ct0 ct1 ct2 ct3 ct4 ct5 ct6 ct7 ct8 ct9 ct10 ct11 ct12 ct13 ct14 ct15 ct16 ct17 ct18 x8 x12 x13 x17 x18
      generalize umtx (((kq + 1) + 1) + 1) = M3 at *
      generalize cnt c8 = m8 at *
      generalize umtx ((((((((((kq + 1) + 1) + 1) + 1) + 1) + 1) + 1) + 1) + m8) + 1) = M10 at *
      generalize cnt c12 = m12 at *
      generalize cnt c13 = m13 at *
      generalize umtx (((((((((((((((kq + 1) + 1) + 1) + 1) + 1) + 1) + 1) + 1) + m8) + 1) + 1) + 1) + m12) + m13) + 1) = M15 at *
      generalize cnt c17 = m17 at *
      generalize cnt c18 = m18 at *
      have EB1 : ((((kq + 1) : Nat) : Int) % 3 == 0) = ((kq + 1) % 3 == 0) := by rw [Bool.eq_iff_iff, beq_iff_eq, beq_iff_eq]; omega
      push_cast at EB1
      replace EB1 := uhide EB1
      have EB7 : ((((((((((kq + 1) + 1) + 1) + 1) + 1) + 1) + 1) : Nat) : Int) % 3 == 0) = ((((((((kq + 1) + 1) + 1) + 1) + 1) + 1) + 1) % 3 == 0) := by rw [Bool.eq_iff_iff, beq_iff_eq, beq_iff_eq]; omega
      push_cast at EB7
      replace EB7 := uhide EB7
      go_wp2_with (first
        | ((with_reducible refine wpList_store_v ?qqg259 3 ?qqx259 ?qqy259 ?qqo259 ?qqd259 g (q * 19) ?qqh259 (.int .i64 (kq : Nat)) ?qqv259 one_int Tryz.zChange_int (HM.out.there _ NN0.out) ?_); (case qqg259 => rfl); (case qqo259 => rfl); (case qqd259 => rfl); (case qqh259 => simp [Act.eval, Act.put]); (case qqv259 => first | (simp; done) | (simp [Act.eval]; done) | (simp [Act.eval]; omega) | (simp only [Act.put]; simp; done) | (simp only [Act.put]; simp [Act.eval]; done) | (simp only [Act.put]; simp [Act.eval]; omega) | (simp [Act.eval, Bool.eq_iff_iff]; omega)); intro wy ey; replace HM := uhide (HP0.out _ wy _ HM.out rfl ey); clear ey)
        | ((with_reducible refine wpList_store_v ?qqg260 4 ?qqx260 ?qqy260 ?qqo260 ?qqd260 g (q * 19 + 1) ?qqh260 (.bool ((kq + 1) % 3 == 0)) ?qqv260 one_bool Tryz.zChange_bool (HM.out.there _ NN1.out) ?_); (case qqg260 => rfl); (case qqo260 => rfl); (case qqd260 => rfl); (case qqh260 => simp [Act.eval, Act.put]); (case qqv260 => first | exact congrArg Value.bool EB1.out | rfl); intro wy ey; replace HM := uhide (HP1.out _ wy _ HM.out rfl ey); clear ey)
        | ((with_reducible refine wpList_store_v ?qqg261 3 ?qqx261 ?qqy261 ?qqo261 ?qqd261 g (q * 19 + 2) ?qqh261 (.int .i64 (((kq + 1) + 1) : Nat)) ?qqv261 one_int Tryz.zChange_int (HM.out.there _ NN2.out) ?_); (case qqg261 => rfl); (case qqo261 => rfl); (case qqd261 => rfl); (case qqh261 => simp [Act.eval, Act.put]); (case qqv261 => first | (simp; done) | (simp [Act.eval]; done) | (simp [Act.eval]; omega) | (simp only [Act.put]; simp; done) | (simp only [Act.put]; simp [Act.eval]; done) | (simp only [Act.put]; simp [Act.eval]; omega) | (simp [Act.eval, Bool.eq_iff_iff]; omega)); intro wy ey; replace HM := uhide (HP2.out _ wy _ HM.out rfl ey); clear ey)
        )
      refine (HT3.out _ _ (by omega)).mono ?_
      rintro e1 w1 ⟨rfl, hb1⟩
      replace HM := uhide (HM.out.below hb1)
      clear hb1
      go_wp2_with (first
        | ((with_reducible refine wpList_store_v ?qqg268 9 ?qqx268 ?qqy268 ?qqo268 ?qqd268 g (q * 19 + 3) ?qqh268 (.string M3) ?qqv268 one_string Tryz.zChange_string (HM.out.there _ NN3.out) ?_); (case qqg268 => rfl); (case qqo268 => rfl); (case qqd268 => rfl); (case qqh268 => simp [Act.eval, Act.put]); (case qqv268 => first | (simp; done) | (simp [Act.eval]; done) | (simp [Act.eval]; omega) | (simp only [Act.put]; simp; done) | (simp only [Act.put]; simp [Act.eval]; done) | (simp only [Act.put]; simp [Act.eval]; omega) | (simp [Act.eval, Bool.eq_iff_iff]; omega)); intro wy ey; replace HM := uhide (HP3.out _ wy _ HM.out rfl ey); clear ey)
        | ((with_reducible refine wpList_store_v ?qqg269 3 ?qqx269 ?qqy269 ?qqo269 ?qqd269 g (q * 19 + 4) ?qqh269 (.int .i64 (((((kq + 1) + 1) + 1) + 1) : Nat)) ?qqv269 one_int Tryz.zChange_int (HM.out.there _ NN4.out) ?_); (case qqg269 => rfl); (case qqo269 => rfl); (case qqd269 => rfl); (case qqh269 => simp [Act.eval, Act.put]); (case qqv269 => first | (simp; done) | (simp [Act.eval]; done) | (simp [Act.eval]; omega) | (simp only [Act.put]; simp; done) | (simp only [Act.put]; simp [Act.eval]; done) | (simp only [Act.put]; simp [Act.eval]; omega) | (simp [Act.eval, Bool.eq_iff_iff]; omega)); intro wy ey; replace HM := uhide (HP4.out _ wy _ HM.out rfl ey); clear ey)
        | ((with_reducible refine wpList_store_v ?qqg270 3 ?qqx270 ?qqy270 ?qqo270 ?qqd270 g (q * 19 + 5) ?qqh270 (.int .i64 ((((((kq + 1) + 1) + 1) + 1) + 1) : Nat)) ?qqv270 one_int Tryz.zChange_int (HM.out.there _ NN5.out) ?_); (case qqg270 => rfl); (case qqo270 => rfl); (case qqd270 => rfl); (case qqh270 => simp [Act.eval, Act.put]); (case qqv270 => first | (simp; done) | (simp [Act.eval]; done) | (simp [Act.eval]; omega) | (simp only [Act.put]; simp; done) | (simp only [Act.put]; simp [Act.eval]; done) | (simp only [Act.put]; simp [Act.eval]; omega) | (simp [Act.eval, Bool.eq_iff_iff]; omega)); intro wy ey; replace HM := uhide (HP5.out _ wy _ HM.out rfl ey); clear ey)
        | ((with_reducible refine wpList_store_v ?qqg271 3 ?qqx271 ?qqy271 ?qqo271 ?qqd271 g (q * 19 + 6) ?qqh271 (.int .i64 (((((((kq + 1) + 1) + 1) + 1) + 1) + 1) : Nat)) ?qqv271 one_int Tryz.zChange_int (HM.out.there _ NN6.out) ?_); (case qqg271 => rfl); (case qqo271 => rfl); (case qqd271 => rfl); (case qqh271 => simp [Act.eval, Act.put]); (case qqv271 => first | (simp; done) | (simp [Act.eval]; done) | (simp [Act.eval]; omega) | (simp only [Act.put]; simp; done) | (simp only [Act.put]; simp [Act.eval]; done) | (simp only [Act.put]; simp [Act.eval]; omega) | (simp [Act.eval, Bool.eq_iff_iff]; omega)); intro wy ey; replace HM := uhide (HP6.out _ wy _ HM.out rfl ey); clear ey)
        | ((with_reducible refine wpList_store_v ?qqg272 4 ?qqx272 ?qqy272 ?qqo272 ?qqd272 g (q * 19 + 7) ?qqh272 (.bool ((((((((kq + 1) + 1) + 1) + 1) + 1) + 1) + 1) % 3 == 0)) ?qqv272 one_bool Tryz.zChange_bool (HM.out.there _ NN7.out) ?_); (case qqg272 => rfl); (case qqo272 => rfl); (case qqd272 => rfl); (case qqh272 => simp [Act.eval, Act.put]); (case qqv272 => first | exact congrArg Value.bool EB7.out | rfl); intro wy ey; replace HM := uhide (HP7.out _ wy _ HM.out rfl ey); clear ey)
        | ((with_reducible refine wpList_load_one ?qqg273 23 ?qqx273 ?qqo273 g (q * 19 + 8) ?qqh273 (.slice a8 n8 p8) Tryz.rChange_Lstring (HQ8.out _ HM.out) ?_); (case qqg273 => rfl); (case qqo273 => rfl); (case qqh273 => simp [Act.eval, Act.put]))
        )
      refine (HC8.out _ _ HM.out (by omega)).mono ?_
      rintro e1 w2 ⟨rfl, HM2⟩
      replace HM := HM2
      go_wp2_with (first
        | ((with_reducible refine wpList_store_v ?qqg279 3 ?qqx279 ?qqy279 ?qqo279 ?qqd279 g (q * 19 + 9) ?qqh279 (.int .i64 ((((((((((kq + 1) + 1) + 1) + 1) + 1) + 1) + 1) + 1) + m8) : Nat)) ?qqv279 one_int Tryz.zChange_int (HM.out.there _ NN9.out) ?_); (case qqg279 => rfl); (case qqo279 => rfl); (case qqd279 => rfl); (case qqh279 => simp [Act.eval, Act.put]); (case qqv279 => first | (simp; done) | (simp [Act.eval]; done) | (simp [Act.eval]; omega) | (simp only [Act.put]; simp; done) | (simp only [Act.put]; simp [Act.eval]; done) | (simp only [Act.put]; simp [Act.eval]; omega) | (simp [Act.eval, Bool.eq_iff_iff]; omega)); intro wy ey; replace HM := uhide (HP9.out _ wy _ HM.out rfl ey); clear ey)
        )
      refine (HT10.out _ _ (by omega)).mono ?_
      rintro e1 w3 ⟨rfl, hb3⟩
      replace HM := uhide (HM.out.below hb3)
      clear hb3
      go_wp2_with (first
        | ((with_reducible refine wpList_store_v ?qqg286 9 ?qqx286 ?qqy286 ?qqo286 ?qqd286 g (q * 19 + 10) ?qqh286 (.string M10) ?qqv286 one_string Tryz.zChange_string (HM.out.there _ NN10.out) ?_); (case qqg286 => rfl); (case qqo286 => rfl); (case qqd286 => rfl); (case qqh286 => simp [Act.eval, Act.put]); (case qqv286 => first | (simp; done) | (simp [Act.eval]; done) | (simp [Act.eval]; omega) | (simp only [Act.put]; simp; done) | (simp only [Act.put]; simp [Act.eval]; done) | (simp only [Act.put]; simp [Act.eval]; omega) | (simp [Act.eval, Bool.eq_iff_iff]; omega)); intro wy ey; replace HM := uhide (HP10.out _ wy _ HM.out rfl ey); clear ey)
        | ((with_reducible refine wpList_store_v ?qqg287 3 ?qqx287 ?qqy287 ?qqo287 ?qqd287 g (q * 19 + 11) ?qqh287 (.int .i64 ((((((((((((kq + 1) + 1) + 1) + 1) + 1) + 1) + 1) + 1) + m8) + 1) + 1) : Nat)) ?qqv287 one_int Tryz.zChange_int (HM.out.there _ NN11.out) ?_); (case qqg287 => rfl); (case qqo287 => rfl); (case qqd287 => rfl); (case qqh287 => simp [Act.eval, Act.put]); (case qqv287 => first | (simp; done) | (simp [Act.eval]; done) | (simp [Act.eval]; omega) | (simp only [Act.put]; simp; done) | (simp only [Act.put]; simp [Act.eval]; done) | (simp only [Act.put]; simp [Act.eval]; omega) | (simp [Act.eval, Bool.eq_iff_iff]; omega)); intro wy ey; replace HM := uhide (HP11.out _ wy _ HM.out rfl ey); clear ey)
        | ((with_reducible refine wpList_load_one ?qqg288 23 ?qqx288 ?qqo288 g (q * 19 + 12) ?qqh288 (.slice a12 n12 p12) Tryz.rChange_Lstring (HQ12.out _ HM.out) ?_); (case qqg288 => rfl); (case qqo288 => rfl); (case qqh288 => simp [Act.eval, Act.put]))
        )
      refine (HC12.out _ _ HM.out (by omega)).mono ?_
      rintro e1 w4 ⟨rfl, HM2⟩
      replace HM := HM2
      go_wp2_with (first
        | ((with_reducible refine wpList_load_one ?qqg294 88 ?qqx294 ?qqo294 g (q * 19 + 13) ?qqh294 (.slice a13 n13 p13) Tryz.rChange_Limpl_Value (HQ13.out _ HM.out) ?_); (case qqg294 => rfl); (case qqo294 => rfl); (case qqh294 => simp [Act.eval, Act.put]))
        )
      refine (HC13.out _ _ HM.out (by omega)).mono ?_
      rintro e1 w5 ⟨rfl, HM2⟩
      replace HM := HM2
      go_wp2_with (first
        | ((with_reducible refine wpList_store_v ?qqg300 3 ?qqx300 ?qqy300 ?qqo300 ?qqd300 g (q * 19 + 14) ?qqh300 (.int .i64 (((((((((((((((kq + 1) + 1) + 1) + 1) + 1) + 1) + 1) + 1) + m8) + 1) + 1) + 1) + m12) + m13) : Nat)) ?qqv300 one_int Tryz.zChange_int (HM.out.there _ NN14.out) ?_); (case qqg300 => rfl); (case qqo300 => rfl); (case qqd300 => rfl); (case qqh300 => simp [Act.eval, Act.put]); (case qqv300 => first | (simp; done) | (simp [Act.eval]; done) | (simp [Act.eval]; omega) | (simp only [Act.put]; simp; done) | (simp only [Act.put]; simp [Act.eval]; done) | (simp only [Act.put]; simp [Act.eval]; omega) | (simp [Act.eval, Bool.eq_iff_iff]; omega)); intro wy ey; replace HM := uhide (HP14.out _ wy _ HM.out rfl ey); clear ey)
        )
      refine (HT15.out _ _ (by omega)).mono ?_
      rintro e1 w6 ⟨rfl, hb6⟩
      replace HM := uhide (HM.out.below hb6)
      clear hb6
      go_wp2_with (first
        | ((with_reducible refine wpList_store_v ?qqg307 9 ?qqx307 ?qqy307 ?qqo307 ?qqd307 g (q * 19 + 15) ?qqh307 (.string M15) ?qqv307 one_string Tryz.zChange_string (HM.out.there _ NN15.out) ?_); (case qqg307 => rfl); (case qqo307 => rfl); (case qqd307 => rfl); (case qqh307 => simp [Act.eval, Act.put]); (case qqv307 => first | (simp; done) | (simp [Act.eval]; done) | (simp [Act.eval]; omega) | (simp only [Act.put]; simp; done) | (simp only [Act.put]; simp [Act.eval]; done) | (simp only [Act.put]; simp [Act.eval]; omega) | (simp [Act.eval, Bool.eq_iff_iff]; omega)); intro wy ey; replace HM := uhide (HP15.out _ wy _ HM.out rfl ey); clear ey)
        | ((with_reducible refine wpList_store_v ?qqg308 3 ?qqx308 ?qqy308 ?qqo308 ?qqd308 g (q * 19 + 16) ?qqh308 (.int .i64 (((((((((((((((((kq + 1) + 1) + 1) + 1) + 1) + 1) + 1) + 1) + m8) + 1) + 1) + 1) + m12) + m13) + 1) + 1) : Nat)) ?qqv308 one_int Tryz.zChange_int (HM.out.there _ NN16.out) ?_); (case qqg308 => rfl); (case qqo308 => rfl); (case qqd308 => rfl); (case qqh308 => simp [Act.eval, Act.put]); (case qqv308 => first | (simp; done) | (simp [Act.eval]; done) | (simp [Act.eval]; omega) | (simp only [Act.put]; simp; done) | (simp only [Act.put]; simp [Act.eval]; done) | (simp only [Act.put]; simp [Act.eval]; omega) | (simp [Act.eval, Bool.eq_iff_iff]; omega)); intro wy ey; replace HM := uhide (HP16.out _ wy _ HM.out rfl ey); clear ey)
        | ((with_reducible refine wpList_load_one ?qqg309 23 ?qqx309 ?qqo309 g (q * 19 + 17) ?qqh309 (.slice a17 n17 p17) Tryz.rChange_Lstring (HQ17.out _ HM.out) ?_); (case qqg309 => rfl); (case qqo309 => rfl); (case qqh309 => simp [Act.eval, Act.put]))
        )
      refine (HC17.out _ _ HM.out (by omega)).mono ?_
      rintro e1 w7 ⟨rfl, HM2⟩
      replace HM := HM2
      go_wp2_with (first
        | ((with_reducible refine wpList_load_one ?qqg315 88 ?qqx315 ?qqo315 g (q * 19 + 18) ?qqh315 (.slice a18 n18 p18) Tryz.rChange_Limpl_Value (HQ18.out _ HM.out) ?_); (case qqg315 => rfl); (case qqo315 => rfl); (case qqh315 => simp [Act.eval, Act.put]))
        )
      refine (HC18.out _ _ HM.out (by omega)).mono ?_
      rintro e1 w8 ⟨rfl, HM2⟩
      replace HM := HM2
      go_wp2
      go_roundw
      case rel => exact ⟨q + 1, by omega, by go_num, by rw [HE.out]; go_num, HN.out _ HM.out⟩
      case measure => (simp [intOf]; omega)
    · have e : q = n := by omega
      subst e
      obtain ⟨h1, h2⟩ := HM.out.done (by decide)
      have HD := uhide (And.intro h1 h2)
      have hl : cs.takeN (q * 19) = cs := by apply UD.ext; unfold UD.takeN; rw [UD.toL_ofL]; exact List.take_of_length_le (Nat.le_of_eq Ht.out.2.2.2.1)
      rw [hl]
      clear h1 h2 hl HM Ht Hp0 Hl0 Hkk
      go_wp2
      go_ret
      exact ⟨rfl, HD.out⟩
end Go.Proofs.YtdnodaoeflbfkaaGreat
/- Data as cells: the helpers of the laws over Base. -/
namespace Go.Proofs.YtdnodaoeflbfkaaGreat
open Go.RowKit Go.BigFrame
set_option linter.unusedVariables false
set_option linter.unusedSimpArgs false

set_option maxRecDepth 20000 in
set_option maxHeartbeats 800000 in
theorem umarkBase_any (d : UD) (k0 : Nat) (xs : List Value) (S : List Nat) (w : World) (ht : tyL d (uE 10)) (hnd : S.Nodup) (hk0 : 1 ≤ k0) (hk1 : k0 + cntT d ≤ 100000000) (hx : oH w d xs S) :
    Calls Tryz.prog 39 #[.agg xs.toArray, .int .i64 k0] w fun e w' => e = .returned (.int .i64 (k0 + cntT d : Nat)) ∧ oH w' (mkT d k0) xs S ∧ OutS S w w' := by
  obtain ⟨n0, c0, z1, z2, n3, c3, rfl, g0, g1, g2, g3⟩ := partsBase ht
  have hx' := hx
  obtain ⟨v0, _, _, _, rfl, _, _, ⟨_, _, o0, _⟩, ⟨_, rfl, ⟨_, rfl, ⟨v3, _, _, _, rfl, _, _, ⟨_, _, o3, _⟩, ⟨rfl, _⟩⟩⟩⟩⟩ := hx'
  obtain ⟨a0, p0, rfl⟩ := uowns_slice o0
  clear o0
  obtain ⟨a3, p3, rfl⟩ := uowns_slice o3
  clear o3
  simp only [cntT] at hk1
  have hlt := hx.lt
  have HC0 : Hid (∀ (wx : World) (x : Int), oH wx (.l 17 n0 c0 (.p (.int .i64 z1) (.p (.int .i64 z2) (.l 19 n3 c3 .nil)))) [.slice a0 n0 p0, .int .i64 z1, .int .i64 z2, .slice a3 n3 p3] S → x = ((k0 : Nat) : Int) → Calls Tryz.prog 96 #[.slice a0 n0 p0, .int .i64 x] wx fun e w' => e = .returned (.int .i64 ((k0 + cnt c0) : Nat)) ∧ oH w' (.l 17 n0 (mk c0 k0) (.p (.int .i64 z1) (.p (.int .i64 z2) (.l 19 n3 c3 .nil)))) [.slice a0 n0 p0, .int .i64 z1, .int .i64 z2, .slice a3 n3 p3] S ∧ OutS S wx w') := by
    intro wx x h hxx
    rw [hxx]
    obtain ⟨c', T, q1, q2, q3, q4, q5⟩ := h.part hnd 0 17 n0 c0 rfl
    cases q1
    exact (umarkObjS_any n0 k0 c0 _ T wx g0 q3 (by omega) (by omega) q2).mono fun e w' h => ⟨h.1, q5 w' _ h.2.2 h.2.1, h.2.2.mono q4⟩
  have HC1 : Hid (∀ (wx : World) (x : Int), oH wx (.l 17 n0 (mk c0 k0) (.p (.int .i64 z1) (.p (.int .i64 z2) (.l 19 n3 c3 .nil)))) [.slice a0 n0 p0, .int .i64 z1, .int .i64 z2, .slice a3 n3 p3] S → x = (((k0 + cnt c0) : Nat) : Int) → Calls Tryz.prog 45 #[.slice a3 n3 p3, .int .i64 x] wx fun e w' => e = .returned (.int .i64 (((k0 + cnt c0) + cnt c3) : Nat)) ∧ oH w' (.l 17 n0 (mk c0 k0) (.p (.int .i64 z1) (.p (.int .i64 z2) (.l 19 n3 (mk c3 (k0 + cnt c0)) .nil)))) [.slice a0 n0 p0, .int .i64 z1, .int .i64 z2, .slice a3 n3 p3] S ∧ OutS S wx w') := by
    intro wx x h hxx
    rw [hxx]
    obtain ⟨c', T, q1, q2, q3, q4, q5⟩ := h.part hnd 3 19 n3 c3 rfl
    cases q1
    exact (umarkChangeS_any n3 (k0 + cnt c0) c3 _ T wx g3 q3 (by omega) (by omega) q2).mono fun e w' h => ⟨h.1, q5 w' _ h.2.2 h.2.1, h.2.2.mono q4⟩
  have HE : Hid ((((k0 + cnt c0) + cnt c3) : Nat) = k0 + cntT (.l 17 n0 c0 (.p (.int .i64 z1) (.p (.int .i64 z2) (.l 19 n3 c3 .nil))))) := by show _ = _; simp only [cntT]; omega
  have HF : Hid (∀ wx, oH wx (.l 17 n0 (mk c0 k0) (.p (.int .i64 z1) (.p (.int .i64 z2) (.l 19 n3 (mk c3 (k0 + cnt c0)) .nil)))) [.slice a0 n0 p0, .int .i64 z1, .int .i64 z2, .slice a3 n3 p3] S → oH wx (mkT (.l 17 n0 c0 (.p (.int .i64 z1) (.p (.int .i64 z2) (.l 19 n3 c3 .nil)))) k0) [.slice a0 n0 p0, .int .i64 z1, .int .i64 z2, .slice a3 n3 p3] S) := fun wx h => h
  generalize k0 + cntT (.l 17 n0 c0 (.p (.int .i64 z1) (.p (.int .i64 z2) (.l 19 n3 c3 .nil)))) = R at *
  have H0 : Hid (∀ o, oH (w.alloc o) (.l 17 n0 c0 (.p (.int .i64 z1) (.p (.int .i64 z2) (.l 19 n3 c3 .nil)))) [.slice a0 n0 p0, .int .i64 z1, .int .i64 z2, .slice a3 n3 p3] S) := fun o => hx.below ((Below.refl _ _).alloc (Nat.le_refl _) _)
  have HS : Hid (w.heap.size ∉ S) := fun h => by have := hlt _ h; omega
  have HO : Hid (∀ o w', OutS S (w.alloc o) w' → OutS S w w') := fun o w' h => (OutS.of_below ((Below.refl _ _).alloc (Nat.le_refl _) _)).trans h
  clear ht hx hlt hnd g0 g1 g2 g3
  go_enter Tryz.func39, Tryz.ntmps39
  go_wp2_with fail
  refine (HC0.out _ _ (H0.out _) (by omega)).mono ?_
  rintro e w1 ⟨rfl, h1, ho1⟩
  have b1 : w1.cell? ⟨w.heap.size, 1, none⟩ = some (.int .i64 z1) := (ho1.cell (p := ⟨w.heap.size, 1, none⟩) (by simp) HS.out).trans (by simp [go_sem])
  have b2 : w1.cell? ⟨w.heap.size, 2, none⟩ = some (.int .i64 z2) := (ho1.cell (p := ⟨w.heap.size, 2, none⟩) (by simp) HS.out).trans (by simp [go_sem])
  have b3 : w1.cell? ⟨w.heap.size, 3, none⟩ = some (.slice a3 n3 p3) := (ho1.cell (p := ⟨w.heap.size, 3, none⟩) (by simp) HS.out).trans (by simp [go_sem])
  have I1 := uhide h1
  have B1 : Hid (OutS S w w1) := HO.out _ _ ho1
  clear h1 ho1
  go_wp2_with fail
  refine (HC1.out _ _ I1.out (by omega)).mono ?_
  rintro e w2 ⟨rfl, h2, ho2⟩
  have I2 := uhide h2
  have B2 : Hid (OutS S w w2) := B1.out.trans ho2
  clear h2 ho2
  go_wp2
  go_ret
  exact ⟨ret_intU (by have := HE.out; omega), HF.out _ I2.out, B2.out⟩
end Go.Proofs.YtdnodaoeflbfkaaGreat
/- Data as cells: the helpers of the laws over Mirror. -/
namespace Go.Proofs.YtdnodaoeflbfkaaGreat
open Go.RowKit Go.BigFrame
set_option linter.unusedVariables false

theorem Tryz.rMirror_int : (Tryz.prog.underlying 3).map TypeDesc.isRow = some false := by kernel_rfl
theorem Tryz.zMirror_int : (Tryz.prog.info? 3).map (·.size) = some 1 := by kernel_rfl
theorem Tryz.rMirror_Limpl_Obj : (Tryz.prog.underlying 63).map TypeDesc.isRow = some false := by kernel_rfl
theorem Tryz.zMirror_Limpl_Obj : (Tryz.prog.info? 63).map (·.size) = some 1 := by kernel_rfl
theorem Tryz.rMirror_impl_Mirror : (Tryz.prog.underlying 65).map TypeDesc.isRow = some true := by kernel_rfl
theorem Tryz.zMirror_impl_Mirror : (Tryz.prog.info? 65).map (·.size) = some 2 := by kernel_rfl
end Go.Proofs.YtdnodaoeflbfkaaGreat
/- Data as cells: the helpers of the laws over Mirror. -/
namespace Go.Proofs.YtdnodaoeflbfkaaGreat
open Go.RowKit Go.BigFrame
set_option linter.unusedVariables false
set_option linter.unusedSimpArgs false

set_option maxRecDepth 20000 in
set_option maxHeartbeats 1600000 in
theorem ueqMirror_any {lo hi lo' hi' : Nat} (d : UD) (xs ys : List Value) (w : World) (ht : tyL d (uE 11)) (hx : uH w lo hi d xs) (hy : uH w lo' hi' d ys) :
    Calls Tryz.prog 37 #[.agg xs.toArray, .agg ys.toArray] w fun e w' => e = .returned (.bool true) ∧ Below w.heap.size w w' := by
  replace ht : tyL d [.i .i64, .l 17 8] := ht
  obtain ⟨z0, _, rfl, g0, h0⟩ := tyL.i ht
  obtain ⟨n1, c1, _, rfl, g1, h1⟩ := tyL.l h0
  clear h0
  obtain rfl := tyL.nil h1
  clear h1
  obtain ⟨_, rfl, h0⟩ := hx
  obtain ⟨v1, _, rfl, s1, h1⟩ := h0
  obtain rfl := h1
  obtain ⟨_, rfl, h0r⟩ := hy
  obtain ⟨v1r, _, rfl, s1r, h1r⟩ := h0r
  obtain rfl := h1r
  have HC0 : Hid (∀ wx : World, Below w.heap.size w wx → Calls Tryz.prog 95 #[v1, v1r] wx fun e w' => e = .returned (.bool true) ∧ Below wx.heap.size wx w') := fun wx hb => ueqObjS_any (lo := lo) (hi := hi) (lo' := lo') (hi' := hi') n1 c1 _ _ wx g1 (s1.below hb) (s1r.below hb)
  have q0 : (z0 != z0) = false := by simp
  have HB : Hid (∀ o o', Below w.heap.size w ((w.alloc o).alloc o')) := fun o o' => ((Below.refl _ _).alloc (Nat.le_refl _) _).alloc (by simp) _
  obtain ⟨AX, hAX⟩ : ∃ AX : List Value, AX = (Value.int .i64 z0 :: (v1 :: [])) := ⟨_, rfl⟩
  rw [← hAX]
  have hlen : AX.length = 2 := by rw [hAX]; simp
  have e0 : AX[0]? = some (.int .i64 z0) := at_mid (i := 0) (pre := (([] : List Value))) (ys := [.int .i64 z0]) (post := (v1 :: [])) (by rw [hAX]; simp) (by simp) rfl
  have e1 : AX[1]? = some (v1) := at_mid (i := 0) (pre := ([Value.int .i64 z0])) (ys := [v1]) (post := []) (by rw [hAX]; simp) (by simp) rfl
  clear hAX
  have E0 := uhide e0
  clear e0
  have E1 := uhide e1
  clear e1
  obtain ⟨AY, hAY⟩ : ∃ AY : List Value, AY = (Value.int .i64 z0 :: (v1r :: [])) := ⟨_, rfl⟩
  rw [← hAY]
  have hlenr : AY.length = 2 := by rw [hAY]; simp
  have e0r : AY[0]? = some (.int .i64 z0) := at_mid (i := 0) (pre := (([] : List Value))) (ys := [.int .i64 z0]) (post := (v1r :: [])) (by rw [hAY]; simp) (by simp) rfl
  have e1r : AY[1]? = some (v1r) := at_mid (i := 0) (pre := ([Value.int .i64 z0])) (ys := [v1r]) (post := []) (by rw [hAY]; simp) (by simp) rfl
  clear hAY
  have Er0 := uhide e0r
  clear e0r
  have Er1 := uhide e1r
  clear e1r
  have OA0 : Hid (objU ((w.alloc (.cells AX.toArray 65)).alloc (.cells AY.toArray 65)) w.heap.size 65 AX) := (objU.new2 _ _ rfl).old _
  have OB0 : Hid (objU ((w.alloc (.cells AX.toArray 65)).alloc (.cells AY.toArray 65)) (w.heap.size + 1) 65 AY) := objU.new2 _ _ (by simp)
  clear ht g0 g1 s1 s1r
  go_enter Tryz.func37, Tryz.ntmps37
  go_wp2_with (first
    | ((with_reducible refine wpList_load_one ?qqg54 3 ?qqx54 ?qqo54 w.heap.size 0 ?qqh54 (.int .i64 z0) Tryz.rMirror_int (OA0.out.cell 0 _ E0.out) ?_); (case qqg54 => rfl); (case qqo54 => rfl); (case qqh54 => simp [Act.eval, Act.put]))
    | ((with_reducible refine wpList_load_one ?qqg55 63 ?qqx55 ?qqo55 w.heap.size 1 ?qqh55 (v1) Tryz.rMirror_Limpl_Obj (OA0.out.cell 1 _ E1.out) ?_); (case qqg55 => rfl); (case qqo55 => rfl); (case qqh55 => simp [Act.eval, Act.put]))
    | ((with_reducible refine wpList_load_one ?qqg56 3 ?qqx56 ?qqo56 (w.heap.size + 1) 0 ?qqh56 (.int .i64 z0) Tryz.rMirror_int (OB0.out.cell 0 _ Er0.out) ?_); (case qqg56 => rfl); (case qqo56 => rfl); (case qqh56 => simp [Act.eval, Act.put]))
    | ((with_reducible refine wpList_load_one ?qqg57 63 ?qqx57 ?qqo57 (w.heap.size + 1) 1 ?qqh57 (v1r) Tryz.rMirror_Limpl_Obj (OB0.out.cell 1 _ Er1.out) ?_); (case qqg57 => rfl); (case qqo57 => rfl); (case qqh57 => simp [Act.eval, Act.put]))
    )
  refine (HC0.out _ (HB.out _ _)).mono ?_
  rintro e w1 ⟨rfl, hb1⟩
  have OA1 := uhide (OA0.out.below hb1)
  have OB1 := uhide (OB0.out.below hb1)
  have B1 : Hid (Below w.heap.size w w1) := (HB.out _ _).trans (hb1.mono (by simp; omega))
  clear hb1 OA0 OB0
  go_wp2
  go_ret
  exact ⟨rfl, B1.out⟩
end Go.Proofs.YtdnodaoeflbfkaaGreat
/- Data as cells: the helpers of the laws over Obj. -/
namespace Go.Proofs.YtdnodaoeflbfkaaGreat
open Go.RowKit Go.BigFrame
set_option linter.unusedVariables false
set_option linter.unusedSimpArgs false

set_option maxRecDepth 20000 in
set_option maxHeartbeats 1600000 in
theorem uheldObjS_any {lo hi : Nat} (n k0 : Nat) (cs : UD) (c : Value) (w : World) (ht : tyS 17 n cs 8) (hk0 : 1 ≤ k0) (hk1 : k0 + cnt cs ≤ 100000000) (hx : uS w lo hi 17 n (mk cs k0) c) :
    Calls Tryz.prog 97 #[c, .int .i64 k0] w fun e w' => e = .returned (.int .i64 (k0 + cnt cs : Nat)) ∧ Below w.heap.size w w' := by
  obtain ⟨a, cap, rfl, hx2⟩ := hx
  have Hx : Hid (uS w lo hi 17 n (mk cs k0) (.slice a n cap)) := ⟨a, cap, rfl, hx2⟩
  have hmx := ht.2.2.1
  unfold maxLen at hmx
  have Ht := uhide ht
  have Hkk : Hid (∀ q, k0 + cnt (cs.takeN (q * 17)) ≤ 100000000) := fun q => by have := cnt_le cs (q * 17); omega
  clear hx2 ht
  go_enter Tryz.func97, Tryz.ntmps97
  go_wp2
  go_loopw [1, 5] (fun s i wr => ∃ (q : Nat), q ≤ n ∧ i = .int .i64 q ∧ s = .int .i64 (k0 + cnt (cs.takeN (q * 17)) : Nat) ∧ Below w.heap.size w wr) (fun _ i _ => n - (intOf i).toNat)
  case atStart => exact ⟨0, Nat.zero_le _, rfl, by rw [Nat.zero_mul]; rfl, Below.refl _ _⟩
  case round =>
    obtain ⟨q, hq, rfl, rfl, hbw⟩ := hrel
    by_cases hlt : q < n
    · obtain ⟨b, off, rfl, hbb, hm⟩ := (Hx.out.below hbw).cells (by omega)
      have htr := Ht.out.row hlt
      have hsz := uszD_row cs 17 q
      have hkn := cnt_row cs 17 q
      have hkb := Hkk.out (q + 1)
      have hkr := hkn
      have hrow := hm.row 17 q
      rw [mk_row] at hrow
      obtain ⟨z0, z1, z2, z3, z4, z5, n6, c6, z7, z8, z9, n10, c10, n11, c11, z12, z13, z14, n15, c15, n16, c16, hR, g0, g1, g2, g3, g4, g6, g7, g8, g9, g10, g11, g12, g13, g14, g15, g16⟩ := partsObj htr
      rw [hR] at hrow hkn hsz
      simp only [cnt, Nat.add_zero] at hkn
      obtain ⟨xs, hh, hcl⟩ := hrow.hand
      obtain ⟨_, rfl, ⟨_, rfl, ⟨_, rfl, ⟨_, rfl, ⟨_, rfl, ⟨_, rfl, ⟨v6, _, rfl, s6, ⟨_, rfl, ⟨_, rfl, ⟨_, rfl, ⟨v10, _, rfl, s10, ⟨v11, _, rfl, s11, ⟨_, rfl, ⟨_, rfl, ⟨_, rfl, ⟨v15, _, rfl, s15, ⟨v16, _, rfl, s16, rfl⟩⟩⟩⟩⟩⟩⟩⟩⟩⟩⟩⟩⟩⟩⟩⟩⟩ := hh
      obtain ⟨a6, p6, rfl, t6⟩ := s6
      obtain ⟨a10, p10, rfl, t10⟩ := s10
      obtain ⟨a11, p11, rfl, t11⟩ := s11
      obtain ⟨a15, p15, rfl, t15⟩ := s15
      obtain ⟨a16, p16, rfl, t16⟩ := s16
      generalize hKd : k0 + cnt (cs.takeN (q * 17)) = kq at *
      have hK0 : 1 ≤ kq := by omega
      have hend : k0 + cnt (cs.takeN ((q + 1) * 17)) = (((((((((((((((((kq + 1) + 1) + 1) + 1) + 1) + 1) + cnt c6) + 1) + 1) + 1) + cnt c10) + cnt c11) + 1) + 1) + 1) + cnt c15) + cnt c16) := by rw [hkn]; omega
      rw [hend] at hkb
      have q0 : wr.cell? ⟨b, off + q * 17, none⟩ = some (.int .i64 (kq : Nat)) := (show wr.cell? ⟨b, off + q * 17, none⟩ = _ from hcl 0 _ rfl).trans (congrArg some (mkP_int _ _ (by omega)))
      have q1 : wr.cell? ⟨b, off + q * 17 + 1, none⟩ = some (.string (umtx (kq + 1))) := hcl 1 _ rfl
      have q2 : wr.cell? ⟨b, off + q * 17 + 2, none⟩ = some (.int .i64 (((kq + 1) + 1) : Nat)) := (show wr.cell? ⟨b, off + q * 17 + 2, none⟩ = _ from hcl 2 _ rfl).trans (congrArg some (mkP_int _ _ (by omega)))
      have q3 : wr.cell? ⟨b, off + q * 17 + 3, none⟩ = some (.int .i64 ((((kq + 1) + 1) + 1) : Nat)) := (show wr.cell? ⟨b, off + q * 17 + 3, none⟩ = _ from hcl 3 _ rfl).trans (congrArg some (mkP_int _ _ (by omega)))
      have q4 : wr.cell? ⟨b, off + q * 17 + 4, none⟩ = some (.int .i64 (((((kq + 1) + 1) + 1) + 1) : Nat)) := (show wr.cell? ⟨b, off + q * 17 + 4, none⟩ = _ from hcl 4 _ rfl).trans (congrArg some (mkP_int _ _ (by omega)))
      have q5 : wr.cell? ⟨b, off + q * 17 + 5, none⟩ = some (.bool ((((((kq + 1) + 1) + 1) + 1) + 1) % 3 == 0)) := hcl 5 _ rfl
      have q6 : wr.cell? ⟨b, off + q * 17 + 6, none⟩ = some (.slice a6 n6 p6) := hcl 6 _ rfl
      have q7 : wr.cell? ⟨b, off + q * 17 + 7, none⟩ = some (.int .i64 ((((((((kq + 1) + 1) + 1) + 1) + 1) + 1) + cnt c6) : Nat)) := (show wr.cell? ⟨b, off + q * 17 + 7, none⟩ = _ from hcl 7 _ rfl).trans (congrArg some (mkP_int _ _ (by omega)))
      have q8 : wr.cell? ⟨b, off + q * 17 + 8, none⟩ = some (.string (umtx ((((((((kq + 1) + 1) + 1) + 1) + 1) + 1) + cnt c6) + 1))) := hcl 8 _ rfl
      have q9 : wr.cell? ⟨b, off + q * 17 + 9, none⟩ = some (.int .i64 ((((((((((kq + 1) + 1) + 1) + 1) + 1) + 1) + cnt c6) + 1) + 1) : Nat)) := (show wr.cell? ⟨b, off + q * 17 + 9, none⟩ = _ from hcl 9 _ rfl).trans (congrArg some (mkP_int _ _ (by omega)))
      have q10 : wr.cell? ⟨b, off + q * 17 + 10, none⟩ = some (.slice a10 n10 p10) := hcl 10 _ rfl
      have q11 : wr.cell? ⟨b, off + q * 17 + 11, none⟩ = some (.slice a11 n11 p11) := hcl 11 _ rfl
      have q12 : wr.cell? ⟨b, off + q * 17 + 12, none⟩ = some (.int .i64 (((((((((((((kq + 1) + 1) + 1) + 1) + 1) + 1) + cnt c6) + 1) + 1) + 1) + cnt c10) + cnt c11) : Nat)) := (show wr.cell? ⟨b, off + q * 17 + 12, none⟩ = _ from hcl 12 _ rfl).trans (congrArg some (mkP_int _ _ (by omega)))
      have q13 : wr.cell? ⟨b, off + q * 17 + 13, none⟩ = some (.string (umtx (((((((((((((kq + 1) + 1) + 1) + 1) + 1) + 1) + cnt c6) + 1) + 1) + 1) + cnt c10) + cnt c11) + 1))) := hcl 13 _ rfl
      have q14 : wr.cell? ⟨b, off + q * 17 + 14, none⟩ = some (.int .i64 (((((((((((((((kq + 1) + 1) + 1) + 1) + 1) + 1) + cnt c6) + 1) + 1) + 1) + cnt c10) + cnt c11) + 1) + 1) : Nat)) := (show wr.cell? ⟨b, off + q * 17 + 14, none⟩ = _ from hcl 14 _ rfl).trans (congrArg some (mkP_int _ _ (by omega)))
      have q15 : wr.cell? ⟨b, off + q * 17 + 15, none⟩ = some (.slice a15 n15 p15) := hcl 15 _ rfl
      have q16 : wr.cell? ⟨b, off + q * 17 + 16, none⟩ = some (.slice a16 n16 p16) := hcl 16 _ rfl
      have HQ0 : Hid (∀ wx, Below wr.heap.size wr wx → wx.cell? ⟨b, off + q * 17, none⟩ = some (.int .i64 (kq : Nat))) := fun wx hb => (hb.cell (p := ⟨b, off + q * 17, none⟩) hbb).trans q0
      have HQ1 : Hid (∀ wx, Below wr.heap.size wr wx → wx.cell? ⟨b, off + q * 17 + 1, none⟩ = some (.string (umtx (kq + 1)))) := fun wx hb => (hb.cell (p := ⟨b, off + q * 17 + 1, none⟩) hbb).trans q1
      have HQ2 : Hid (∀ wx, Below wr.heap.size wr wx → wx.cell? ⟨b, off + q * 17 + 2, none⟩ = some (.int .i64 (((kq + 1) + 1) : Nat))) := fun wx hb => (hb.cell (p := ⟨b, off + q * 17 + 2, none⟩) hbb).trans q2
      have HQ3 : Hid (∀ wx, Below wr.heap.size wr wx → wx.cell? ⟨b, off + q * 17 + 3, none⟩ = some (.int .i64 ((((kq + 1) + 1) + 1) : Nat))) := fun wx hb => (hb.cell (p := ⟨b, off + q * 17 + 3, none⟩) hbb).trans q3
      have HQ4 : Hid (∀ wx, Below wr.heap.size wr wx → wx.cell? ⟨b, off + q * 17 + 4, none⟩ = some (.int .i64 (((((kq + 1) + 1) + 1) + 1) : Nat))) := fun wx hb => (hb.cell (p := ⟨b, off + q * 17 + 4, none⟩) hbb).trans q4
      have HQ5 : Hid (∀ wx, Below wr.heap.size wr wx → wx.cell? ⟨b, off + q * 17 + 5, none⟩ = some (.bool ((((((kq + 1) + 1) + 1) + 1) + 1) % 3 == 0))) := fun wx hb => (hb.cell (p := ⟨b, off + q * 17 + 5, none⟩) hbb).trans q5
      have HQ6 : Hid (∀ wx, Below wr.heap.size wr wx → wx.cell? ⟨b, off + q * 17 + 6, none⟩ = some (.slice a6 n6 p6)) := fun wx hb => (hb.cell (p := ⟨b, off + q * 17 + 6, none⟩) hbb).trans q6
      have HQ7 : Hid (∀ wx, Below wr.heap.size wr wx → wx.cell? ⟨b, off + q * 17 + 7, none⟩ = some (.int .i64 ((((((((kq + 1) + 1) + 1) + 1) + 1) + 1) + cnt c6) : Nat))) := fun wx hb => (hb.cell (p := ⟨b, off + q * 17 + 7, none⟩) hbb).trans q7
      have HQ8 : Hid (∀ wx, Below wr.heap.size wr wx → wx.cell? ⟨b, off + q * 17 + 8, none⟩ = some (.string (umtx ((((((((kq + 1) + 1) + 1) + 1) + 1) + 1) + cnt c6) + 1)))) := fun wx hb => (hb.cell (p := ⟨b, off + q * 17 + 8, none⟩) hbb).trans q8
      have HQ9 : Hid (∀ wx, Below wr.heap.size wr wx → wx.cell? ⟨b, off + q * 17 + 9, none⟩ = some (.int .i64 ((((((((((kq + 1) + 1) + 1) + 1) + 1) + 1) + cnt c6) + 1) + 1) : Nat))) := fun wx hb => (hb.cell (p := ⟨b, off + q * 17 + 9, none⟩) hbb).trans q9
      have HQ10 : Hid (∀ wx, Below wr.heap.size wr wx → wx.cell? ⟨b, off + q * 17 + 10, none⟩ = some (.slice a10 n10 p10)) := fun wx hb => (hb.cell (p := ⟨b, off + q * 17 + 10, none⟩) hbb).trans q10
      have HQ11 : Hid (∀ wx, Below wr.heap.size wr wx → wx.cell? ⟨b, off + q * 17 + 11, none⟩ = some (.slice a11 n11 p11)) := fun wx hb => (hb.cell (p := ⟨b, off + q * 17 + 11, none⟩) hbb).trans q11
      have HQ12 : Hid (∀ wx, Below wr.heap.size wr wx → wx.cell? ⟨b, off + q * 17 + 12, none⟩ = some (.int .i64 (((((((((((((kq + 1) + 1) + 1) + 1) + 1) + 1) + cnt c6) + 1) + 1) + 1) + cnt c10) + cnt c11) : Nat))) := fun wx hb => (hb.cell (p := ⟨b, off + q * 17 + 12, none⟩) hbb).trans q12
      have HQ13 : Hid (∀ wx, Below wr.heap.size wr wx → wx.cell? ⟨b, off + q * 17 + 13, none⟩ = some (.string (umtx (((((((((((((kq + 1) + 1) + 1) + 1) + 1) + 1) + cnt c6) + 1) + 1) + 1) + cnt c10) + cnt c11) + 1)))) := fun wx hb => (hb.cell (p := ⟨b, off + q * 17 + 13, none⟩) hbb).trans q13
      have HQ14 : Hid (∀ wx, Below wr.heap.size wr wx → wx.cell? ⟨b, off + q * 17 + 14, none⟩ = some (.int .i64 (((((((((((((((kq + 1) + 1) + 1) + 1) + 1) + 1) + cnt c6) + 1) + 1) + 1) + cnt c10) + cnt c11) + 1) + 1) : Nat))) := fun wx hb => (hb.cell (p := ⟨b, off + q * 17 + 14, none⟩) hbb).trans q14
      have HQ15 : Hid (∀ wx, Below wr.heap.size wr wx → wx.cell? ⟨b, off + q * 17 + 15, none⟩ = some (.slice a15 n15 p15)) := fun wx hb => (hb.cell (p := ⟨b, off + q * 17 + 15, none⟩) hbb).trans q15
      have HQ16 : Hid (∀ wx, Below wr.heap.size wr wx → wx.cell? ⟨b, off + q * 17 + 16, none⟩ = some (.slice a16 n16 p16)) := fun wx hb => (hb.cell (p := ⟨b, off + q * 17 + 16, none⟩) hbb).trans q16
      clear q0 q1 q2 q3 q4 q5 q6 q7 q8 q9 q10 q11 q12 q13 q14 q15 q16
      have HC1 : Hid (∀ (wx : World) (x : Int), Below wr.heap.size wr wx → x = (((kq + 1) : Nat) : Int) → Calls Tryz.prog 84 #[.int .i64 x] wx fun e w' => e = .returned (.string (umtx (kq + 1))) ∧ Hid (Below wr.heap.size wr w')) := fun wx x hb hx => by rw [hx]; exact (umarkText_any _ wx (by omega) (by omega)).mono fun e w' h => ⟨h.1, hb.trans (h.2.mono hb.size)⟩
      have HC6 : Hid (∀ (wx : World) (x : Int), Below wr.heap.size wr wx → x = ((((((((kq + 1) + 1) + 1) + 1) + 1) + 1) : Nat) : Int) → Calls Tryz.prog 105 #[.slice a6 n6 p6, .int .i64 x] wx fun e w' => e = .returned (.int .i64 ((((((((kq + 1) + 1) + 1) + 1) + 1) + 1) + cnt c6 : Nat))) ∧ Hid (Below wr.heap.size wr w')) := fun wx x hb hx => by rw [hx]; exact (uheldStringS_any (lo := lo) (hi := hi) n6 ((((((kq + 1) + 1) + 1) + 1) + 1) + 1) c6 _ wx g6 (by omega) (by omega) ((show uS wr lo hi 1 n6 (mk c6 ((((((kq + 1) + 1) + 1) + 1) + 1) + 1)) (.slice a6 n6 p6) from ⟨_, _, rfl, t6⟩).below hb)).mono fun e w' h => ⟨h.1, hb.trans (h.2.mono hb.size)⟩
      have HC8 : Hid (∀ (wx : World) (x : Int), Below wr.heap.size wr wx → x = ((((((((((kq + 1) + 1) + 1) + 1) + 1) + 1) + cnt c6) + 1) : Nat) : Int) → Calls Tryz.prog 84 #[.int .i64 x] wx fun e w' => e = .returned (.string (umtx ((((((((kq + 1) + 1) + 1) + 1) + 1) + 1) + cnt c6) + 1))) ∧ Hid (Below wr.heap.size wr w')) := fun wx x hb hx => by rw [hx]; exact (umarkText_any _ wx (by omega) (by omega)).mono fun e w' h => ⟨h.1, hb.trans (h.2.mono hb.size)⟩
      have HC10 : Hid (∀ (wx : World) (x : Int), Below wr.heap.size wr wx → x = ((((((((((((kq + 1) + 1) + 1) + 1) + 1) + 1) + cnt c6) + 1) + 1) + 1) : Nat) : Int) → Calls Tryz.prog 105 #[.slice a10 n10 p10, .int .i64 x] wx fun e w' => e = .returned (.int .i64 ((((((((((((kq + 1) + 1) + 1) + 1) + 1) + 1) + cnt c6) + 1) + 1) + 1) + cnt c10 : Nat))) ∧ Hid (Below wr.heap.size wr w')) := fun wx x hb hx => by rw [hx]; exact (uheldStringS_any (lo := lo) (hi := hi) n10 ((((((((((kq + 1) + 1) + 1) + 1) + 1) + 1) + cnt c6) + 1) + 1) + 1) c10 _ wx g10 (by omega) (by omega) ((show uS wr lo hi 1 n10 (mk c10 ((((((((((kq + 1) + 1) + 1) + 1) + 1) + 1) + cnt c6) + 1) + 1) + 1)) (.slice a10 n10 p10) from ⟨_, _, rfl, t10⟩).below hb)).mono fun e w' h => ⟨h.1, hb.trans (h.2.mono hb.size)⟩
      have HC11 : Hid (∀ (wx : World) (x : Int), Below wr.heap.size wr wx → x = (((((((((((((kq + 1) + 1) + 1) + 1) + 1) + 1) + cnt c6) + 1) + 1) + 1) + cnt c10) : Nat) : Int) → Calls Tryz.prog 106 #[.slice a11 n11 p11, .int .i64 x] wx fun e w' => e = .returned (.int .i64 (((((((((((((kq + 1) + 1) + 1) + 1) + 1) + 1) + cnt c6) + 1) + 1) + 1) + cnt c10) + cnt c11 : Nat))) ∧ Hid (Below wr.heap.size wr w')) := fun wx x hb hx => by rw [hx]; exact (uheldValueS_any (lo := lo) (hi := hi) n11 (((((((((((kq + 1) + 1) + 1) + 1) + 1) + 1) + cnt c6) + 1) + 1) + 1) + cnt c10) c11 _ wx g11 (by omega) (by omega) ((show uS wr lo hi 5 n11 (mk c11 (((((((((((kq + 1) + 1) + 1) + 1) + 1) + 1) + cnt c6) + 1) + 1) + 1) + cnt c10)) (.slice a11 n11 p11) from ⟨_, _, rfl, t11⟩).below hb)).mono fun e w' h => ⟨h.1, hb.trans (h.2.mono hb.size)⟩
      have HC13 : Hid (∀ (wx : World) (x : Int), Below wr.heap.size wr wx → x = (((((((((((((((kq + 1) + 1) + 1) + 1) + 1) + 1) + cnt c6) + 1) + 1) + 1) + cnt c10) + cnt c11) + 1) : Nat) : Int) → Calls Tryz.prog 84 #[.int .i64 x] wx fun e w' => e = .returned (.string (umtx (((((((((((((kq + 1) + 1) + 1) + 1) + 1) + 1) + cnt c6) + 1) + 1) + 1) + cnt c10) + cnt c11) + 1))) ∧ Hid (Below wr.heap.size wr w')) := fun wx x hb hx => by rw [hx]; exact (umarkText_any _ wx (by omega) (by omega)).mono fun e w' h => ⟨h.1, hb.trans (h.2.mono hb.size)⟩
      have HC15 : Hid (∀ (wx : World) (x : Int), Below wr.heap.size wr wx → x = (((((((((((((((((kq + 1) + 1) + 1) + 1) + 1) + 1) + cnt c6) + 1) + 1) + 1) + cnt c10) + cnt c11) + 1) + 1) + 1) : Nat) : Int) → Calls Tryz.prog 105 #[.slice a15 n15 p15, .int .i64 x] wx fun e w' => e = .returned (.int .i64 (((((((((((((((((kq + 1) + 1) + 1) + 1) + 1) + 1) + cnt c6) + 1) + 1) + 1) + cnt c10) + cnt c11) + 1) + 1) + 1) + cnt c15 : Nat))) ∧ Hid (Below wr.heap.size wr w')) := fun wx x hb hx => by rw [hx]; exact (uheldStringS_any (lo := lo) (hi := hi) n15 (((((((((((((((kq + 1) + 1) + 1) + 1) + 1) + 1) + cnt c6) + 1) + 1) + 1) + cnt c10) + cnt c11) + 1) + 1) + 1) c15 _ wx g15 (by omega) (by omega) ((show uS wr lo hi 1 n15 (mk c15 (((((((((((((((kq + 1) + 1) + 1) + 1) + 1) + 1) + cnt c6) + 1) + 1) + 1) + cnt c10) + cnt c11) + 1) + 1) + 1)) (.slice a15 n15 p15) from ⟨_, _, rfl, t15⟩).below hb)).mono fun e w' h => ⟨h.1, hb.trans (h.2.mono hb.size)⟩
      have HC16 : Hid (∀ (wx : World) (x : Int), Below wr.heap.size wr wx → x = ((((((((((((((((((kq + 1) + 1) + 1) + 1) + 1) + 1) + cnt c6) + 1) + 1) + 1) + cnt c10) + cnt c11) + 1) + 1) + 1) + cnt c15) : Nat) : Int) → Calls Tryz.prog 106 #[.slice a16 n16 p16, .int .i64 x] wx fun e w' => e = .returned (.int .i64 ((((((((((((((((((kq + 1) + 1) + 1) + 1) + 1) + 1) + cnt c6) + 1) + 1) + 1) + cnt c10) + cnt c11) + 1) + 1) + 1) + cnt c15) + cnt c16 : Nat))) ∧ Hid (Below wr.heap.size wr w')) := fun wx x hb hx => by rw [hx]; exact (uheldValueS_any (lo := lo) (hi := hi) n16 ((((((((((((((((kq + 1) + 1) + 1) + 1) + 1) + 1) + cnt c6) + 1) + 1) + 1) + cnt c10) + cnt c11) + 1) + 1) + 1) + cnt c15) c16 _ wx g16 (by omega) (by omega) ((show uS wr lo hi 5 n16 (mk c16 ((((((((((((((((kq + 1) + 1) + 1) + 1) + 1) + 1) + cnt c6) + 1) + 1) + 1) + cnt c10) + cnt c11) + 1) + 1) + 1) + cnt c15)) (.slice a16 n16 p16) from ⟨_, _, rfl, t16⟩).below hb)).mono fun e w' h => ⟨h.1, hb.trans (h.2.mono hb.size)⟩
      have HN := uhide hend
      clear hR hcl hm htr hsz hkn hkr hrow hend hKd Hx Ht Hkk g0 g1 g2 g3 g4 g6 g7 g8 g9 g10 g11 g12 g13 g14 g15 g16 t6 t10 t11 t15 t16
      generalize umtx (kq + 1) = M1 at *
      have E1 : (M1.toList == M1.toList) = true := by simp
      have EB5 : ((((((kq + 1) + 1) + 1) + 1) + 1) % 3 == 0) = ((((((((kq + 1) + 1) + 1) + 1) + 1) : Nat) : Int) % 3 == 0) := by rw [Bool.eq_iff_iff, beq_iff_eq, beq_iff_eq]; omega
      push_cast at EB5
      generalize cnt c6 = m6 at *
      generalize umtx ((((((((kq + 1) + 1) + 1) + 1) + 1) + 1) + m6) + 1) = M8 at *
      have E8 : (M8.toList == M8.toList) = true := by simp
      generalize cnt c10 = m10 at *
      generalize cnt c11 = m11 at *
      generalize umtx (((((((((((((kq + 1) + 1) + 1) + 1) + 1) + 1) + m6) + 1) + 1) + 1) + m10) + m11) + 1) = M13 at *
      have E13 : (M13.toList == M13.toList) = true := by simp
      generalize cnt c15 = m15 at *
      generalize cnt c16 = m16 at *
      have HB : Hid (Below wr.heap.size wr wr) := Below.refl _ _
      go_wp2_with (first
        | ((with_reducible refine wpList_load_one ?qqg170 3 ?qqx170 ?qqo170 b (off + q * 17) ?qqh170 (.int .i64 (kq : Nat)) Tryz.rObj_int (HQ0.out _ HB.out) ?_); (case qqg170 => rfl); (case qqo170 => rfl); (case qqh170 => simp [Act.eval, Act.put]))
        )
      have hq1 := HQ1.out _ HB.out
      go_region_held3 (fun w' => w'.cell? ⟨b, off + q * 17 + 1, none⟩ = some (.string M1)) (first | assumption | exact HQ1.out _ hb2.out | (simp; exact hq1) | go_keep)
        (first | (go_at_call 84; refine (HC1.out _ _ (by repeat (first | with_reducible exact HB.out | with_reducible refine Below.drew ?_ | with_reducible refine below_drewN ?_ _)) (by omega)).mono ?_; rintro e1 w2 ⟨rfl, hb2⟩))
      replace HB := hb2
      clear hq1
      go_wp2_with (first
        | ((with_reducible refine wpList_load_one ?qqg178 3 ?qqx178 ?qqo178 b (off + q * 17 + 2) ?qqh178 (.int .i64 (((kq + 1) + 1) : Nat)) Tryz.rObj_int (HQ2.out _ HB.out) ?_); (case qqg178 => rfl); (case qqo178 => rfl); (case qqh178 => simp [Act.eval, Act.put]))
        | ((with_reducible refine wpList_load_one ?qqg179 3 ?qqx179 ?qqo179 b (off + q * 17 + 3) ?qqh179 (.int .i64 ((((kq + 1) + 1) + 1) : Nat)) Tryz.rObj_int (HQ3.out _ HB.out) ?_); (case qqg179 => rfl); (case qqo179 => rfl); (case qqh179 => simp [Act.eval, Act.put]))
        | ((with_reducible refine wpList_load_one ?qqg180 3 ?qqx180 ?qqo180 b (off + q * 17 + 4) ?qqh180 (.int .i64 (((((kq + 1) + 1) + 1) + 1) : Nat)) Tryz.rObj_int (HQ4.out _ HB.out) ?_); (case qqg180 => rfl); (case qqo180 => rfl); (case qqh180 => simp [Act.eval, Act.put]))
        | ((with_reducible refine wpList_load_one ?qqg181 4 ?qqx181 ?qqo181 b (off + q * 17 + 5) ?qqh181 (.bool ((((((kq + 1) + 1) + 1) + 1) + 1) % 3 == 0)) Tryz.rObj_bool (HQ5.out _ HB.out) ?_); (case qqg181 => rfl); (case qqo181 => rfl); (case qqh181 => simp [Act.eval, Act.put]))
        | ((with_reducible refine wpList_load_one ?qqg182 23 ?qqx182 ?qqo182 b (off + q * 17 + 6) ?qqh182 (.slice a6 n6 p6) Tryz.rObj_Lstring (HQ6.out _ HB.out) ?_); (case qqg182 => rfl); (case qqo182 => rfl); (case qqh182 => simp [Act.eval, Act.put]))
        )
      refine (HC6.out _ _ HB.out (by omega)).mono ?_
      rintro e1 w9 ⟨rfl, hbn6⟩
      replace HB := hbn6
      go_wp2_with (first
        | ((with_reducible refine wpList_load_one ?qqg188 3 ?qqx188 ?qqo188 b (off + q * 17 + 7) ?qqh188 (.int .i64 ((((((((kq + 1) + 1) + 1) + 1) + 1) + 1) + m6) : Nat)) Tryz.rObj_int (HQ7.out _ HB.out) ?_); (case qqg188 => rfl); (case qqo188 => rfl); (case qqh188 => simp [Act.eval, Act.put]))
        )
      have hq8 := HQ8.out _ HB.out
      go_region_held3 (fun w' => w'.cell? ⟨b, off + q * 17 + 8, none⟩ = some (.string M8)) (first | assumption | exact HQ8.out _ hb2.out | (simp; exact hq8) | go_keep)
        (first | (go_at_call 84; refine (HC8.out _ _ (by repeat (first | with_reducible exact HB.out | with_reducible refine Below.drew ?_ | with_reducible refine below_drewN ?_ _)) (by omega)).mono ?_; rintro e1 w2 ⟨rfl, hb2⟩))
      replace HB := hb2
      clear hq8
      go_wp2_with (first
        | ((with_reducible refine wpList_load_one ?qqg196 3 ?qqx196 ?qqo196 b (off + q * 17 + 9) ?qqh196 (.int .i64 ((((((((((kq + 1) + 1) + 1) + 1) + 1) + 1) + m6) + 1) + 1) : Nat)) Tryz.rObj_int (HQ9.out _ HB.out) ?_); (case qqg196 => rfl); (case qqo196 => rfl); (case qqh196 => simp [Act.eval, Act.put]))
        | ((with_reducible refine wpList_load_one ?qqg197 23 ?qqx197 ?qqo197 b (off + q * 17 + 10) ?qqh197 (.slice a10 n10 p10) Tryz.rObj_Lstring (HQ10.out _ HB.out) ?_); (case qqg197 => rfl); (case qqo197 => rfl); (case qqh197 => simp [Act.eval, Act.put]))
        )
      refine (HC10.out _ _ HB.out (by omega)).mono ?_
      rintro e1 w13 ⟨rfl, hbn10⟩
      replace HB := hbn10
      go_wp2_with (first
        | ((with_reducible refine wpList_load_one ?qqg203 88 ?qqx203 ?qqo203 b (off + q * 17 + 11) ?qqh203 (.slice a11 n11 p11) Tryz.rObj_Limpl_Value (HQ11.out _ HB.out) ?_); (case qqg203 => rfl); (case qqo203 => rfl); (case qqh203 => simp [Act.eval, Act.put]))
        )
      refine (HC11.out _ _ HB.out (by omega)).mono ?_
      rintro e1 w14 ⟨rfl, hbn11⟩
      replace HB := hbn11
      go_wp2_with (first
        | ((with_reducible refine wpList_load_one ?qqg209 3 ?qqx209 ?qqo209 b (off + q * 17 + 12) ?qqh209 (.int .i64 (((((((((((((kq + 1) + 1) + 1) + 1) + 1) + 1) + m6) + 1) + 1) + 1) + m10) + m11) : Nat)) Tryz.rObj_int (HQ12.out _ HB.out) ?_); (case qqg209 => rfl); (case qqo209 => rfl); (case qqh209 => simp [Act.eval, Act.put]))
        )
      have hq13 := HQ13.out _ HB.out
      go_region_held3 (fun w' => w'.cell? ⟨b, off + q * 17 + 13, none⟩ = some (.string M13)) (first | assumption | exact HQ13.out _ hb2.out | (simp; exact hq13) | go_keep)
        (first | (go_at_call 84; refine (HC13.out _ _ (by repeat (first | with_reducible exact HB.out | with_reducible refine Below.drew ?_ | with_reducible refine below_drewN ?_ _)) (by omega)).mono ?_; rintro e1 w2 ⟨rfl, hb2⟩))
      replace HB := hb2
      clear hq13
      go_wp2_with (first
        | ((with_reducible refine wpList_load_one ?qqg217 3 ?qqx217 ?qqo217 b (off + q * 17 + 14) ?qqh217 (.int .i64 (((((((((((((((kq + 1) + 1) + 1) + 1) + 1) + 1) + m6) + 1) + 1) + 1) + m10) + m11) + 1) + 1) : Nat)) Tryz.rObj_int (HQ14.out _ HB.out) ?_); (case qqg217 => rfl); (case qqo217 => rfl); (case qqh217 => simp [Act.eval, Act.put]))
        | ((with_reducible refine wpList_load_one ?qqg218 23 ?qqx218 ?qqo218 b (off + q * 17 + 15) ?qqh218 (.slice a15 n15 p15) Tryz.rObj_Lstring (HQ15.out _ HB.out) ?_); (case qqg218 => rfl); (case qqo218 => rfl); (case qqh218 => simp [Act.eval, Act.put]))
        )
      refine (HC15.out _ _ HB.out (by omega)).mono ?_
      rintro e1 w18 ⟨rfl, hbn15⟩
      replace HB := hbn15
      go_wp2_with (first
        | ((with_reducible refine wpList_load_one ?qqg224 88 ?qqx224 ?qqo224 b (off + q * 17 + 16) ?qqh224 (.slice a16 n16 p16) Tryz.rObj_Limpl_Value (HQ16.out _ HB.out) ?_); (case qqg224 => rfl); (case qqo224 => rfl); (case qqh224 => simp [Act.eval, Act.put]))
        )
      refine (HC16.out _ _ HB.out (by omega)).mono ?_
      rintro e1 w19 ⟨rfl, hbn16⟩
      replace HB := hbn16
      go_wp2
      go_roundw
      case rel => exact ⟨q + 1, by omega, by go_num, by rw [HN.out]; go_num, hbw.trans (HB.out.mono hbw.size)⟩
      case measure => (simp [intOf]; omega)
    · have e : q = n := by omega
      subst e
      have hl : cs.takeN (q * 17) = cs := by apply UD.ext; unfold UD.takeN; rw [UD.toL_ofL]; exact List.take_of_length_le (Nat.le_of_eq Ht.out.2.2.2.1)
      rw [hl]
      clear hl Ht Hkk Hx
      go_wp2
      go_ret
      exact ⟨rfl, hbw⟩
end Go.Proofs.YtdnodaoeflbfkaaGreat
/- Data as cells: the helpers of the laws over Mirror. -/
namespace Go.Proofs.YtdnodaoeflbfkaaGreat
open Go.RowKit Go.BigFrame
set_option linter.unusedVariables false
set_option linter.unusedSimpArgs false

set_option maxRecDepth 20000 in
set_option maxHeartbeats 800000 in
theorem uheldMirror_any {lo hi : Nat} (d : UD) (k0 : Nat) (xs : List Value) (w : World) (ht : tyL d (uE 11)) (hk0 : 1 ≤ k0) (hk1 : k0 + cntT d ≤ 100000000) (hx : uH w lo hi (mkT d k0) xs) :
    Calls Tryz.prog 41 #[.agg xs.toArray, .int .i64 k0] w fun e w' => e = .returned (.int .i64 (k0 + cntT d : Nat)) ∧ Below w.heap.size w w' := by
  obtain ⟨z0, n1, c1, rfl, g0, g1⟩ := partsMirror ht
  obtain ⟨_, rfl, ⟨v1, _, rfl, s1, rfl⟩⟩ := hx
  obtain ⟨a1, p1, rfl, t1⟩ := s1
  simp only [cntT] at hk1
  have HC0 : Hid (∀ (wx : World) (x : Int), Below w.heap.size w wx → x = ((k0 : Nat) : Int) → Calls Tryz.prog 97 #[.slice a1 n1 p1, .int .i64 x] wx fun e w' => e = .returned (.int .i64 ((k0 + cnt c1) : Nat)) ∧ Below wx.heap.size wx w') := fun wx x hb hx => by rw [hx]; exact uheldObjS_any (lo := lo) (hi := hi) n1 k0 c1 _ wx g1 (by omega) (by omega) ((show uS w lo hi 17 n1 (mk c1 k0) (.slice a1 n1 p1) from ⟨_, _, rfl, t1⟩).below hb)
  have HE : Hid (((k0 + cnt c1) : Nat) = k0 + cntT (.p (.int .i64 z0) (.l 17 n1 c1 .nil))) := by show _ = _; simp only [cntT]; omega
  generalize k0 + cntT (.p (.int .i64 z0) (.l 17 n1 c1 .nil)) = R at *
  have HA : Hid (∀ o, Below w.heap.size w (w.alloc o)) := fun o => (Below.refl _ _).alloc (Nat.le_refl _) _
  clear g0 g1 t1
  generalize cnt c1 = m1 at *
  go_enter Tryz.func41, Tryz.ntmps41
  go_wp2_with fail
  refine (HC0.out _ _ (HA.out _) (by omega)).mono ?_
  rintro e w1 ⟨rfl, hb1⟩
  have B1 : Hid (Below w.heap.size w w1) := (HA.out _).trans (hb1.mono (by simp <;> omega))
  clear hb1
  go_wp2
  go_ret
  exact ⟨ret_intU (by have := HE.out; omega), B1.out⟩
end Go.Proofs.YtdnodaoeflbfkaaGreat
/- Data as cells: the helpers of the laws over Mirror. -/
namespace Go.Proofs.YtdnodaoeflbfkaaGreat
open Go.RowKit Go.BigFrame
set_option linter.unusedVariables false
set_option linter.unusedSimpArgs false

set_option maxRecDepth 20000 in
set_option maxHeartbeats 800000 in
theorem umarkMirror_any (d : UD) (k0 : Nat) (xs : List Value) (S : List Nat) (w : World) (ht : tyL d (uE 11)) (hnd : S.Nodup) (hk0 : 1 ≤ k0) (hk1 : k0 + cntT d ≤ 100000000) (hx : oH w d xs S) :
    Calls Tryz.prog 40 #[.agg xs.toArray, .int .i64 k0] w fun e w' => e = .returned (.int .i64 (k0 + cntT d : Nat)) ∧ oH w' (mkT d k0) xs S ∧ OutS S w w' := by
  obtain ⟨z0, n1, c1, rfl, g0, g1⟩ := partsMirror ht
  have hx' := hx
  obtain ⟨_, rfl, ⟨v1, _, _, _, rfl, _, _, ⟨_, _, o1, _⟩, ⟨rfl, _⟩⟩⟩ := hx'
  obtain ⟨a1, p1, rfl⟩ := uowns_slice o1
  clear o1
  simp only [cntT] at hk1
  have hlt := hx.lt
  have HC0 : Hid (∀ (wx : World) (x : Int), oH wx (.p (.int .i64 z0) (.l 17 n1 c1 .nil)) [.int .i64 z0, .slice a1 n1 p1] S → x = ((k0 : Nat) : Int) → Calls Tryz.prog 96 #[.slice a1 n1 p1, .int .i64 x] wx fun e w' => e = .returned (.int .i64 ((k0 + cnt c1) : Nat)) ∧ oH w' (.p (.int .i64 z0) (.l 17 n1 (mk c1 k0) .nil)) [.int .i64 z0, .slice a1 n1 p1] S ∧ OutS S wx w') := by
    intro wx x h hxx
    rw [hxx]
    obtain ⟨c', T, q1, q2, q3, q4, q5⟩ := h.part hnd 1 17 n1 c1 rfl
    cases q1
    exact (umarkObjS_any n1 k0 c1 _ T wx g1 q3 (by omega) (by omega) q2).mono fun e w' h => ⟨h.1, q5 w' _ h.2.2 h.2.1, h.2.2.mono q4⟩
  have HE : Hid (((k0 + cnt c1) : Nat) = k0 + cntT (.p (.int .i64 z0) (.l 17 n1 c1 .nil))) := by show _ = _; simp only [cntT]; omega
  have HF : Hid (∀ wx, oH wx (.p (.int .i64 z0) (.l 17 n1 (mk c1 k0) .nil)) [.int .i64 z0, .slice a1 n1 p1] S → oH wx (mkT (.p (.int .i64 z0) (.l 17 n1 c1 .nil)) k0) [.int .i64 z0, .slice a1 n1 p1] S) := fun wx h => h
  generalize k0 + cntT (.p (.int .i64 z0) (.l 17 n1 c1 .nil)) = R at *
  have H0 : Hid (∀ o, oH (w.alloc o) (.p (.int .i64 z0) (.l 17 n1 c1 .nil)) [.int .i64 z0, .slice a1 n1 p1] S) := fun o => hx.below ((Below.refl _ _).alloc (Nat.le_refl _) _)
  have HS : Hid (w.heap.size ∉ S) := fun h => by have := hlt _ h; omega
  have HO : Hid (∀ o w', OutS S (w.alloc o) w' → OutS S w w') := fun o w' h => (OutS.of_below ((Below.refl _ _).alloc (Nat.le_refl _) _)).trans h
  clear ht hx hlt hnd g0 g1
  go_enter Tryz.func40, Tryz.ntmps40
  go_wp2_with fail
  refine (HC0.out _ _ (H0.out _) (by omega)).mono ?_
  rintro e w1 ⟨rfl, h1, ho1⟩
  have I1 := uhide h1
  have B1 : Hid (OutS S w w1) := HO.out _ _ ho1
  clear h1 ho1
  go_wp2
  go_ret
  exact ⟨ret_intU (by have := HE.out; omega), HF.out _ I1.out, B1.out⟩
end Go.Proofs.YtdnodaoeflbfkaaGreat
