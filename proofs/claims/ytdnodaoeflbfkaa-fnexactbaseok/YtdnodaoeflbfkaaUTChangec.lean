/- Data as cells: the helpers of the laws over Change. -/
import Derived.Test.YtdnodaoeflbfkaaULeaf
import Derived.Test.YtdnodaoeflbfkaaULd
import Derived.Test.YtdnodaoeflbfkaaUFChange
import Derived.Test.YtdnodaoeflbfkaaUTObjc
namespace Go.Proofs.Ytdnodaoeflbfkaa
open Go.RowKit Go.BigFrame
set_option linter.unusedVariables false
set_option linter.unusedSimpArgs false

set_option maxRecDepth 20000 in
set_option maxHeartbeats 3200000 in
theorem utoChange_any {lo hi : Nat} (d : UD) (xs : List Value) (w : World) (ht : tyL d (uE 9)) (hn : wt d ≤ 1048576) (hx : uH w lo hi d xs) :
    Calls Try.prog 165 #[.agg xs.toArray] w fun e w' => ∃ ys S, e = .returned (.agg ys.toArray) ∧ oH w' d ys S ∧ S.Nodup ∧ (∀ s ∈ S, w.heap.size ≤ s) ∧ Below w.heap.size w w' := by
  have hty := ht
  replace ht : tyL d [.i .i64, .b, .i .i64, .s, .i .i64, .i .i64, .i .i64, .b, .l 1 0, .i .i64, .s, .i .i64, .l 1 0, .l 5 6, .i .i64, .s, .i .i64, .l 1 0, .l 5 6] := ht
  obtain ⟨z0, _, rfl, g0, h0⟩ := tyL.i ht
  obtain ⟨z1, _, rfl, h1⟩ := tyL.b h0
  clear h0
  obtain ⟨d2, _, rfl, g2, h2⟩ := tyL.split (f1 := uE 8) (f2 := []) h1
  clear h1
  obtain rfl := tyL.nil h2
  clear h2
  obtain ⟨_, rfl, h0⟩ := hx
  obtain ⟨_, rfl, h1⟩ := h0
  obtain ⟨y2, _, rfl, l2, s2, h2⟩ := uH.split h1
  replace l2 : y2.length = 17 := l2.trans (tyL.len g2)
  clear h1
  obtain rfl := h2
  simp only [wt, wtP, wt_app] at hn
  generalize hD : (UD.p (.int .i64 z0) (UD.p (.bool z1) (UD.app d2 UD.nil))) = D at hty ⊢
  have HD := uhide hD
  clear hD
  have HC2 : Hid (∀ wx : World, Below w.heap.size w wx → Calls Try.prog 164 #[.agg y2.toArray] wx fun e w' => ∃ ys T, e = .returned (.agg ys.toArray) ∧ ys.length = 17 ∧ Hid (oH w' d2 ys T) ∧ Hid (own2 T wx.heap.size w'.heap.size) ∧ Hid (∀ u ∈ ys, u.oneCell' = true) ∧ Below wx.heap.size wx w') := fun wx hb => (utoObj_any (lo := lo) (hi := hi) d2 _ wx g2 (by omega) (s2.below hb)).mono fun e w' ⟨ys, T, h1, h2, h3, h4, h5⟩ => ⟨ys, T, h1, h2.len.trans (tyL.len g2), h2, ⟨h3, fun s hs => ⟨h4 s hs, h2.lt _ _ _ s hs⟩⟩, ones_own g2 h2, h5⟩
  obtain ⟨AX, hAX⟩ : ∃ AX : List Value, AX = (Value.int .i64 z0 :: (Value.bool z1 :: ((y2 ++ [])))) := ⟨_, rfl⟩
  rw [← hAX]
  have hlen : AX.length = 19 := by rw [hAX]; simp [l2]
  have e0 : AX[0]? = some (.int .i64 z0) := at_mid (i := 0) (pre := (([] : List Value))) (ys := [.int .i64 z0]) (post := (Value.bool z1 :: ((y2 ++ [])))) (by rw [hAX]; simp) (by simp) rfl
  have e1 : AX[1]? = some (.bool z1) := at_mid (i := 0) (pre := ([Value.int .i64 z0])) (ys := [.bool z1]) (post := ((y2 ++ []))) (by rw [hAX]; simp) (by simp) rfl
  have e2 : ∀ i v, y2[i]? = some v → AX[2 + i]? = some v := fun i v h => at_mid (pre := ([Value.int .i64 z0, Value.bool z1])) (ys := y2) (post := []) (by rw [hAX]; simp) (by simp) h
  clear hAX
  have HTY := uhide hty
  clear hty
  clear hn g0 g2 s2
  have E0 := uhide e0
  have E1 := uhide e1
  have E2 := uhide e2
  clear e0 e1 e2
  have BZ0 : Hid (0 + 1 ≤ ([.int .i64 0, .bool false, .int .i64 0, .string ⟨#[]⟩, .int .i64 0, .int .i64 0, .int .i64 0, .bool false, .slice none 0 0, .int .i64 0, .string ⟨#[]⟩, .int .i64 0, .slice none 0 0, .slice none 0 0, .int .i64 0, .string ⟨#[]⟩, .int .i64 0, .slice none 0 0, .slice none 0 0] : List Value).length) := by show _ ≤ _; decide
  have BZ1 : Hid (1 + 1 ≤ ([.int .i64 0, .bool false, .int .i64 0, .string ⟨#[]⟩, .int .i64 0, .int .i64 0, .int .i64 0, .bool false, .slice none 0 0, .int .i64 0, .string ⟨#[]⟩, .int .i64 0, .slice none 0 0, .slice none 0 0, .int .i64 0, .string ⟨#[]⟩, .int .i64 0, .slice none 0 0, .slice none 0 0] : List Value).length) := by show _ ≤ _; decide
  have BZ2 : Hid (2 + 17 ≤ ([.int .i64 0, .bool false, .int .i64 0, .string ⟨#[]⟩, .int .i64 0, .int .i64 0, .int .i64 0, .bool false, .slice none 0 0, .int .i64 0, .string ⟨#[]⟩, .int .i64 0, .slice none 0 0, .slice none 0 0, .int .i64 0, .string ⟨#[]⟩, .int .i64 0, .slice none 0 0, .slice none 0 0] : List Value).length) := by show _ ≤ _; decide
  have YZ2 : Hid ((Try.prog.info? 221).map (·.size) = some y2.length) := by show _ = _; rw [l2]; exact Try.zChange_laws_Obj
  clear l2
  have C := uhide (CP.start (w := w) (TA := 224) (TO := 138) (AX := AX) (Z := [.int .i64 0, .bool false, .int .i64 0, .string ⟨#[]⟩, .int .i64 0, .int .i64 0, .int .i64 0, .bool false, .slice none 0 0, .int .i64 0, .string ⟨#[]⟩, .int .i64 0, .slice none 0 0, .slice none 0 0, .int .i64 0, .string ⟨#[]⟩, .int .i64 0, .slice none 0 0, .slice none 0 0]))
  go_enter Try.func165, Try.ntmps165
  go_wp2_with (first
    | ((with_reducible refine wpList_load_one ?qqg56 3 ?qqx56 ?qqo56 w.heap.size 0 ?qqh56 (.int .i64 z0) Try.rChange_int (C.out.cell E0.out) ?_); (case qqg56 => rfl); (case qqo56 => rfl); (case qqh56 => simp [Act.eval, Act.put]))
    | ((with_reducible refine wpList_store_v ?qqg57 3 ?qqx57 ?qqy57 ?qqo57 ?qqd57 (w.heap.size + 1 + 1) 0 ?qqh57 (.int .i64 z0) ?qqv57 one_int Try.zChange_int (C.out.there 1 BZ0.out) ?_); (case qqg57 => rfl); (case qqo57 => rfl); (case qqd57 => rfl); (case qqh57 => simp [Act.eval, Act.put]); (case qqv57 => simp [Act.eval, Act.put]); intro wy ey; replace C := uhide (C.out.plain ey (j' := 1) rfl (by decide)); clear ey)
    | ((with_reducible refine wpList_load_one ?qqg58 4 ?qqx58 ?qqo58 w.heap.size 1 ?qqh58 (.bool z1) Try.rChange_bool (C.out.cell E1.out) ?_); (case qqg58 => rfl); (case qqo58 => rfl); (case qqh58 => simp [Act.eval, Act.put]))
    | ((with_reducible refine wpList_store_v ?qqg59 4 ?qqx59 ?qqy59 ?qqo59 ?qqd59 (w.heap.size + 1 + 1) 1 ?qqh59 (.bool z1) ?qqv59 one_bool Try.zChange_bool (C.out.there 1 BZ1.out) ?_); (case qqg59 => rfl); (case qqo59 => rfl); (case qqd59 => rfl); (case qqh59 => simp [Act.eval, Act.put]); (case qqv59 => simp [Act.eval, Act.put]); intro wy ey; replace C := uhide (C.out.plain ey (j' := 2) rfl (by decide)); clear ey)
    | ((with_reducible refine wpList_load_row2 ?qqg60 221 ?qqx60 ?qqo60 w.heap.size 2 ?qqh60 y2 Try.rChange_laws_Obj YZ2.out (C.out.range E2.out) ?_); (case qqg60 => rfl); (case qqo60 => rfl); (case qqh60 => simp [Act.eval, Act.put]))
    )
  refine (HC2.out _ C.out.bel).mono ?_
  rintro e w1 ⟨y2r, T2, rfl, L2r, O2, W2, U2, hb2⟩
  have D := uhide (C.out.below hb2)
  have SZ : Hid ((Try.prog.info? 136).map (·.size) = some y2r.length) := by show _ = _; rw [L2r]; exact Try.zChange_impl_Obj
  have TH : Hid (w1.there (w.heap.size + 1 + 1) 2 y2r.length) := by rw [L2r]; exact D.out.there 17 BZ2.out
  have HB2 := uhide hb2
  clear hb2
  have FZ0 : Hid (∀ l : List Value, l.length = 19 → Hid ((Try.prog.info? 138).map (·.size) = some l.length)) := fun l h => by show _ = _; rw [h]; exact Try.zChange_impl_Change
  have HZL : Hid (19 = ([.int .i64 0, .bool false, .int .i64 0, .string ⟨#[]⟩, .int .i64 0, .int .i64 0, .int .i64 0, .bool false, .slice none 0 0, .int .i64 0, .string ⟨#[]⟩, .int .i64 0, .slice none 0 0, .slice none 0 0, .int .i64 0, .string ⟨#[]⟩, .int .i64 0, .slice none 0 0, .slice none 0 0] : List Value).length) := by show _ = _; decide
  go_wp2_with (first
    | ((with_reducible refine wpList_store_cells ?qqg72 136 ?qqx72 ?qqy72 ?qqo72 ?qqd72 (w.heap.size + 1 + 1) 2 ?qqh72 (.agg y2r.toArray) ?qqv72 y2r cells_agg U2.out SZ.out TH.out ?_); (case qqg72 => rfl); (case qqo72 => rfl); (case qqd72 => rfl); (case qqh72 => simp [Act.eval, Act.put]); (case qqv72 => simp [Act.eval, Act.put]); intro wy ey; replace C := uhide (C.out.step HB2.out O2.out W2.out ey (j' := 19) (by rw [L2r]) (by decide)); clear ey D SZ TH HB2 O2 W2; obtain ⟨dn, S, RG, hl, TH, hod, HF⟩ := C.out.fin (D := D) (by rw [← HD.out]; apply UD.ext; simp only [UD.app_toL, UD.toL, List.cons_append, List.nil_append, List.append_nil]) HZL.out; have FZ := FZ0.out dn hl; have ON := uhide (ones_own HTY.out hod); have HFF := uhide HF; clear C hod HF)
    | ((with_reducible refine wpList_load_row2 ?qqg73 138 ?qqx73 ?qqo73 (w.heap.size + 1 + 1) 0 ?qqh73 dn Try.rChange_impl_Change FZ.out RG.out ?_); (case qqg73 => rfl); (case qqo73 => rfl); (case qqh73 => simp [Act.eval, Act.put]))
    | ((with_reducible refine wpList_store_cells ?qqg74 138 ?qqx74 ?qqy74 ?qqo74 ?qqd74 (w.heap.size + 1) 0 ?qqh74 (.agg dn.toArray) ?qqv74 dn cells_agg ON.out FZ.out TH.out ?_); (case qqg74 => rfl); (case qqo74 => rfl); (case qqd74 => rfl); (case qqh74 => simp [Act.eval, Act.put]); (case qqv74 => simp [Act.eval, Act.put]); intro wy ey; have HG := uhide (HFF.out wy ey); clear ey HFF)
    )
  obtain ⟨HO, h1, h2, h3, h4⟩ := HG.out
  refine bodyPost_ret (v := .agg dn.toArray) ?_ rfl ⟨dn, S, rfl, ?_, h2, h3, h4⟩
  · exact results_row rfl _ _ (w.heap.size + 1) _ _ (by simp [Act.put]) HO Try.rChange_impl_Change (by rw [hl]; exact Try.zChange_impl_Change)
  · exact h1
theorem Try.infoUChange : (Try.prog.info? 138).map (fun i => (i.zero, i.size, decide (i.bytes ≤ 1000))) = some (some (.agg #[.int .i64 0, .bool false, .int .i64 0, .string ByteArray.empty, .int .i64 0, .int .i64 0, .int .i64 0, .bool false, .slice none 0 0, .int .i64 0, .string ByteArray.empty, .int .i64 0, .slice none 0 0, .slice none 0 0, .int .i64 0, .string ByteArray.empty, .int .i64 0, .slice none 0 0, .slice none 0 0]), 19, true) := by kernel_rfl
set_option maxRecDepth 20000 in
set_option maxHeartbeats 1600000 in
theorem utoChangeS_any {lo hi : Nat} (n : Nat) (cs : UD) (c : Value) (w : World) (ht : tyS 19 n cs 9) (hn : n + wt cs ≤ 1048576) (hx : uS w lo hi 19 n cs c) :
    Calls Try.prog 90 #[c] w fun e w' => ∃ c' S, e = .returned c' ∧ oS w' 19 n cs c' S ∧ S.Nodup ∧ (∀ s ∈ S, w.heap.size ≤ s) ∧ Below w.heap.size w w' := by
  obtain ⟨i0, hinf, hz0, hz1, hz2⟩ : ∃ i, Try.prog.info? 138 = some i ∧ i.zero = some (.agg #[.int .i64 0, .bool false, .int .i64 0, .string ByteArray.empty, .int .i64 0, .int .i64 0, .int .i64 0, .bool false, .slice none 0 0, .int .i64 0, .string ByteArray.empty, .int .i64 0, .slice none 0 0, .slice none 0 0, .int .i64 0, .string ByteArray.empty, .int .i64 0, .slice none 0 0, .slice none 0 0]) ∧ i.size = 19 ∧ i.bytes ≤ 1000 := by
    have h := Try.infoUChange
    cases e : Try.prog.info? 138 with
    | none => rw [e] at h; cases h
    | some i => rw [e] at h; simp at h; exact ⟨i, rfl, h.1, h.2.1, h.2.2⟩
  obtain ⟨a, cap, rfl, hx2⟩ := hx
  have Hx : Hid (uS w lo hi 19 n cs (.slice a n cap)) := ⟨a, cap, rfl, hx2⟩
  have Ht := uhide ht
  have Hn : Hid (∀ q, q < n → wt (rowU cs 19 q) ≤ 1048576) := fun q hq => by have := wt_row cs 19 q; omega
  have hnn : n ≤ 1048576 := by omega
  have hbb : i0.bytes * n ≤ 281474976710656 := Nat.le_trans (Nat.mul_le_mul hz2 hnn) (by decide)
  clear hx2 ht hn
  go_enter Try.func90, Try.ntmps90
  go_wp2_with (at_make; refine wpList_make_full _ rfl _ _ 65 rfl w.heap.size 138 i0 _ 19 Try.underlying65 hinf hz0 hz1 _ _ _ _ n rfl rfl rfl rfl hbb (by unfold maxLen; omega) (Nat.le_refl _) ?_; intro w1 hown hgrow)
  have T0 := uhide (TS.start (cs := cs) hown (Below.grown (Below.refl _ _) hgrow (Nat.le_refl _) (fun k hk => by cases hk)))
  clear hown hgrow
  go_loopw [4] (fun i wr => ∃ (q : Nat), q ≤ n ∧ i = .int .i64 q ∧ Hid (TS w wr 138 19 n cs q)) (fun i _ => n - (intOf i).toNat)
  case atStart => exact ⟨0, Nat.zero_le _, rfl, T0⟩
  case round =>
    clear T0
    obtain ⟨q, hq, rfl, HT⟩ := hrel
    by_cases hlt : q < n
    · obtain ⟨b, off, rfl, hbk, hm⟩ := (Hx.out.below HT.out.bel).cells (by omega)
      have htr := Ht.out.row hlt
      have hwr := Hn.out q hlt
      obtain ⟨xs, hh, hcl⟩ := (hm.row 19 q).hand
      have hxl : xs.length = 19 := by rw [hh.len, tyL.len htr]; rfl
      have Hcon : Hid (∀ wx, Below wr.heap.size wr wx → Calls Try.prog 165 #[.agg xs.toArray] wx fun e w' => ∃ ys S, e = .returned (.agg ys.toArray) ∧ Hid (oH w' (rowU cs 19 q) ys S) ∧ Hid S.Nodup ∧ Hid (∀ s ∈ S, wx.heap.size ≤ s) ∧ Hid (ys.length = 19) ∧ Hid (∀ u ∈ ys, u.oneCell' = true) ∧ Hid (Below wx.heap.size wx w')) := fun wx hb => (utoChange_any (lo := lo) (hi := hi) _ _ wx htr hwr (hh.below hb)).mono fun e w' ⟨ys, S, h1, h2, h3, h4, h5⟩ => ⟨ys, S, h1, h2, h3, h4, h2.len.trans (tyL.len htr), ones_own htr h2, h5⟩
      have RG : Hid (wr.rangeAt b (off + q * 19) xs) := hcl
      have FZ : Hid ((Try.prog.info? 224).map (·.size) = some xs.length) := by show _ = _; rw [hxl]; exact Try.zChange_laws_Change
      have hKn : q * 19 + 19 ≤ n * 19 := by have := Nat.mul_le_mul_right 19 (show q + 1 ≤ n by omega); rw [Nat.succ_mul] at this; exact this
      clear hcl hm htr hwr hh hxl
      go_wp2_with (first
        | ((with_reducible refine wpList_load_row2 ?qqg120 224 ?qqx120 ?qqo120 b (off + q * 19) ?qqh120 xs Try.rChange_laws_Change FZ.out RG.out ?_); (case qqg120 => rfl); (case qqo120 => rfl); (case qqh120 => simp [Act.eval, Act.put]))
        )
      refine (Hcon.out _ (Below.refl _ _)).mono ?_
      rintro e w2 ⟨ys, S, rfl, ho, hnd, hS, hyl, hone, hb2⟩
      have TH : Hid (w2.there w.heap.size (q * 19) ys.length) := by rw [hyl.out]; exact (HT.out.below hb2.out).there _ _ hKn
      have FY : Hid ((Try.prog.info? 138).map (·.size) = some ys.length) := by show _ = _; rw [hyl.out]; exact Try.zChange_impl_Change
      go_wp2_with (first
        | ((with_reducible refine wpList_store_cells ?qqg127 138 ?qqx127 ?qqy127 ?qqo127 ?qqd127 w.heap.size (q * 19) ?qqh127 (.agg ys.toArray) ?qqv127 ys cells_agg hone.out FY.out TH.out ?_); (case qqg127 => rfl); (case qqo127 => rfl); (case qqd127 => rfl); (case qqh127 => simp [Act.eval, Act.put]); (case qqv127 => simp [Act.eval, Act.put]); intro wy ey; have T1 := uhide (HT.out.row hb2.out ho.out hnd.out hS.out Ht.out.2.2.2.1 hlt ey); clear ey)
        )
      go_roundw
      case rel => exact ⟨q + 1, by omega, by go_num, T1⟩
      case measure => simp [intOf]; omega
    · have e : q = n := by omega
      subst e
      obtain ⟨S, h1, h2, h3, h4⟩ := HT.out.done (by decide) Ht.out.2.2.2.1
      have HS : Hid (oS wr 19 q cs (.slice (some ⟨w.heap.size, 0, none⟩) q q) S ∧ S.Nodup ∧ (∀ s ∈ S, w.heap.size ≤ s) ∧ Below w.heap.size w wr) := ⟨h1, h2, h3, h4⟩
      clear h1 h2 h3 h4
      go_wp2
      go_ret
      exact ⟨_, S, rfl, HS.out⟩
end Go.Proofs.Ytdnodaoeflbfkaa
