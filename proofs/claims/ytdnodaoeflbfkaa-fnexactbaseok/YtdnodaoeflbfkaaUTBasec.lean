/- Data as cells: the helpers of the laws over Base. -/
import Derived.Test.YtdnodaoeflbfkaaULeaf
import Derived.Test.YtdnodaoeflbfkaaULd
import Derived.Test.YtdnodaoeflbfkaaUFBase
import Derived.Test.YtdnodaoeflbfkaaUTObjc
import Derived.Test.YtdnodaoeflbfkaaUTChangec
namespace Go.Proofs.Ytdnodaoeflbfkaa
open Go.RowKit Go.BigFrame
set_option linter.unusedVariables false
set_option linter.unusedSimpArgs false

set_option maxRecDepth 20000 in
set_option maxHeartbeats 3200000 in
theorem utoBase_any {lo hi : Nat} (d : UD) (xs : List Value) (w : World) (ht : tyL d (uE 10)) (hn : wt d ≤ 1048576) (hx : uH w lo hi d xs) :
    Calls Try.prog 30 #[.agg xs.toArray] w fun e w' => ∃ ys S, e = .returned (.agg ys.toArray) ∧ oH w' d ys S ∧ S.Nodup ∧ (∀ s ∈ S, w.heap.size ≤ s) ∧ Below w.heap.size w w' := by
  have hty := ht
  replace ht : tyL d [.l 17 8, .i .i64, .i .i64, .l 19 9] := ht
  obtain ⟨n0, c0, _, rfl, g0, h0⟩ := tyL.l ht
  obtain ⟨z1, _, rfl, g1, h1⟩ := tyL.i h0
  clear h0
  obtain ⟨z2, _, rfl, g2, h2⟩ := tyL.i h1
  clear h1
  obtain ⟨n3, c3, _, rfl, g3, h3⟩ := tyL.l h2
  clear h2
  obtain rfl := tyL.nil h3
  clear h3
  obtain ⟨v0, _, rfl, s0, h0⟩ := hx
  obtain ⟨_, rfl, h1⟩ := h0
  obtain ⟨_, rfl, h2⟩ := h1
  obtain ⟨v3, _, rfl, s3, h3⟩ := h2
  obtain rfl := h3
  simp only [wt, wtP] at hn
  generalize hD : (UD.l 17 n0 c0 (UD.p (.int .i64 z1) (UD.p (.int .i64 z2) (UD.l 19 n3 c3 UD.nil)))) = D at hty ⊢
  have HD := uhide hD
  clear hD
  have HC0 : Hid (∀ wx : World, Below w.heap.size w wx → Calls Try.prog 89 #[v0] wx fun e w' => ∃ a p T, e = .returned (.slice a n0 p) ∧ Hid (oS w' 17 n0 c0 (.slice a n0 p) T) ∧ Hid (own2 T wx.heap.size w'.heap.size) ∧ Below wx.heap.size wx w') := fun wx hb => (utoObjS_any (lo := lo) (hi := hi) n0 c0 _ wx g0 (by omega) (s0.below hb)).mono fun e w' ⟨c', T, h1, h2, h3, h4, h5⟩ => by
    obtain ⟨a, p, rfl⟩ := h2.slice
    exact ⟨a, p, T, h1, h2, ⟨h3, fun s hs => ⟨h4 s hs, h2.lt s hs⟩⟩, h5⟩
  have HC3 : Hid (∀ wx : World, Below w.heap.size w wx → Calls Try.prog 90 #[v3] wx fun e w' => ∃ a p T, e = .returned (.slice a n3 p) ∧ Hid (oS w' 19 n3 c3 (.slice a n3 p) T) ∧ Hid (own2 T wx.heap.size w'.heap.size) ∧ Below wx.heap.size wx w') := fun wx hb => (utoChangeS_any (lo := lo) (hi := hi) n3 c3 _ wx g3 (by omega) (s3.below hb)).mono fun e w' ⟨c', T, h1, h2, h3, h4, h5⟩ => by
    obtain ⟨a, p, rfl⟩ := h2.slice
    exact ⟨a, p, T, h1, h2, ⟨h3, fun s hs => ⟨h4 s hs, h2.lt s hs⟩⟩, h5⟩
  obtain ⟨AX, hAX⟩ : ∃ AX : List Value, AX = (v0 :: (Value.int .i64 z1 :: (Value.int .i64 z2 :: (v3 :: [])))) := ⟨_, rfl⟩
  rw [← hAX]
  have hlen : AX.length = 4 := by rw [hAX]; simp
  have e0 : AX[0]? = some (v0) := at_mid (i := 0) (pre := (([] : List Value))) (ys := [v0]) (post := (Value.int .i64 z1 :: (Value.int .i64 z2 :: (v3 :: [])))) (by rw [hAX]; simp) (by simp) rfl
  have e1 : AX[1]? = some (.int .i64 z1) := at_mid (i := 0) (pre := ([v0])) (ys := [.int .i64 z1]) (post := (Value.int .i64 z2 :: (v3 :: []))) (by rw [hAX]; simp) (by simp) rfl
  have e2 : AX[2]? = some (.int .i64 z2) := at_mid (i := 0) (pre := ([v0, Value.int .i64 z1])) (ys := [.int .i64 z2]) (post := (v3 :: [])) (by rw [hAX]; simp) (by simp) rfl
  have e3 : AX[3]? = some (v3) := at_mid (i := 0) (pre := ([v0, Value.int .i64 z1, Value.int .i64 z2])) (ys := [v3]) (post := []) (by rw [hAX]; simp) (by simp) rfl
  clear hAX
  have HTY := uhide hty
  clear hty
  clear hn g0 s0 g1 g2 g3 s3
  have E0 := uhide e0
  have E1 := uhide e1
  have E2 := uhide e2
  have E3 := uhide e3
  clear e0 e1 e2 e3
  have BZ0 : Hid (0 + 1 ≤ ([.slice none 0 0, .int .i64 0, .int .i64 0, .slice none 0 0] : List Value).length) := by show _ ≤ _; decide
  have BZ1 : Hid (1 + 1 ≤ ([.slice none 0 0, .int .i64 0, .int .i64 0, .slice none 0 0] : List Value).length) := by show _ ≤ _; decide
  have BZ2 : Hid (2 + 1 ≤ ([.slice none 0 0, .int .i64 0, .int .i64 0, .slice none 0 0] : List Value).length) := by show _ ≤ _; decide
  have BZ3 : Hid (3 + 1 ≤ ([.slice none 0 0, .int .i64 0, .int .i64 0, .slice none 0 0] : List Value).length) := by show _ ≤ _; decide
  have C := uhide (CP.start (w := w) (TA := 61) (TO := 67) (AX := AX) (Z := [.slice none 0 0, .int .i64 0, .int .i64 0, .slice none 0 0]))
  go_enter Try.func30, Try.ntmps30
  go_wp2_with (first
    | ((with_reducible refine wpList_load_one ?qqg64 58 ?qqx64 ?qqo64 w.heap.size 0 ?qqh64 (v0) Try.rBase_Llaws_Obj (C.out.cell E0.out) ?_); (case qqg64 => rfl); (case qqo64 => rfl); (case qqh64 => simp [Act.eval, Act.put]))
    )
  refine (HC0.out _ C.out.bel).mono ?_
  rintro e w1 ⟨a0r, p0r, T0, rfl, O0, W0, hb0⟩
  have D := uhide (C.out.below hb0)
  have HB0 := uhide hb0
  clear hb0
  go_wp2_with (first
    | ((with_reducible refine wpList_store_v ?qqg72 64 ?qqx72 ?qqy72 ?qqo72 ?qqd72 (w.heap.size + 1 + 1) 0 ?qqh72 (.slice a0r n0 p0r) ?qqv72 one_slice Try.zBase_Limpl_Obj (D.out.there 1 BZ0.out) ?_); (case qqg72 => rfl); (case qqo72 => rfl); (case qqd72 => rfl); (case qqh72 => simp [Act.eval, Act.put]); (case qqv72 => simp [Act.eval, Act.put]); intro wy ey; replace C := uhide (C.out.list HB0.out O0.out W0.out ey (j' := 1) rfl (by decide)); clear ey D HB0 O0 W0)
    | ((with_reducible refine wpList_load_one ?qqg73 3 ?qqx73 ?qqo73 w.heap.size 1 ?qqh73 (.int .i64 z1) Try.rBase_int (C.out.cell E1.out) ?_); (case qqg73 => rfl); (case qqo73 => rfl); (case qqh73 => simp [Act.eval, Act.put]))
    | ((with_reducible refine wpList_store_v ?qqg74 3 ?qqx74 ?qqy74 ?qqo74 ?qqd74 (w.heap.size + 1 + 1) 1 ?qqh74 (.int .i64 z1) ?qqv74 one_int Try.zBase_int (C.out.there 1 BZ1.out) ?_); (case qqg74 => rfl); (case qqo74 => rfl); (case qqd74 => rfl); (case qqh74 => simp [Act.eval, Act.put]); (case qqv74 => simp [Act.eval, Act.put]); intro wy ey; replace C := uhide (C.out.plain ey (j' := 2) rfl (by decide)); clear ey)
    | ((with_reducible refine wpList_load_one ?qqg75 3 ?qqx75 ?qqo75 w.heap.size 2 ?qqh75 (.int .i64 z2) Try.rBase_int (C.out.cell E2.out) ?_); (case qqg75 => rfl); (case qqo75 => rfl); (case qqh75 => simp [Act.eval, Act.put]))
    | ((with_reducible refine wpList_store_v ?qqg76 3 ?qqx76 ?qqy76 ?qqo76 ?qqd76 (w.heap.size + 1 + 1) 2 ?qqh76 (.int .i64 z2) ?qqv76 one_int Try.zBase_int (C.out.there 1 BZ2.out) ?_); (case qqg76 => rfl); (case qqo76 => rfl); (case qqd76 => rfl); (case qqh76 => simp [Act.eval, Act.put]); (case qqv76 => simp [Act.eval, Act.put]); intro wy ey; replace C := uhide (C.out.plain ey (j' := 3) rfl (by decide)); clear ey)
    | ((with_reducible refine wpList_load_one ?qqg77 59 ?qqx77 ?qqo77 w.heap.size 3 ?qqh77 (v3) Try.rBase_Llaws_Change (C.out.cell E3.out) ?_); (case qqg77 => rfl); (case qqo77 => rfl); (case qqh77 => simp [Act.eval, Act.put]))
    )
  refine (HC3.out _ C.out.bel).mono ?_
  rintro e w2 ⟨a3r, p3r, T3, rfl, O3, W3, hb3⟩
  have D := uhide (C.out.below hb3)
  have HB3 := uhide hb3
  clear hb3
  have FZ0 : Hid (∀ l : List Value, l.length = 4 → Hid ((Try.prog.info? 67).map (·.size) = some l.length)) := fun l h => by show _ = _; rw [h]; exact Try.zBase_impl_Base
  have HZL : Hid (4 = ([.slice none 0 0, .int .i64 0, .int .i64 0, .slice none 0 0] : List Value).length) := by show _ = _; decide
  go_wp2_with (first
    | ((with_reducible refine wpList_store_v ?qqg87 65 ?qqx87 ?qqy87 ?qqo87 ?qqd87 (w.heap.size + 1 + 1) 3 ?qqh87 (.slice a3r n3 p3r) ?qqv87 one_slice Try.zBase_Limpl_Change (D.out.there 1 BZ3.out) ?_); (case qqg87 => rfl); (case qqo87 => rfl); (case qqd87 => rfl); (case qqh87 => simp [Act.eval, Act.put]); (case qqv87 => simp [Act.eval, Act.put]); intro wy ey; replace C := uhide (C.out.list HB3.out O3.out W3.out ey (j' := 4) rfl (by decide)); clear ey D HB3 O3 W3; obtain ⟨dn, S, RG, hl, TH, hod, HF⟩ := C.out.fin (D := D) (by rw [← HD.out]; apply UD.ext; simp only [UD.app_toL, UD.toL, List.cons_append, List.nil_append]) HZL.out; have FZ := FZ0.out dn hl; have ON := uhide (ones_own HTY.out hod); have HFF := uhide HF; clear C hod HF)
    | ((with_reducible refine wpList_load_row2 ?qqg88 67 ?qqx88 ?qqo88 (w.heap.size + 1 + 1) 0 ?qqh88 dn Try.rBase_impl_Base FZ.out RG.out ?_); (case qqg88 => rfl); (case qqo88 => rfl); (case qqh88 => simp [Act.eval, Act.put]))
    | ((with_reducible refine wpList_store_cells ?qqg89 67 ?qqx89 ?qqy89 ?qqo89 ?qqd89 (w.heap.size + 1) 0 ?qqh89 (.agg dn.toArray) ?qqv89 dn cells_agg ON.out FZ.out TH.out ?_); (case qqg89 => rfl); (case qqo89 => rfl); (case qqd89 => rfl); (case qqh89 => simp [Act.eval, Act.put]); (case qqv89 => simp [Act.eval, Act.put]); intro wy ey; have HG := uhide (HFF.out wy ey); clear ey HFF)
    )
  obtain ⟨HO, h1, h2, h3, h4⟩ := HG.out
  refine bodyPost_ret (v := .agg dn.toArray) ?_ rfl ⟨dn, S, rfl, ?_, h2, h3, h4⟩
  · exact results_row rfl _ _ (w.heap.size + 1) _ _ (by simp [Act.put]) HO Try.rBase_impl_Base (by rw [hl]; exact Try.zBase_impl_Base)
  · exact h1
end Go.Proofs.Ytdnodaoeflbfkaa
