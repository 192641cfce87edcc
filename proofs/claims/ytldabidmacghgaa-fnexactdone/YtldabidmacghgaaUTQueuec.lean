/- Data as cells: the helpers of the laws over Queue. -/
import Derived.Test.YtldabidmacghgaaULeaf
import Derived.Test.YtldabidmacghgaaULd
import Derived.Test.YtldabidmacghgaaUFQueue
import Derived.Test.YtldabidmacghgaaUTItem
namespace Go.Proofs.Ytldabidmacghgaa
open Go.RowKit Go.BigFrame
set_option linter.unusedVariables false
set_option linter.unusedSimpArgs false

set_option maxRecDepth 20000 in
set_option maxHeartbeats 3200000 in
theorem utoQueue_any {lo hi : Nat} (d : UD) (xs : List Value) (w : World) (ht : tyL d (uE 13)) (hn : wt d ≤ 1048576) (hx : uH w lo hi d xs) :
    Calls Try.prog 24 #[.agg xs.toArray] w fun e w' => ∃ ys S, e = .returned (.agg ys.toArray) ∧ oH w' d ys S ∧ S.Nodup ∧ (∀ s ∈ S, w.heap.size ≤ s) ∧ Below w.heap.size w w' := by
  have hty := ht
  replace ht : tyL d [.l 3 12, .l 3 12, .l 1 0, .i .i64] := ht
  obtain ⟨n0, c0, _, rfl, g0, h0⟩ := tyL.l ht
  obtain ⟨n1, c1, _, rfl, g1, h1⟩ := tyL.l h0
  clear h0
  obtain ⟨n2, c2, _, rfl, g2, h2⟩ := tyL.l h1
  clear h1
  obtain ⟨z3, _, rfl, g3, h3⟩ := tyL.i h2
  clear h2
  obtain rfl := tyL.nil h3
  clear h3
  obtain ⟨v0, _, rfl, s0, h0⟩ := hx
  obtain ⟨v1, _, rfl, s1, h1⟩ := h0
  obtain ⟨v2, _, rfl, s2, h2⟩ := h1
  obtain ⟨_, rfl, h3⟩ := h2
  obtain rfl := h3
  simp only [wt, wtP, wt_app] at hn
  generalize hD : (UD.l 3 n0 c0 (UD.l 3 n1 c1 (UD.l 1 n2 c2 (UD.p (.int .i64 z3) UD.nil)))) = D at hty ⊢
  have HD := uhide hD
  clear hD
  have HC0 : Hid (∀ wx : World, Below w.heap.size w wx → Calls Try.prog 52 #[v0] wx fun e w' => ∃ a p T, e = .returned (.slice a n0 p) ∧ Hid (oS w' 3 n0 c0 (.slice a n0 p) T) ∧ Hid (own2 T wx.heap.size w'.heap.size) ∧ Below wx.heap.size wx w') := fun wx hb => (utoItemS_any (lo := lo) (hi := hi) n0 c0 _ wx g0 (by omega) (s0.below hb)).mono fun e w' ⟨c', T, h1, h2, h3, h4, h5⟩ => by
    obtain ⟨a, p, rfl⟩ := h2.slice
    exact ⟨a, p, T, h1, h2, ⟨h3, fun s hs => ⟨h4 s hs, h2.lt s hs⟩⟩, h5⟩
  have HC1 : Hid (∀ wx : World, Below w.heap.size w wx → Calls Try.prog 52 #[v1] wx fun e w' => ∃ a p T, e = .returned (.slice a n1 p) ∧ Hid (oS w' 3 n1 c1 (.slice a n1 p) T) ∧ Hid (own2 T wx.heap.size w'.heap.size) ∧ Below wx.heap.size wx w') := fun wx hb => (utoItemS_any (lo := lo) (hi := hi) n1 c1 _ wx g1 (by omega) (s1.below hb)).mono fun e w' ⟨c', T, h1, h2, h3, h4, h5⟩ => by
    obtain ⟨a, p, rfl⟩ := h2.slice
    exact ⟨a, p, T, h1, h2, ⟨h3, fun s hs => ⟨h4 s hs, h2.lt s hs⟩⟩, h5⟩
  have HC2 : Hid (∀ wx : World, Below w.heap.size w wx → Calls Try.prog 53 #[v2] wx fun e w' => ∃ a p T, e = .returned (.slice a n2 p) ∧ Hid (oS w' 1 n2 c2 (.slice a n2 p) T) ∧ Hid (own2 T wx.heap.size w'.heap.size) ∧ Below wx.heap.size wx w') := fun wx hb => (utoStringS_any (lo := lo) (hi := hi) n2 c2 _ wx g2 (by omega) (s2.below hb)).mono fun e w' ⟨c', T, h1, h2, h3, h4, h5⟩ => by
    obtain ⟨a, p, rfl⟩ := h2.slice
    exact ⟨a, p, T, h1, h2, ⟨h3, fun s hs => ⟨h4 s hs, h2.lt s hs⟩⟩, h5⟩
  obtain ⟨AX, hAX⟩ : ∃ AX : List Value, AX = (v0 :: (v1 :: (v2 :: (Value.int .i64 z3 :: [])))) := ⟨_, rfl⟩
  rw [← hAX]
  have hlen : AX.length = 4 := by rw [hAX]; simp
  have e0 : AX[0]? = some (v0) := at_mid (i := 0) (pre := (([] : List Value))) (ys := [v0]) (post := (v1 :: (v2 :: (Value.int .i64 z3 :: [])))) (by rw [hAX]; simp) (by simp) rfl
  have e1 : AX[1]? = some (v1) := at_mid (i := 0) (pre := ([v0])) (ys := [v1]) (post := (v2 :: (Value.int .i64 z3 :: []))) (by rw [hAX]; simp) (by simp) rfl
  have e2 : AX[2]? = some (v2) := at_mid (i := 0) (pre := ([v0, v1])) (ys := [v2]) (post := (Value.int .i64 z3 :: [])) (by rw [hAX]; simp) (by simp) rfl
  have e3 : AX[3]? = some (.int .i64 z3) := at_mid (i := 0) (pre := ([v0, v1, v2])) (ys := [.int .i64 z3]) (post := []) (by rw [hAX]; simp) (by simp) rfl
  clear hAX
  have HTY := uhide hty
  clear hty
  clear hn g0 s0 g1 s1 g2 s2 g3
  have E0 := uhide e0
  have E1 := uhide e1
  have E2 := uhide e2
  have E3 := uhide e3
  clear e0 e1 e2 e3
  have BZ0 : Hid (0 + 1 ≤ ([.slice none 0 0, .slice none 0 0, .slice none 0 0, .int .i64 0] : List Value).length) := by show _ ≤ _; decide
  have BZ1 : Hid (1 + 1 ≤ ([.slice none 0 0, .slice none 0 0, .slice none 0 0, .int .i64 0] : List Value).length) := by show _ ≤ _; decide
  have BZ2 : Hid (2 + 1 ≤ ([.slice none 0 0, .slice none 0 0, .slice none 0 0, .int .i64 0] : List Value).length) := by show _ ≤ _; decide
  have BZ3 : Hid (3 + 1 ≤ ([.slice none 0 0, .slice none 0 0, .slice none 0 0, .int .i64 0] : List Value).length) := by show _ ≤ _; decide
  have C := uhide (CP.start (w := w) (TA := 43) (TO := 27) (AX := AX) (Z := [.slice none 0 0, .slice none 0 0, .slice none 0 0, .int .i64 0]))
  go_enter Try.func24, Try.ntmps24
  go_wp2_with (first
    | ((with_reducible refine wpList_load_one ?qqg66 41 ?qqx66 ?qqo66 w.heap.size 0 ?qqh66 (v0) Try.rQueue_Llaws_Item (C.out.cell E0.out) ?_); (case qqg66 => rfl); (case qqo66 => rfl); (case qqh66 => first | (simp; done) | (simp [Act.eval]; done) | (simp only [Act.put]; simp; done) | (simp only [Act.put]; simp [Act.eval]; done)))
    )
  refine (HC0.out _ C.out.bel).mono ?_
  rintro e w1 ⟨a0r, p0r, T0, rfl, O0, W0, hb0⟩
  have D := uhide (C.out.below hb0)
  have HB0 := uhide hb0
  clear hb0
  go_wp2_with (first
    | ((with_reducible refine wpList_store_v ?qqg74 24 ?qqx74 ?qqy74 ?qqo74 ?qqd74 (w.heap.size + 1 + 1) 0 ?qqh74 (.slice a0r n0 p0r) ?qqv74 one_slice Try.zQueue_Limpl_Item (D.out.there 1 BZ0.out) ?_); (case qqg74 => rfl); (case qqo74 => rfl); (case qqd74 => rfl); (case qqh74 => first | (simp; done) | (simp [Act.eval]; done) | (simp only [Act.put]; simp; done) | (simp only [Act.put]; simp [Act.eval]; done)); (case qqv74 => first | (simp; done) | (simp [Act.eval]; done) | (simp only [Act.put]; simp; done) | (simp only [Act.put]; simp [Act.eval]; done)); intro wy ey; replace C := uhide (C.out.list HB0.out O0.out W0.out ey (j' := 1) rfl (by decide)); clear ey D HB0 O0 W0)
    | ((with_reducible refine wpList_load_one ?qqg75 41 ?qqx75 ?qqo75 w.heap.size 1 ?qqh75 (v1) Try.rQueue_Llaws_Item (C.out.cell E1.out) ?_); (case qqg75 => rfl); (case qqo75 => rfl); (case qqh75 => first | (simp; done) | (simp [Act.eval]; done) | (simp only [Act.put]; simp; done) | (simp only [Act.put]; simp [Act.eval]; done)))
    )
  refine (HC1.out _ C.out.bel).mono ?_
  rintro e w2 ⟨a1r, p1r, T1, rfl, O1, W1, hb1⟩
  have D := uhide (C.out.below hb1)
  have HB1 := uhide hb1
  clear hb1
  go_wp2_with (first
    | ((with_reducible refine wpList_store_v ?qqg83 24 ?qqx83 ?qqy83 ?qqo83 ?qqd83 (w.heap.size + 1 + 1) 1 ?qqh83 (.slice a1r n1 p1r) ?qqv83 one_slice Try.zQueue_Limpl_Item (D.out.there 1 BZ1.out) ?_); (case qqg83 => rfl); (case qqo83 => rfl); (case qqd83 => rfl); (case qqh83 => first | (simp; done) | (simp [Act.eval]; done) | (simp only [Act.put]; simp; done) | (simp only [Act.put]; simp [Act.eval]; done)); (case qqv83 => first | (simp; done) | (simp [Act.eval]; done) | (simp only [Act.put]; simp; done) | (simp only [Act.put]; simp [Act.eval]; done)); intro wy ey; replace C := uhide (C.out.list HB1.out O1.out W1.out ey (j' := 2) rfl (by decide)); clear ey D HB1 O1 W1)
    | ((with_reducible refine wpList_load_one ?qqg84 25 ?qqx84 ?qqo84 w.heap.size 2 ?qqh84 (v2) Try.rQueue_Lstring (C.out.cell E2.out) ?_); (case qqg84 => rfl); (case qqo84 => rfl); (case qqh84 => first | (simp; done) | (simp [Act.eval]; done) | (simp only [Act.put]; simp; done) | (simp only [Act.put]; simp [Act.eval]; done)))
    )
  refine (HC2.out _ C.out.bel).mono ?_
  rintro e w3 ⟨a2r, p2r, T2, rfl, O2, W2, hb2⟩
  have D := uhide (C.out.below hb2)
  have HB2 := uhide hb2
  clear hb2
  have FZ0 : Hid (∀ l : List Value, l.length = 4 → Hid ((Try.prog.info? 27).map (·.size) = some l.length)) := fun l h => by show _ = _; rw [h]; exact Try.zQueue_impl_Queue
  have HZL : Hid (4 = ([.slice none 0 0, .slice none 0 0, .slice none 0 0, .int .i64 0] : List Value).length) := by show _ = _; decide
  go_wp2_with (first
    | ((with_reducible refine wpList_store_v ?qqg94 25 ?qqx94 ?qqy94 ?qqo94 ?qqd94 (w.heap.size + 1 + 1) 2 ?qqh94 (.slice a2r n2 p2r) ?qqv94 one_slice Try.zQueue_Lstring (D.out.there 1 BZ2.out) ?_); (case qqg94 => rfl); (case qqo94 => rfl); (case qqd94 => rfl); (case qqh94 => first | (simp; done) | (simp [Act.eval]; done) | (simp only [Act.put]; simp; done) | (simp only [Act.put]; simp [Act.eval]; done)); (case qqv94 => first | (simp; done) | (simp [Act.eval]; done) | (simp only [Act.put]; simp; done) | (simp only [Act.put]; simp [Act.eval]; done)); intro wy ey; replace C := uhide (C.out.list HB2.out O2.out W2.out ey (j' := 3) rfl (by decide)); clear ey D HB2 O2 W2)
    | ((with_reducible refine wpList_load_one ?qqg95 3 ?qqx95 ?qqo95 w.heap.size 3 ?qqh95 (.int .i64 z3) Try.rQueue_int (C.out.cell E3.out) ?_); (case qqg95 => rfl); (case qqo95 => rfl); (case qqh95 => first | (simp; done) | (simp [Act.eval]; done) | (simp only [Act.put]; simp; done) | (simp only [Act.put]; simp [Act.eval]; done)))
    | ((with_reducible refine wpList_store_v ?qqg96 3 ?qqx96 ?qqy96 ?qqo96 ?qqd96 (w.heap.size + 1 + 1) 3 ?qqh96 (.int .i64 z3) ?qqv96 one_int Try.zQueue_int (C.out.there 1 BZ3.out) ?_); (case qqg96 => rfl); (case qqo96 => rfl); (case qqd96 => rfl); (case qqh96 => first | (simp; done) | (simp [Act.eval]; done) | (simp only [Act.put]; simp; done) | (simp only [Act.put]; simp [Act.eval]; done)); (case qqv96 => first | (simp; done) | (simp [Act.eval]; done) | (simp only [Act.put]; simp; done) | (simp only [Act.put]; simp [Act.eval]; done)); intro wy ey; replace C := uhide (C.out.plain ey (j' := 4) rfl (by decide)); clear ey; obtain ⟨dn, S, RG, hl, TH, hod, HF⟩ := C.out.fin (D := D) (by rw [← HD.out]; apply UD.ext; simp only [UD.app_toL, UD.toL, List.cons_append, List.nil_append, List.append_nil]) HZL.out; have FZ := FZ0.out dn hl; have ON := uhide (ones_own HTY.out hod); have HFF := uhide HF; clear C hod HF)
    | ((with_reducible refine wpList_load_row2 ?qqg97 27 ?qqx97 ?qqo97 (w.heap.size + 1 + 1) 0 ?qqh97 dn Try.rQueue_impl_Queue FZ.out RG.out ?_); (case qqg97 => rfl); (case qqo97 => rfl); (case qqh97 => first | (simp; done) | (simp [Act.eval]; done) | (simp only [Act.put]; simp; done) | (simp only [Act.put]; simp [Act.eval]; done)))
    | ((with_reducible refine wpList_store_cells ?qqg98 27 ?qqx98 ?qqy98 ?qqo98 ?qqd98 (w.heap.size + 1) 0 ?qqh98 (.agg dn.toArray) ?qqv98 dn cells_agg ON.out FZ.out TH.out ?_); (case qqg98 => rfl); (case qqo98 => rfl); (case qqd98 => rfl); (case qqh98 => first | (simp; done) | (simp [Act.eval]; done) | (simp only [Act.put]; simp; done) | (simp only [Act.put]; simp [Act.eval]; done)); (case qqv98 => first | (simp; done) | (simp [Act.eval]; done) | (simp only [Act.put]; simp; done) | (simp only [Act.put]; simp [Act.eval]; done)); intro wy ey; have HG := uhide (HFF.out wy ey); clear ey HFF)
    )
  obtain ⟨HO, h1, h2, h3, h4⟩ := HG.out
  refine bodyPost_ret (v := .agg dn.toArray) ?_ rfl ⟨dn, S, rfl, ?_, h2, h3, h4⟩
  · exact results_row rfl _ _ (w.heap.size + 1) _ _ (by simp [Act.put]) HO Try.rQueue_impl_Queue (by rw [hl]; exact Try.zQueue_impl_Queue)
  · exact h1
end Go.Proofs.Ytldabidmacghgaa
