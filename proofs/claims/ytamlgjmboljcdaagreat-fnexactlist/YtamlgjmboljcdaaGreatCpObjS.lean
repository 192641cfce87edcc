/- Objects copied by the spec: spec.l7Copy. -/
import Derived.Test.YtamlgjmboljcdaaGreatCpObj0
import Derived.Test.YtamlgjmboljcdaaGreatVCopyS
namespace Go.Proofs.YtamlgjmboljcdaaGreat
open Go.RowKit Go.BigFrame
set_option linter.unusedVariables false

theorem uS.slice_of6 {w : World} {lo hi k n : Nat} {cs : UD} {c : Value} (h : uS w lo hi k n cs c) : ∃ a cap, c = .slice a n cap ∧ True := by
  obtain ⟨a, cap, e, _⟩ := h; exact ⟨a, cap, e, trivial⟩
theorem uS_src {w : World} {lo hi n p : Nat} {c : UD} {a : Option Addr} (ht : tyS 1 n c 0) (h : uS w lo hi 1 n c (.slice a n p)) : ∃ news, news.length = n * 1 ∧ (∀ u ∈ news, u.oneCell' = true) ∧ ((Value.slice a n p = .slice none 0 0 ∧ n = 0) ∨ ∃ ad q, Value.slice a n p = .slice (some ad) n q ∧ ∀ j u, news[j]? = some u → w.cell? (ad.add j) = some u) ∧ ∀ w', oH w' c news [] := by
  cases a with
  | none =>
    obtain ⟨a', cap, e, h1, h2⟩ := h
    cases e
    have hp : p = 0 := h1.2.1 rfl
    have hn : n = 0 := by have := h1.1; omega
    subst hp hn
    have hc3 : c = .nil := UD.nil_of (by rw [ht.2.2.2.1])
    subst hc3
    exact ⟨[], rfl, fun u hu => (by cases hu), .inl ⟨rfl, rfl⟩, fun w' => ⟨rfl, rfl⟩⟩
  | some ad =>
    obtain ⟨news, m1, m2, m3, m4⟩ := strs_news ht h
    exact ⟨news, m1, m3, .inr ⟨ad, p, rfl, m2⟩, m4⟩
set_option maxRecDepth 40000 in
set_option maxHeartbeats 3200000 in
theorem l7Copy_N {lo hi : Nat} (d : UD) (xs : List Value) (w : World) (ht : tyL d (uE 8)) (hwt : wt d ≤ 1048576) (hx : uH w lo hi d xs) :
    Calls Tryz.prog 92 #[.agg xs.toArray] w fun e w' => copied w w' d e := by
  replace ht : tyL d [.i .i64, .s, .i .i64, .i .i64, .i .i64, .b, .l 1 0, .i .i64, .s, .i .i64, .l 1 0, .l 5 6, .i .i64, .s, .i .i64, .l 1 0, .l 5 6] := ht
  obtain ⟨z0, _, rfl, g0, h0⟩ := tyL.i ht
  obtain ⟨z1, _, rfl, g1, h1⟩ := tyL.s h0
  clear h0
  obtain ⟨z2, _, rfl, g2, h2⟩ := tyL.i h1
  clear h1
  obtain ⟨z3, _, rfl, g3, h3⟩ := tyL.i h2
  clear h2
  obtain ⟨z4, _, rfl, g4, h4⟩ := tyL.i h3
  clear h3
  obtain ⟨z5, _, rfl, h5⟩ := tyL.b h4
  clear h4
  obtain ⟨n6, c6, _, rfl, g6, h6⟩ := tyL.l h5
  clear h5
  obtain ⟨d7, _, rfl, g7, h7⟩ := tyL.split (f1 := uE 6) (f2 := [.i .i64, .s, .i .i64, .l 1 0, .l 5 6]) h6
  clear h6
  obtain ⟨d8, _, rfl, g8, h8⟩ := tyL.split (f1 := uE 6) (f2 := []) h7
  clear h7
  obtain rfl := tyL.nil h8
  clear h8 ht
  obtain ⟨_, rfl, h0⟩ := hx
  obtain ⟨_, rfl, h1⟩ := h0
  obtain ⟨_, rfl, h2⟩ := h1
  obtain ⟨_, rfl, h3⟩ := h2
  obtain ⟨_, rfl, h4⟩ := h3
  obtain ⟨_, rfl, h5⟩ := h4
  obtain ⟨u6, _, rfl, s6, h6⟩ := h5
  obtain ⟨y7, _, rfl, l7, h7, h9⟩ := uH.split h6
  replace l7 : y7.length = 5 := l7.trans (tyL.len g7)
  obtain ⟨y8, _, rfl, l8, h8, h10⟩ := uH.split h9
  replace l8 : y8.length = 5 := l8.trans (tyL.len g8)
  obtain rfl := h10
  clear h9 h6
  simp only [wt, wtP, wt_app] at hwt
  obtain ⟨a6, p6, rfl, -⟩ := uS.slice_of6 s6
  have hn6 : n6 ≤ 1048576 := by omega
  obtain ⟨j0, hj0, hj1, hj2, hj3⟩ := infoCpS
  have HC7 : Hid (∀ wx, Below w.heap.size w wx → Calls Tryz.prog 84 #[.agg y7.toArray] wx fun e w' => ∃ ys T, e = .returned (.agg ys.toArray) ∧ ys.length = 5 ∧ Hid (oH w' d7 ys T) ∧ Hid (own2 T wx.heap.size w'.heap.size) ∧ Hid (∀ u ∈ ys, u.oneCell' = true) ∧ Hid (Below wx.heap.size wx w')) := fun wx hb => (l4Copy_N (uszD d7 + 1) d7 y7 lo hi wx (by omega) g7 (by omega) (h7.below hb)).mono fun e w' ⟨ys, T, q1, q2, q3, q4⟩ => ⟨ys, T, q1, q2.len.trans (tyL.len g7), q2, q3, ones_own g7 q2, q4⟩
  have HC8 : Hid (∀ wx, Below w.heap.size w wx → Calls Tryz.prog 84 #[.agg y8.toArray] wx fun e w' => ∃ ys T, e = .returned (.agg ys.toArray) ∧ ys.length = 5 ∧ Hid (oH w' d8 ys T) ∧ Hid (own2 T wx.heap.size w'.heap.size) ∧ Hid (∀ u ∈ ys, u.oneCell' = true) ∧ Hid (Below wx.heap.size wx w')) := fun wx hb => (l4Copy_N (uszD d8 + 1) d8 y8 lo hi wx (by omega) g8 (by omega) (h8.below hb)).mono fun e w' ⟨ys, T, q1, q2, q3, q4⟩ => ⟨ys, T, q1, q2.len.trans (tyL.len g8), q2, q3, ones_own g8 q2, q4⟩
  have S6w := uhide s6
  have G6 := uhide g6
  have HY7 := uhide l7
  have HY8 := uhide l8
  have HL7 : Hid (∀ x : List Value, x.length = 5 → (Tryz.prog.info? 31).map (·.size) = some x.length) := fun x h => by rw [h]; exact Tryz.zObj_impl_Value
  clear s6 g6 h7 h8 g7 g8 hwt l7 l8
  obtain ⟨AX, hAX⟩ : ∃ AX : List Value, AX = (Value.int .i64 z0 :: (Value.string z1 :: (Value.int .i64 z2 :: (Value.int .i64 z3 :: (Value.int .i64 z4 :: (Value.bool z5 :: (Value.slice a6 n6 p6 :: (y7 ++ (y8 ++ []))))))))) := ⟨_, rfl⟩
  rw [← hAX]
  have BX : Hid (Below w.heap.size w (((w.alloc (.cells AX.toArray 38)).alloc (.cells [.int .i64 0, .string ⟨#[]⟩, .int .i64 0, .int .i64 0, .int .i64 0, .bool false, .slice none 0 0, .int .i64 0, .string ⟨#[]⟩, .int .i64 0, .slice none 0 0, .slice none 0 0, .int .i64 0, .string ⟨#[]⟩, .int .i64 0, .slice none 0 0, .slice none 0 0].toArray 38)).alloc (.cells #[] 9))) := (((Below.refl _ _).alloc (Nat.le_refl _) _).alloc (by simp) _).alloc (by simp; omega) _
  have OBX : Hid (objU (((w.alloc (.cells AX.toArray 38)).alloc (.cells [.int .i64 0, .string ⟨#[]⟩, .int .i64 0, .int .i64 0, .int .i64 0, .bool false, .slice none 0 0, .int .i64 0, .string ⟨#[]⟩, .int .i64 0, .slice none 0 0, .slice none 0 0, .int .i64 0, .string ⟨#[]⟩, .int .i64 0, .slice none 0 0, .slice none 0 0].toArray 38)).alloc (.cells #[] 9)) w.heap.size 38 AX) := ((objU.new _ _ _).old _).old _
  have OZX : Hid (objU (((w.alloc (.cells AX.toArray 38)).alloc (.cells [.int .i64 0, .string ⟨#[]⟩, .int .i64 0, .int .i64 0, .int .i64 0, .bool false, .slice none 0 0, .int .i64 0, .string ⟨#[]⟩, .int .i64 0, .slice none 0 0, .slice none 0 0, .int .i64 0, .string ⟨#[]⟩, .int .i64 0, .slice none 0 0, .slice none 0 0].toArray 38)).alloc (.cells #[] 9)) (w.heap.size + 1) 38 [.int .i64 0, .string ⟨#[]⟩, .int .i64 0, .int .i64 0, .int .i64 0, .bool false, .slice none 0 0, .int .i64 0, .string ⟨#[]⟩, .int .i64 0, .slice none 0 0, .slice none 0 0, .int .i64 0, .string ⟨#[]⟩, .int .i64 0, .slice none 0 0, .slice none 0 0]) := (objU.new2 _ _ (by simp)).old _
  have C6 : Hid ((((w.alloc (.cells AX.toArray 38)).alloc (.cells [.int .i64 0, .string ⟨#[]⟩, .int .i64 0, .int .i64 0, .int .i64 0, .bool false, .slice none 0 0, .int .i64 0, .string ⟨#[]⟩, .int .i64 0, .slice none 0 0, .slice none 0 0, .int .i64 0, .string ⟨#[]⟩, .int .i64 0, .slice none 0 0, .slice none 0 0].toArray 38)).alloc (.cells #[] 9)).cell? ⟨w.heap.size, 6, none⟩ = some (.slice a6 n6 p6)) := OBX.out.cell 6 _ (by rw [hAX]; rfl)
  have SZX : Hid (w.heap.size + 2 ≤ (((w.alloc (.cells AX.toArray 38)).alloc (.cells [.int .i64 0, .string ⟨#[]⟩, .int .i64 0, .int .i64 0, .int .i64 0, .bool false, .slice none 0 0, .int .i64 0, .string ⟨#[]⟩, .int .i64 0, .slice none 0 0, .slice none 0 0, .int .i64 0, .string ⟨#[]⟩, .int .i64 0, .slice none 0 0, .slice none 0 0].toArray 38)).alloc (.cells #[] 9)).heap.size) := by show _ ≤ _; simp
  have OEX : Hid ((((w.alloc (.cells AX.toArray 38)).alloc (.cells [.int .i64 0, .string ⟨#[]⟩, .int .i64 0, .int .i64 0, .int .i64 0, .bool false, .slice none 0 0, .int .i64 0, .string ⟨#[]⟩, .int .i64 0, .slice none 0 0, .slice none 0 0, .int .i64 0, .string ⟨#[]⟩, .int .i64 0, .slice none 0 0, .slice none 0 0].toArray 38)).alloc (.cells #[] 9)).ownsRow (w.heap.size + 2) 9 1 (.slice (some ⟨w.heap.size + 1 + 1, 0, none⟩) 0 0) 0 []) := by
    have := World.ownsRow_lit (base := w.heap.size + 2) (size := 1) (e := 9) ((w.alloc (.cells AX.toArray 38)).alloc (.cells [.int .i64 0, .string ⟨#[]⟩, .int .i64 0, .int .i64 0, .int .i64 0, .bool false, .slice none 0 0, .int .i64 0, .string ⟨#[]⟩, .int .i64 0, .slice none 0 0, .slice none 0 0, .int .i64 0, .string ⟨#[]⟩, .int .i64 0, .slice none 0 0, .slice none 0 0].toArray 38)) #[] 0 (by simp) (by decide) (by rfl)
    exact uhide (by simpa using this)
  obtain ⟨zs6, k1, k2, k3, k4⟩ := uS_src G6.out (S6w.out.below BX.out)
  have K1 := uhide k1
  have K2 := uhide k2
  have K3 := uhide k3
  have K4 := uhide k4
  have HAX := uhide hAX
  clear hAX k1 k2 k3 k4
  go_enter Tryz.func92, Tryz.ntmps92
  go_wp2_with (first
    | ((with_reducible refine wpList_load_one ?qqg1 28 ?qqx1 ?qqo1 w.heap.size 6 ?qqh1 (.slice a6 n6 p6) Tryz.rObj_Lstring C6.out ?_); (case qqg1 => rfl); (case qqo1 => rfl); (case qqh1 => first | (simp [Act.eval]; done) | (simp [Act.eval, Act.put]; done)))
    | (at_builtin
       refine wpList_append_rows rfl _ _ 28 rfl (w.heap.size + 2) 9 j0 (.string ByteArray.empty) 1 16 Tryz.underlying28 hj0 hj1 hj2 hj3 (by decide) (by decide) (.slice (some ⟨w.heap.size + 1 + 1, 0, none⟩) 0 0) 0 [] rfl OEX.out (.slice a6 n6 p6) rfl n6 zs6 K1.out K2.out K3.out (by unfold maxLen; omega) (by omega) SZX.out ?_
       intro v1 w1 hown1 hgrow1 hat1
       rw [Nat.zero_add, List.nil_append] at hown1
       obtain ⟨a1, p1, rfl⟩ := uowns_slice hown1
       have EG : Hid (OutS [w.heap.size + 1 + 1] _ w1) := OutS.grownC hgrow1
       have OB1 := uhide (OBX.out.outS EG.out (by simp; omega))
       have OZ1 := uhide (OZX.out.outS EG.out (by simp))
       have BW1 : Hid (Below w.heap.size w w1) := BX.out.trans (EG.out.below (fun t ht => by simp at ht; omega) (Nat.le_trans (by omega) SZX.out))
       have SZ1 : Hid (w.heap.size + 2 ≤ w1.heap.size) := Nat.le_trans SZX.out EG.out.size
       have R1 := uhide hown1
       have TH1 : Hid (w1.there w.heap.size 6 1) := OB1.out.there 6 1 (by rw [HAX.out]; simp)
       clear hown1 hgrow1 hat1 EG OBX OZX BX C6 SZX OEX)
    | ((with_reducible refine wpList_store_v ?qqg2 28 ?qqx2 ?qqy2 ?qqo2 ?qqd2 w.heap.size 6 ?qqh2 (.slice a1 n6 p1) ?qqv2 one_slice Tryz.zObj_Lstring TH1.out ?_); (case qqg2 => rfl); (case qqo2 => rfl); (case qqd2 => rfl); (case qqh2 => first | (simp [Act.eval]; done) | (simp [Act.eval, Act.put]; done)); (case qqv2 => first | (simp [Act.eval]; done) | (simp [Act.eval, Act.put]; done))
       intro W0 eW
       have EW : Hid (OutS [w.heap.size] w1 W0) := by subst eW; exact OutS.setCells _ 6 w1
       have OB : Hid (objU W0 w.heap.size 38 ([Value.int .i64 z0, .string z1, .int .i64 z2, .int .i64 z3, .int .i64 z4, .bool z5, .slice a1 n6 p1] ++ (y7 ++ (y8 ++ [])))) := by
         have h := OB1.out
         rw [HAX.out] at h
         have h2 := objU.setCells [Value.slice a1 n6 p1] [Value.slice a6 n6 p6] [Value.int .i64 z0, .string z1, .int .i64 z2, .int .i64 z3, .int .i64 z4, .bool z5] (y7 ++ (y8 ++ [])) w1 h rfl
         subst eW; exact h2
       have OZ : Hid (objU W0 (w.heap.size + 1) 38 [.int .i64 0, .string ⟨#[]⟩, .int .i64 0, .int .i64 0, .int .i64 0, .bool false, .slice none 0 0, .int .i64 0, .string ⟨#[]⟩, .int .i64 0, .slice none 0 0, .slice none 0 0, .int .i64 0, .string ⟨#[]⟩, .int .i64 0, .slice none 0 0, .slice none 0 0]) := OZ1.out.outS EW.out (by simp)
       have B0 : Hid (Below w.heap.size w W0) := BW1.out.trans (EW.out.below (fun t ht => by simp at ht; omega) BW1.out.size)
       have HZ : Hid (w.heap.size + 2 ≤ W0.heap.size) := Nat.le_trans SZ1.out EW.out.size
       have R0 := uowns_frame R1.out (w' := W0) (fun x hx => EW.out.block x (ublk_lt R1.out x hx).2 (by have := (ublk_lt R1.out x hx).1; simp; omega))
       have W6 : Hid (own2 (blkOf (.slice a1 n6 p1)) (w.heap.size + 2) W0.heap.size) := ⟨by unfold blkOf; split <;> simp, fun s hs => ublk_lt R0 s hs⟩
       have O6 : Hid (oS W0 1 n6 c6 (.slice a1 n6 p1) (blkOf (.slice a1 n6 p1))) := ⟨by decide, 9, zs6, [], owns_base R0, K4.out W0, by simp⟩
       have K6 : Hid (∀ u ∈ [Value.int .i64 z0, .string z1, .int .i64 z2, .int .i64 z3, .int .i64 z4, .bool z5, .slice a1 n6 p1], u.oneCell' = true) := fun u hu => by
         simp only [List.mem_cons, List.not_mem_nil, or_false] at hu
         rcases hu with rfl | rfl | rfl | rfl | rfl | rfl | rfl <;> rfl
       have Hy7 : Hid (W0.rangeAt w.heap.size 7 y7) := OB.out.range 7 y7 (fun i v h => at_mid (pre := [Value.int .i64 z0, .string z1, .int .i64 z2, .int .i64 z3, .int .i64 z4, .bool z5, .slice a1 n6 p1]) (ys := y7) (post := (y8 ++ [])) rfl rfl h)
       have HLy7 := uhide (HL7.out y7 HY7.out)
       clear R0 eW EW OB1 OZ1 BW1 SZ1 R1 TH1 HAX K1 K2 K3 K4 G6 S6w)
    | ((with_reducible refine wpList_load_row2 ?qqg3 31 ?qqx3 ?qqo3 w.heap.size 7 ?qqh3 y7 Tryz.rObj_impl_Value HLy7.out Hy7.out ?_); (case qqg3 => rfl); (case qqo3 => rfl); (case qqh3 => first | (simp [Act.eval]; done) | (simp [Act.eval, Act.put]; done)))
    )
  refine (HC7.out W0 B0.out).mono ?_
  rintro e w3 ⟨x7, T7, rfl, l7, K7, W7, U7, B7⟩
  have OB3 : Hid (objU w3 w.heap.size 38 ([Value.int .i64 z0, .string z1, .int .i64 z2, .int .i64 z3, .int .i64 z4, .bool z5, .slice a1 n6 p1] ++ (y7 ++ (y8 ++ [])))) := OB.out.below B7.out
  have TH3 : Hid (w3.there w.heap.size 7 x7.length) := OB3.out.there 7 x7.length (by rw [l7]; simp [HY7.out, HY8.out])
  have Hx7 := uhide (HL7.out x7 l7)
  go_wp2_with (first
    | ((with_reducible refine wpList_store_cells ?qqg4 31 ?qqx4 ?qqy4 ?qqo4 ?qqd4 w.heap.size 7 ?qqh4 (.agg x7.toArray) ?qqv4 x7 cells_agg U7.out Hx7.out TH3.out ?_); (case qqg4 => rfl); (case qqo4 => rfl); (case qqd4 => rfl); (case qqh4 => first | (simp [Act.eval]; done) | (simp [Act.eval, Act.put]; done)); (case qqv4 => first | (simp [Act.eval]; done) | (simp [Act.eval, Act.put]; done))
       intro w4 e4
       have E4 : Hid (OutS [w.heap.size] w3 w4) := by subst e4; exact OutS.setCells x7 7 w3
       have OB4 : Hid (objU w4 w.heap.size 38 ([Value.int .i64 z0, .string z1, .int .i64 z2, .int .i64 z3, .int .i64 z4, .bool z5, .slice a1 n6 p1] ++ (x7 ++ (y8 ++ [])))) := by subst e4; exact objU.setCells x7 y7 ([Value.int .i64 z0, .string z1, .int .i64 z2, .int .i64 z3, .int .i64 z4, .bool z5, .slice a1 n6 p1]) (y8 ++ []) w3 OB3.out (by rw [l7, HY7.out])
       have B04 : Hid (OutS [w.heap.size] W0 w4) := (OutS.of_below B7.out).trans E4.out
       have B4 : Hid (Below w.heap.size w w4) := B0.out.trans (B04.out.below (fun t ht => by simp at ht; omega) B0.out.size)
       have OZ4 : Hid (objU w4 (w.heap.size + 1) 38 [.int .i64 0, .string ⟨#[]⟩, .int .i64 0, .int .i64 0, .int .i64 0, .bool false, .slice none 0 0, .int .i64 0, .string ⟨#[]⟩, .int .i64 0, .slice none 0 0, .slice none 0 0, .int .i64 0, .string ⟨#[]⟩, .int .i64 0, .slice none 0 0, .slice none 0 0]) := OZ.out.outS B04.out (by simp)
       have O64 : Hid (oS w4 1 n6 c6 (.slice a1 n6 p1) (blkOf (.slice a1 n6 p1))) := O6.out.frame (fun g hg => B04.out.block g (O6.out.lt g hg) (by have := W6.out.2 g hg; simp; omega))
       have K74 : Hid (oH w4 d7 x7 T7) := K7.out.outS E4.out (fun g hg => by have := W7.out.2 g hg; have := HZ.out; simp; omega)
       have Hy8 : Hid (w4.rangeAt w.heap.size 12 y8) := OB4.out.range 12 y8 (fun i v h => at_mid (pre := [Value.int .i64 z0, .string z1, .int .i64 z2, .int .i64 z3, .int .i64 z4, .bool z5, .slice a1 n6 p1] ++ x7) (ys := y8) (post := []) (by simp) (by simp [l7]) h)
       have HLy8 := uhide (HL7.out y8 HY8.out)
       have SZ4 : Hid (w3.heap.size ≤ w4.heap.size) := E4.out.size
       clear e4 OB OB3 TH3 O6 K7 OZ)
    | ((with_reducible refine wpList_load_row2 ?qqg5 31 ?qqx5 ?qqo5 w.heap.size 12 ?qqh5 y8 Tryz.rObj_impl_Value HLy8.out Hy8.out ?_); (case qqg5 => rfl); (case qqo5 => rfl); (case qqh5 => first | (simp [Act.eval]; done) | (simp [Act.eval, Act.put]; done)))
    )
  refine (HC8.out w4 B4.out).mono ?_
  rintro e w5 ⟨x8, T8, rfl, l8, K8, W8, U8, B8⟩
  have OB5 : Hid (objU w5 w.heap.size 38 ([Value.int .i64 z0, .string z1, .int .i64 z2, .int .i64 z3, .int .i64 z4, .bool z5, .slice a1 n6 p1] ++ (x7 ++ (y8 ++ [])))) := OB4.out.below B8.out
  have TH5 : Hid (w5.there w.heap.size 12 x8.length) := OB5.out.there 12 x8.length (by rw [l8]; simp [l7, HY8.out])
  have Hx8 := uhide (HL7.out x8 l8)
  go_wp2_with (first
    | ((with_reducible refine wpList_store_cells ?qqg6 31 ?qqx6 ?qqy6 ?qqo6 ?qqd6 w.heap.size 12 ?qqh6 (.agg x8.toArray) ?qqv6 x8 cells_agg U8.out Hx8.out TH5.out ?_); (case qqg6 => rfl); (case qqo6 => rfl); (case qqd6 => rfl); (case qqh6 => first | (simp [Act.eval]; done) | (simp [Act.eval, Act.put]; done)); (case qqv6 => first | (simp [Act.eval]; done) | (simp [Act.eval, Act.put]; done))
       intro w6 e6
       have E6 : Hid (OutS [w.heap.size] w5 w6) := by subst e6; exact OutS.setCells x8 12 w5
       have OB6 : Hid (objU w6 w.heap.size 38 (([Value.int .i64 z0, .string z1, .int .i64 z2, .int .i64 z3, .int .i64 z4, .bool z5, .slice a1 n6 p1] ++ x7) ++ (x8 ++ []))) := by
         have h := objU.setCells x8 y8 ([Value.int .i64 z0, .string z1, .int .i64 z2, .int .i64 z3, .int .i64 z4, .bool z5, .slice a1 n6 p1] ++ x7) [] w5 (by rw [List.append_assoc]; exact OB5.out) (by rw [l8, HY8.out])
         rw [show ([Value.int .i64 z0, .string z1, .int .i64 z2, .int .i64 z3, .int .i64 z4, .bool z5, .slice a1 n6 p1] ++ x7).length = 12 by simp [l7]] at h
         subst e6; exact h
       clear e6
       have HE : Hid (CpEnd w w6 38 (.p (.int .i64 z0) (.p (.string z1) (.p (.int .i64 z2) (.p (.int .i64 z3) (.p (.int .i64 z4) (.p (.bool z5) (.l 1 n6 c6 (UD.app d7 (UD.app d8 UD.nil))))))))) (([Value.int .i64 z0, .string z1, .int .i64 z2, .int .i64 z3, .int .i64 z4, .bool z5, .slice a1 n6 p1] ++ x7) ++ (x8 ++ [])) [.int .i64 0, .string ⟨#[]⟩, .int .i64 0, .int .i64 0, .int .i64 0, .bool false, .slice none 0 0, .int .i64 0, .string ⟨#[]⟩, .int .i64 0, .slice none 0 0, .slice none 0 0, .int .i64 0, .string ⟨#[]⟩, .int .i64 0, .slice none 0 0, .slice none 0 0]) := cpobj_end (W0 := w4) (w3 := w4) (w5 := w5) (w6 := w6) OZ4.out B4.out (Nat.le_trans HZ.out (Nat.le_trans B7.out.size SZ4.out)) O64.out K6.out W6.out K74.out W7.out K8.out W8.out (Nat.le_refl _) B7.out.size SZ4.out (Nat.le_refl _) (Nat.le_trans SZ4.out B8.out.size) HZ.out U7.out U8.out B8.out B8.out E6.out (OutS.refl _ _) OB6.out
       obtain ⟨AX2, hAX2⟩ : ∃ AX : List Value, AX = (([Value.int .i64 z0, .string z1, .int .i64 z2, .int .i64 z3, .int .i64 z4, .bool z5, .slice a1 n6 p1] ++ x7) ++ (x8 ++ [])) := ⟨_, rfl⟩
       rw [← hAX2] at HE
       have hal : AX2.length = 17 := by rw [hAX2]; simp [l7, l8]
       have HAL := uhide hal
       have HFA : Hid ((Tryz.prog.info? 38).map (·.size) = some AX2.length) := by show _ = _; rw [hal]; exact Tryz.zObj_impl_Obj
       have HTH : Hid (w6.there (w.heap.size + 1) 0 AX2.length) := by show World.there _ _ _ _; rw [hal]; exact HE.out.res.there 0 17 (by decide)
       have HRG : Hid (w6.rangeAt w.heap.size 0 AX2) := HE.out.box.range 0 AX2 (fun j v h => by rw [Nat.zero_add]; exact h)
       clear hAX2 hal)
    | ((with_reducible refine wpList_load_row2 ?qqg7 38 ?qqx7 ?qqo7 w.heap.size 0 ?qqh7 AX2 Tryz.rObj_impl_Obj HFA.out HRG.out ?_); (case qqg7 => rfl); (case qqo7 => rfl); (case qqh7 => first | (simp [Act.eval]; done) | (simp [Act.eval, Act.put]; done)))
    | ((with_reducible refine wpList_store_cells ?qqg8 38 ?qqx8 ?qqy8 ?qqo8 ?qqd8 (w.heap.size + 1) 0 ?qqh8 (.agg AX2.toArray) ?qqv8 AX2 cells_agg HE.out.ones HFA.out HTH.out ?_); (case qqg8 => rfl); (case qqo8 => rfl); (case qqd8 => rfl); (case qqh8 => first | (simp [Act.eval]; done) | (simp [Act.eval, Act.put]; done)); (case qqv8 => first | (simp [Act.eval]; done) | (simp [Act.eval, Act.put]; done))
       intro w8 e8; have HF := uhide (HE.out.fin HAL.out e8); clear e8)
    )
  obtain ⟨hres, S', ho', hS', hb'⟩ := HF.out
  refine bodyPost_ret (v := .agg AX2.toArray) ?_ rfl (copied.mk' ho' hS' hb')
  exact results_row rfl _ _ (w.heap.size + 1) _ _ (by simp [Act.put]) hres Tryz.rObj_impl_Obj HFA.out
end Go.Proofs.YtamlgjmboljcdaaGreat
