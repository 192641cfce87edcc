/- Objects copied by the program: impl.copyOfObj, walked. -/
import Derived.Test.YtamlgjmboljcdaaGreatCpObj0
namespace Go.Proofs.YtamlgjmboljcdaaGreat
open Go.RowKit Go.BigFrame
set_option linter.unusedVariables false

set_option maxRecDepth 40000 in
set_option maxHeartbeats 3200000 in
theorem copyOfObj_N (d : UD) (xs : List Value) (S : List Nat) (w : World) (ht : tyL d (uE 8)) (hwt : wt d ≤ 1048576) (hx : oH w d xs S) (hS : S.Nodup) :
    Calls Tryz.prog 87 #[.agg xs.toArray] w fun e w' => copied w w' d e := by
  replace ht : tyL d [.i .i64, .s, .i .i64, .i .i64, .i .i64, .b, .l 1 0, .i .i64, .s, .i .i64, .l 1 0, .l 5 6, .i .i64, .s, .i .i64, .l 1 0, .l 5 6] := ht
  obtain ⟨z0, _, rfl, g0, h0⟩ := tyL.i ht
  obtain ⟨z1, _, rfl, g1, h1⟩ := tyL.s h0
  clear h0
  obtain ⟨z2, _, rfl, g2, h2⟩ := tyL.i h1
  clear h1
  obtain ⟨z3, _, rfl, g3, h3⟩ := tyL.i h2
  clear h2
  obtain ⟨z4, _, rfl, g4, h4⟩ := tyL.i h3
  clear h3
  obtain ⟨z5, _, rfl, h5⟩ := tyL.b h4
  clear h4
  obtain ⟨n6, c6, _, rfl, g6, h6⟩ := tyL.l h5
  clear h5
  obtain ⟨d7, _, rfl, g7, h7⟩ := tyL.split (f1 := uE 6) (f2 := [.i .i64, .s, .i .i64, .l 1 0, .l 5 6]) h6
  clear h6
  obtain ⟨d8, _, rfl, g8, h8⟩ := tyL.split (f1 := uE 6) (f2 := []) h7
  clear h7
  obtain rfl := tyL.nil h8
  clear h8 ht
  obtain ⟨_, rfl, h0⟩ := hx
  obtain ⟨_, rfl, h1⟩ := h0
  obtain ⟨_, rfl, h2⟩ := h1
  obtain ⟨_, rfl, h3⟩ := h2
  obtain ⟨_, rfl, h4⟩ := h3
  obtain ⟨_, rfl, h5⟩ := h4
  obtain ⟨u6, _, S6i, Sr, rfl, rfl, hk6, ⟨e6, zs6, o6, m6⟩, h6⟩ := h5
  obtain ⟨y7, _, S7, _, rfl, rfl, h7, h9⟩ := oH.split h6
  obtain ⟨y8, _, S8, _, rfl, rfl, h8, ⟨rfl, rfl⟩⟩ := oH.split h9
  clear h9
  have l7 : y7.length = 5 := h7.len.trans (tyL.len g7)
  have l8 : y8.length = 5 := h8.len.trans (tyL.len g8)
  simp only [wt, wtP, wt_app] at hwt
  obtain ⟨a6, p6, rfl⟩ := uowns_slice o6
  have hn6 : n6 ≤ 1048576 := by omega
  have hS7 : S7.Nodup := by simp only [List.nodup_append] at hS; exact hS.2.1.1
  have hS8 : S8.Nodup := by simp only [List.nodup_append] at hS; exact hS.2.1.2.1.1
  have hone6 : ∀ u ∈ zs6, u.oneCell' = true := oH.ones g6.2.2.2.2 m6
  obtain ⟨j0, hj0, hj1, hj2, hj3⟩ := infoCpS
  have HC7 : Hid (∀ wx, Below w.heap.size w wx → Calls Tryz.prog 152 #[.agg y7.toArray] wx fun e w' => ∃ ys T, e = .returned (.agg ys.toArray) ∧ ys.length = 5 ∧ Hid (oH w' d7 ys T) ∧ Hid (own2 T wx.heap.size w'.heap.size) ∧ Hid (∀ u ∈ ys, u.oneCell' = true) ∧ Hid (Below wx.heap.size wx w')) := fun wx hb => (copyOfAny_N d7 y7 S7 wx g7 (by omega) (h7.below hb) hS7).mono fun e w' ⟨ys, T, q1, q2, q3, q4⟩ => ⟨ys, T, q1, q2.len.trans (tyL.len g7), q2, q3, ones_own g7 q2, q4⟩
  have HC8 : Hid (∀ wx, Below w.heap.size w wx → Calls Tryz.prog 152 #[.agg y8.toArray] wx fun e w' => ∃ ys T, e = .returned (.agg ys.toArray) ∧ ys.length = 5 ∧ Hid (oH w' d8 ys T) ∧ Hid (own2 T wx.heap.size w'.heap.size) ∧ Hid (∀ u ∈ ys, u.oneCell' = true) ∧ Hid (Below wx.heap.size wx w')) := fun wx hb => (copyOfAny_N d8 y8 S8 wx g8 (by omega) (h8.below hb) hS8).mono fun e w' ⟨ys, T, q1, q2, q3, q4⟩ => ⟨ys, T, q1, q2.len.trans (tyL.len g8), q2, q3, ones_own g8 q2, q4⟩
  have O6 := uhide o6
  have M6 := uhide m6
  have H6 := uhide hone6
  have G6 := uhide g6
  have HY7 := uhide l7
  have HY8 := uhide l8
  have U7 : Hid (∀ u ∈ y7, u.oneCell' = true) := ones_own g7 h7
  have U8 : Hid (∀ u ∈ y8, u.oneCell' = true) := ones_own g8 h8
  have HL7 : Hid (∀ x : List Value, x.length = 5 → (Tryz.prog.info? 31).map (·.size) = some x.length) := fun x h => by rw [h]; exact Tryz.zObj_impl_Value
  clear o6 m6 hone6 g6 h6 h7 h8 g7 g8 hS hS7 hS8 hwt l7 l8
  obtain ⟨AX, hAX⟩ : ∃ AX : List Value, AX = (Value.int .i64 z0 :: (Value.string z1 :: (Value.int .i64 z2 :: (Value.int .i64 z3 :: (Value.int .i64 z4 :: (Value.bool z5 :: (Value.slice a6 n6 p6 :: (y7 ++ (y8 ++ []))))))))) := ⟨_, rfl⟩
  rw [← hAX]
  have BX : Hid (Below w.heap.size w ((w.alloc (.cells AX.toArray 38)).alloc (.cells [.int .i64 0, .string ⟨#[]⟩, .int .i64 0, .int .i64 0, .int .i64 0, .bool false, .slice none 0 0, .int .i64 0, .string ⟨#[]⟩, .int .i64 0, .slice none 0 0, .slice none 0 0, .int .i64 0, .string ⟨#[]⟩, .int .i64 0, .slice none 0 0, .slice none 0 0].toArray 38))) := ((Below.refl _ _).alloc (Nat.le_refl _) _).alloc (by simp) _
  have OBX : Hid (objU ((w.alloc (.cells AX.toArray 38)).alloc (.cells [.int .i64 0, .string ⟨#[]⟩, .int .i64 0, .int .i64 0, .int .i64 0, .bool false, .slice none 0 0, .int .i64 0, .string ⟨#[]⟩, .int .i64 0, .slice none 0 0, .slice none 0 0, .int .i64 0, .string ⟨#[]⟩, .int .i64 0, .slice none 0 0, .slice none 0 0].toArray 38)) w.heap.size 38 AX) := (objU.new _ _ _).old _
  have OZX : Hid (objU ((w.alloc (.cells AX.toArray 38)).alloc (.cells [.int .i64 0, .string ⟨#[]⟩, .int .i64 0, .int .i64 0, .int .i64 0, .bool false, .slice none 0 0, .int .i64 0, .string ⟨#[]⟩, .int .i64 0, .slice none 0 0, .slice none 0 0, .int .i64 0, .string ⟨#[]⟩, .int .i64 0, .slice none 0 0, .slice none 0 0].toArray 38)) (w.heap.size + 1) 38 [.int .i64 0, .string ⟨#[]⟩, .int .i64 0, .int .i64 0, .int .i64 0, .bool false, .slice none 0 0, .int .i64 0, .string ⟨#[]⟩, .int .i64 0, .slice none 0 0, .slice none 0 0, .int .i64 0, .string ⟨#[]⟩, .int .i64 0, .slice none 0 0, .slice none 0 0]) := objU.new2 _ _ (by simp)
  have C6 : Hid (((w.alloc (.cells AX.toArray 38)).alloc (.cells [.int .i64 0, .string ⟨#[]⟩, .int .i64 0, .int .i64 0, .int .i64 0, .bool false, .slice none 0 0, .int .i64 0, .string ⟨#[]⟩, .int .i64 0, .slice none 0 0, .slice none 0 0, .int .i64 0, .string ⟨#[]⟩, .int .i64 0, .slice none 0 0, .slice none 0 0].toArray 38)).cell? ⟨w.heap.size, 6, none⟩ = some (.slice a6 n6 p6)) := OBX.out.cell 6 _ (by rw [hAX]; rfl)
  have SZX : Hid (w.heap.size + 2 ≤ ((w.alloc (.cells AX.toArray 38)).alloc (.cells [.int .i64 0, .string ⟨#[]⟩, .int .i64 0, .int .i64 0, .int .i64 0, .bool false, .slice none 0 0, .int .i64 0, .string ⟨#[]⟩, .int .i64 0, .slice none 0 0, .slice none 0 0, .int .i64 0, .string ⟨#[]⟩, .int .i64 0, .slice none 0 0, .slice none 0 0].toArray 38)).heap.size) := by show _ ≤ _; simp
  have O6X : Hid (((w.alloc (.cells AX.toArray 38)).alloc (.cells [.int .i64 0, .string ⟨#[]⟩, .int .i64 0, .int .i64 0, .int .i64 0, .bool false, .slice none 0 0, .int .i64 0, .string ⟨#[]⟩, .int .i64 0, .slice none 0 0, .slice none 0 0, .int .i64 0, .string ⟨#[]⟩, .int .i64 0, .slice none 0 0, .slice none 0 0].toArray 38)).ownsRow 0 e6 1 (.slice a6 n6 p6) n6 zs6) := uowns_frame O6.out (fun x hx => BX.out.block x (ublk_lt O6.out x hx).2)
  have M6w : Hid (∀ wx, oH wx c6 zs6 []) := fun wx => plain_own (by intro f hf k t e; subst e; simp [uE] at hf) G6.out.2.2.2.2 (M6.out.hand (lo := 0) (hi := w.heap.size) (fun g hg => ⟨Nat.zero_le _, M6.out.lt _ _ _ g hg⟩))
  have HAX := uhide hAX
  clear hAX
  go_enter Tryz.func87, Tryz.ntmps87
  go_wp2_with (first
    | ((with_reducible refine wpList_load_one ?qqg1 28 ?qqx1 ?qqo1 w.heap.size 6 ?qqh1 (.slice a6 n6 p6) Tryz.rObj_Lstring C6.out ?_); (case qqg1 => rfl); (case qqo1 => rfl); (case qqh1 => first | (simp [Act.eval]; done) | (simp [Act.eval, Act.put]; done)))
    | (at_builtin
       refine wpList_append_rows rfl _ _ 28 rfl (w.heap.size + 2) 9 j0 (.string ByteArray.empty) 1 16 Tryz.underlying28 hj0 hj1 hj2 hj3 (by decide) (by decide) (.slice none 0 0) 0 [] rfl (World.ownsRow_nil _ _ _ _) (.slice a6 n6 p6) rfl n6 zs6 O6X.out.1 H6.out (own_src O6X.out) (by unfold maxLen; omega) (by omega) SZX.out ?_
       intro v1 w1 hown1 hgrow1 hat1
       rw [Nat.zero_add, List.nil_append] at hown1
       obtain ⟨a1, p1, rfl⟩ := uowns_slice hown1
       have EG : Hid (OutS [] _ w1) := OutS.grownNone hgrow1
       have OB1 := uhide (OBX.out.outS EG.out (by simp))
       have OZ1 := uhide (OZX.out.outS EG.out (by simp))
       have BW1 : Hid (Below w.heap.size w w1) := BX.out.trans (EG.out.below (fun t ht => by cases ht) (Nat.le_trans (by omega) SZX.out))
       have SZ1 : Hid (w.heap.size + 2 ≤ w1.heap.size) := Nat.le_trans SZX.out EG.out.size
       have R1 := uhide hown1
       have TH1 : Hid (w1.there w.heap.size 6 1) := OB1.out.there 6 1 (by rw [HAX.out]; simp)
       clear hown1 hgrow1 hat1 EG OBX OZX BX C6 SZX O6X)
    | ((with_reducible refine wpList_store_v ?qqg2 28 ?qqx2 ?qqy2 ?qqo2 ?qqd2 w.heap.size 6 ?qqh2 (.slice a1 n6 p1) ?qqv2 one_slice Tryz.zObj_Lstring TH1.out ?_); (case qqg2 => rfl); (case qqo2 => rfl); (case qqd2 => rfl); (case qqh2 => first | (simp [Act.eval]; done) | (simp [Act.eval, Act.put]; done)); (case qqv2 => first | (simp [Act.eval]; done) | (simp [Act.eval, Act.put]; done))
       intro W0 eW
       have EW : Hid (OutS [w.heap.size] w1 W0) := by subst eW; exact OutS.setCells _ 6 w1
       have OB : Hid (objU W0 w.heap.size 38 ([Value.int .i64 z0, .string z1, .int .i64 z2, .int .i64 z3, .int .i64 z4, .bool z5, .slice a1 n6 p1] ++ (y7 ++ (y8 ++ [])))) := by
         have h := OB1.out
         rw [HAX.out] at h
         have h2 := objU.setCells [Value.slice a1 n6 p1] [Value.slice a6 n6 p6] [Value.int .i64 z0, .string z1, .int .i64 z2, .int .i64 z3, .int .i64 z4, .bool z5] (y7 ++ (y8 ++ [])) w1 h rfl
         subst eW; exact h2
       have OZ : Hid (objU W0 (w.heap.size + 1) 38 [.int .i64 0, .string ⟨#[]⟩, .int .i64 0, .int .i64 0, .int .i64 0, .bool false, .slice none 0 0, .int .i64 0, .string ⟨#[]⟩, .int .i64 0, .slice none 0 0, .slice none 0 0, .int .i64 0, .string ⟨#[]⟩, .int .i64 0, .slice none 0 0, .slice none 0 0]) := OZ1.out.outS EW.out (by simp)
       have B0 : Hid (Below w.heap.size w W0) := BW1.out.trans (EW.out.below (fun t ht => by simp at ht; omega) BW1.out.size)
       have HZ : Hid (w.heap.size + 2 ≤ W0.heap.size) := Nat.le_trans SZ1.out EW.out.size
       have R0 := uowns_frame R1.out (w' := W0) (fun x hx => EW.out.block x (ublk_lt R1.out x hx).2 (by have := (ublk_lt R1.out x hx).1; simp; omega))
       have W6 : Hid (own2 (blkOf (.slice a1 n6 p1)) (w.heap.size + 2) W0.heap.size) := ⟨by unfold blkOf; split <;> simp, fun s hs => ublk_lt R0 s hs⟩
       have O6n : Hid (oS W0 1 n6 c6 (.slice a1 n6 p1) (blkOf (.slice a1 n6 p1))) := ⟨by decide, 9, zs6, [], owns_base R0, M6w.out W0, by simp⟩
       have K6 : Hid (∀ u ∈ [Value.int .i64 z0, .string z1, .int .i64 z2, .int .i64 z3, .int .i64 z4, .bool z5, .slice a1 n6 p1], u.oneCell' = true) := fun u hu => by
         simp only [List.mem_cons, List.not_mem_nil, or_false] at hu
         rcases hu with rfl | rfl | rfl | rfl | rfl | rfl | rfl <;> rfl
       clear R0 eW EW OB1 OZ1 BW1 SZ1 R1 TH1 O6 M6 H6 G6 HAX M6w)
    )
  have O6 := O6n
  clear O6n
  have Hy7 : Hid (∀ i v, y7[i]? = some v → ([Value.int .i64 z0, .string z1, .int .i64 z2, .int .i64 z3, .int .i64 z4, .bool z5, .slice a1 n6 p1] ++ (y7 ++ (y8 ++ [])))[7 + i]? = some v) := fun i v h => at_mid (pre := [Value.int .i64 z0, .string z1, .int .i64 z2, .int .i64 z3, .int .i64 z4, .bool z5, .slice a1 n6 p1]) (ys := y7) (post := (y8 ++ [])) rfl rfl h
  have Hy8 : Hid (∀ i v, y8[i]? = some v → ([Value.int .i64 z0, .string z1, .int .i64 z2, .int .i64 z3, .int .i64 z4, .bool z5, .slice a1 n6 p1] ++ (y7 ++ (y8 ++ [])))[12 + i]? = some v) := fun i v h => at_mid (pre := [Value.int .i64 z0, .string z1, .int .i64 z2, .int .i64 z3, .int .i64 z4, .bool z5, .slice a1 n6 p1] ++ y7) (ys := y8) (post := []) (by simp) (by simp [HY7.out]) h
  have HLy7 := uhide (HL7.out y7 HY7.out)
  have HLy8 := uhide (HL7.out y8 HY8.out)
  have HC7 : Hid (∀ wx, Below W0.heap.size W0 wx → Calls Tryz.prog 152 #[.agg y7.toArray] wx fun e w' => ∃ ys T, e = .returned (.agg ys.toArray) ∧ ys.length = 5 ∧ Hid (oH w' d7 ys T) ∧ Hid (own2 T wx.heap.size w'.heap.size) ∧ Hid (∀ u ∈ ys, u.oneCell' = true) ∧ Hid (Below wx.heap.size wx w')) := fun wx hb => HC7.out wx (B0.out.trans (hb.mono B0.out.size))
  have HC8 : Hid (∀ wx, Below W0.heap.size W0 wx → Calls Tryz.prog 152 #[.agg y8.toArray] wx fun e w' => ∃ ys T, e = .returned (.agg ys.toArray) ∧ ys.length = 5 ∧ Hid (oH w' d8 ys T) ∧ Hid (own2 T wx.heap.size w'.heap.size) ∧ Hid (∀ u ∈ ys, u.oneCell' = true) ∧ Hid (Below wx.heap.size wx w')) := fun wx hb => HC8.out wx (B0.out.trans (hb.mono B0.out.size))
  clear U7 U8
  refine wp_region_held_drew (S := fun _ => True) (by kernel_rfl) trivial (fun hHeld => ?_)
  refine wpAnyH_take (i := 0) (oi := ⟨some 7, .fieldAddr _ (.tmp 1) 7, _, _, _, _⟩) (v := .pointer (some ⟨w.heap.size, 7, none⟩)) rfl (by kernel_rfl) (by kernel_rfl) (by kernel_rfl) (fun _ _ _ h => h) (Or.inl ⟨by rfl, by intro w hSw; go_simp⟩) hHeld ?_
  simp only [Act.put, List.setIfInBounds_toArray, List.set_cons_zero, List.set_cons_succ]
  refine wpAnyH_take (i := 3) (oi := ⟨some 10, .fieldAddr _ (.tmp 1) 8, _, _, _, _⟩) (v := .pointer (some ⟨w.heap.size, 12, none⟩)) rfl (by kernel_rfl) (by kernel_rfl) (by kernel_rfl) (fun _ _ _ h => h) (Or.inl ⟨by rfl, by intro w hSw; go_simp⟩) hHeld ?_
  simp only [Act.put, List.setIfInBounds_toArray, List.set_cons_zero, List.set_cons_succ]
  refine wpAnyH_ready (rs := [1, 4]) (by kernel_rfl) (by simp) (AllReadyH.cons (o := ⟨some 8, .load 31 (.tmp 7), _, _, _, _⟩) rfl (fun K hK => ?_) (AllReadyH.cons (o := ⟨some 11, .load 31 (.tmp 10), _, _, _, _⟩) rfl (fun K hK => ?_) AllReadyH.nil))
  · refine step_load_row (by rfl) 31 _ rfl w.heap.size 7 rfl y7 (by kernel_rfl) HLy7.out ((OB.out.below (Below.drew (Below.refl W0.heap.size W0))).range 7 y7 Hy7.out) ?_
    refine hK.out _ _ trivial (fun hHeld => ?_)
    clear hK K
    simp only [Act.put, List.setIfInBounds_toArray, List.set_cons_zero, List.set_cons_succ]
    refine wpAnyH_ready (rs := [2, 4]) (by kernel_rfl) (by simp) (AllReadyH.cons (o := ⟨some 9, .call { callee := .value (.func 152), args := #[.tmp 8], argTypes := #[31] }, _, _, _, _⟩) rfl (fun K hK => ?_) (AllReadyH.cons (o := ⟨some 11, .load 31 (.tmp 10), _, _, _, _⟩) rfl (fun K hK => ?_) AllReadyH.nil))
    · refine step_call_of rfl 152 #[.tmp 8] #[31] rfl (callFunc_enter Tryz.func152 (by kernel_rfl) (by kernel_rfl)) #[.agg y7.toArray] (by simp [Act.eval]) (HC7.out W0.drew (Below.drew (Below.refl W0.heap.size W0))) ?_
      rintro e w3 ⟨x7, T7, rfl, l7, K7, W7, U7, B7⟩
      refine ⟨.agg x7.toArray, rfl, hK.out _ _ trivial (fun hHeld => ?_)⟩
      clear hK K
      simp only [Act.put, List.setIfInBounds_toArray, List.set_cons_zero, List.set_cons_succ]
      refine wpAnyH_ready (rs := [4]) (by kernel_rfl) (by simp) (AllReadyH.cons (o := ⟨some 11, .load 31 (.tmp 10), _, _, _, _⟩) rfl (fun K hK => ?_) AllReadyH.nil)
      refine step_load_row (by rfl) 31 _ rfl w.heap.size 12 rfl y8 (by kernel_rfl) HLy8.out ((OB.out.below (Below.trans (Below.drew (Below.refl W0.heap.size W0)) (B7.out.mono ((Below.drew (Below.refl W0.heap.size W0))).size))).range 12 y8 Hy8.out) ?_
      refine hK.out _ _ trivial (fun hHeld => ?_)
      clear hK K
      simp only [Act.put, List.setIfInBounds_toArray, List.set_cons_zero, List.set_cons_succ]
      refine wpAnyH_take (i := 6) (oi := ⟨some 13, .fieldAddr _ (.tmp 1) 7, _, _, _, _⟩) (v := .pointer (some ⟨w.heap.size, 7, none⟩)) rfl (by kernel_rfl) (by kernel_rfl) (by kernel_rfl) (fun _ _ _ h => h) (Or.inl ⟨by rfl, by intro w hSw; go_simp⟩) hHeld ?_
      simp only [Act.put, List.setIfInBounds_toArray, List.set_cons_zero, List.set_cons_succ]
      refine wpAnyH_ready (rs := [5]) (by kernel_rfl) (by simp) (AllReadyH.cons (o := ⟨some 12, .call { callee := .value (.func 152), args := #[.tmp 11], argTypes := #[31] }, _, _, _, _⟩) rfl (fun K hK => ?_) AllReadyH.nil)
      refine step_call_of rfl 152 #[.tmp 11] #[31] rfl (callFunc_enter Tryz.func152 (by kernel_rfl) (by kernel_rfl)) #[.agg y8.toArray] (by simp [Act.eval]) (HC8.out w3 (Below.trans (Below.drew (Below.refl W0.heap.size W0)) (B7.out.mono ((Below.drew (Below.refl W0.heap.size W0))).size))) ?_
      rintro e w5 ⟨x8, T8, rfl, l8, K8, W8, U8, B8⟩
      refine ⟨.agg x8.toArray, rfl, hK.out _ _ trivial (fun hHeld => ?_)⟩
      clear hK K
      simp only [Act.put, List.setIfInBounds_toArray, List.set_cons_zero, List.set_cons_succ]
      have HB5 : Hid (Below W0.heap.size W0 w5) := (Below.trans (Below.trans (Below.drew (Below.refl W0.heap.size W0)) (B7.out.mono ((Below.drew (Below.refl W0.heap.size W0))).size)) (B8.out.mono ((Below.trans (Below.drew (Below.refl W0.heap.size W0)) (B7.out.mono ((Below.drew (Below.refl W0.heap.size W0))).size))).size))
      have OB5 : Hid (objU w5 w.heap.size 38 ([Value.int .i64 z0, .string z1, .int .i64 z2, .int .i64 z3, .int .i64 z4, .bool z5, .slice a1 n6 p1] ++ (y7 ++ (y8 ++ [])))) := OB.out.below HB5.out
      refine wpAnyH_ready (rs := [7]) (by kernel_rfl) (by simp) (AllReadyH.cons (o := ⟨none, .store 31 (.tmp 13) (.tmp 9), _, _, _, _⟩) rfl (fun K hK => ?_) AllReadyH.nil)
      refine step_store_cells (by rfl) 31 _ _ rfl rfl w.heap.size 7 rfl (.agg x7.toArray) rfl x7 cells_agg U7.out (HL7.out x7 l7) (OB5.out.there 7 x7.length (by rw [l7]; simp [HY7.out, HY8.out])) ?_
      intro w6 e6
      have OB6 : Hid (objU w6 w.heap.size 38 ([Value.int .i64 z0, .string z1, .int .i64 z2, .int .i64 z3, .int .i64 z4, .bool z5, .slice a1 n6 p1] ++ (x7 ++ (y8 ++ [])))) := by subst e6; exact objU.setCells x7 y7 ([Value.int .i64 z0, .string z1, .int .i64 z2, .int .i64 z3, .int .i64 z4, .bool z5, .slice a1 n6 p1]) (y8 ++ []) w5 OB5.out (by rw [l7, HY7.out])
      have E6 : Hid (OutS [w.heap.size] w5 w6) := by subst e6; exact OutS.setCells x7 7 w5
      clear e6
      refine hK.out _ _ trivial (fun hHeld => ?_)
      clear hK K
      simp only [Act.put]
      refine wpAnyH_take (i := 8) (oi := ⟨some 14, .fieldAddr _ (.tmp 1) 8, _, _, _, _⟩) (v := .pointer (some ⟨w.heap.size, 12, none⟩)) rfl (by kernel_rfl) (by kernel_rfl) (by kernel_rfl) (fun _ _ _ h => h) (Or.inl ⟨by rfl, by intro w hSw; go_simp⟩) hHeld ?_
      simp only [Act.put, List.setIfInBounds_toArray, List.set_cons_zero, List.set_cons_succ]
      refine wpAnyH_ready (rs := [9]) (by kernel_rfl) (by simp) (AllReadyH.cons (o := ⟨none, .store 31 (.tmp 14) (.tmp 12), _, _, _, _⟩) rfl (fun K hK => ?_) AllReadyH.nil)
      refine step_store_cells (by rfl) 31 _ _ rfl rfl w.heap.size 12 rfl (.agg x8.toArray) rfl x8 cells_agg U8.out (HL7.out x8 l8) (OB6.out.there 12 x8.length (by rw [l8]; simp [l7, HY8.out])) ?_
      intro w7 e7
      have OB7 : Hid (objU w7 w.heap.size 38 (([Value.int .i64 z0, .string z1, .int .i64 z2, .int .i64 z3, .int .i64 z4, .bool z5, .slice a1 n6 p1] ++ x7) ++ (x8 ++ []))) := by
        have h := objU.setCells x8 y8 ([Value.int .i64 z0, .string z1, .int .i64 z2, .int .i64 z3, .int .i64 z4, .bool z5, .slice a1 n6 p1] ++ x7) [] w6 (by rw [List.append_assoc]; exact OB6.out) (by rw [l8, HY8.out])
        rw [show ([Value.int .i64 z0, .string z1, .int .i64 z2, .int .i64 z3, .int .i64 z4, .bool z5, .slice a1 n6 p1] ++ x7).length = 12 by simp [l7]] at h
        subst e7; exact h
      have E7 : Hid (OutS [w.heap.size] w6 w7) := by subst e7; exact OutS.setCells x8 12 w6
      clear e7
      refine hK.out _ _ trivial (fun hHeld => ?_)
      clear hK K
      simp only [Act.put]
      refine wpAnyH_done (by kernel_rfl) ?_ _
      clear hHeld
      have HE : Hid (CpEnd w w7 38 (.p (.int .i64 z0) (.p (.string z1) (.p (.int .i64 z2) (.p (.int .i64 z3) (.p (.int .i64 z4) (.p (.bool z5) (.l 1 n6 c6 (UD.app d7 (UD.app d8 UD.nil))))))))) (([Value.int .i64 z0, .string z1, .int .i64 z2, .int .i64 z3, .int .i64 z4, .bool z5, .slice a1 n6 p1] ++ x7) ++ (x8 ++ [])) [.int .i64 0, .string ⟨#[]⟩, .int .i64 0, .int .i64 0, .int .i64 0, .bool false, .slice none 0 0, .int .i64 0, .string ⟨#[]⟩, .int .i64 0, .slice none 0 0, .slice none 0 0, .int .i64 0, .string ⟨#[]⟩, .int .i64 0, .slice none 0 0, .slice none 0 0]) := cpobj_end (w3 := w3) (w5 := w5) (w6 := w6) OZ.out B0.out HZ.out O6.out K6.out W6.out K7.out W7.out K8.out W8.out (Below.drew (Below.refl W0.heap.size W0)).size B7.out.size (Nat.le_refl _) (Nat.le_refl _) B8.out.size HZ.out U7.out U8.out HB5.out B8.out E6.out E7.out OB7.out
      obtain ⟨AX, hAX⟩ : ∃ AX : List Value, AX = (([Value.int .i64 z0, .string z1, .int .i64 z2, .int .i64 z3, .int .i64 z4, .bool z5, .slice a1 n6 p1] ++ x7) ++ (x8 ++ [])) := ⟨_, rfl⟩
      rw [← hAX] at HE
      have hal : AX.length = 17 := by rw [hAX]; simp [l7, l8]
      have HAL := uhide hal
      have HFA : Hid ((Tryz.prog.info? 38).map (·.size) = some AX.length) := by show _ = _; rw [hal]; exact Tryz.zObj_impl_Obj
      have HTH : Hid (w7.there (w.heap.size + 1) 0 AX.length) := by show World.there _ _ _ _; rw [hal]; exact HE.out.res.there 0 17 (by decide)
      have HRG : Hid (w7.rangeAt w.heap.size 0 AX) := HE.out.box.range 0 AX (fun j v h => by rw [Nat.zero_add]; exact h)
      clear hAX hal OB OZ B0 HZ O6 K6 W6 K7 W7 K8 W8 B7 B8 E6 E7 OB7 OB5 OB6 HB5 U7 U8 HC7 HC8 l7 l8 HY7 HY8 HLy7 HLy8 HL7 Hy7 Hy8
      go_wp2_with (first
        | ((with_reducible refine wpList_load_row2 ?qqg21 38 ?qqx21 ?qqo21 w.heap.size 0 ?qqh21 AX Tryz.rObj_impl_Obj HFA.out HRG.out ?_); (case qqg21 => rfl); (case qqo21 => rfl); (case qqh21 => first | (simp [Act.eval]; done) | (simp [Act.eval, Act.put]; done)))
        | ((with_reducible refine wpList_store_cells ?qqg22 38 ?qqx22 ?qqy22 ?qqo22 ?qqd22 (w.heap.size + 1) 0 ?qqh22 (.agg AX.toArray) ?qqv22 AX cells_agg HE.out.ones HFA.out HTH.out ?_); (case qqg22 => rfl); (case qqo22 => rfl); (case qqd22 => rfl); (case qqh22 => first | (simp [Act.eval]; done) | (simp [Act.eval, Act.put]; done)); (case qqv22 => first | (simp [Act.eval]; done) | (simp [Act.eval, Act.put]; done)); intro w8 e8; have HF := uhide (HE.out.fin HAL.out e8); clear e8)
        )
      obtain ⟨hres, S', ho', hS', hb'⟩ := HF.out
      refine bodyPost_ret (v := .agg AX.toArray) ?_ rfl (copied.mk' ho' hS' hb')
      exact results_row rfl _ _ (w.heap.size + 1) _ _ (by simp [Act.put]) hres Tryz.rObj_impl_Obj HFA.out
    · refine step_load_row (by rfl) 31 _ rfl w.heap.size 12 rfl y8 (by kernel_rfl) HLy8.out ((OB.out.below (Below.drew (Below.refl W0.heap.size W0))).range 12 y8 Hy8.out) ?_
      refine hK.out _ _ trivial (fun hHeld => ?_)
      clear hK K
      simp only [Act.put, List.setIfInBounds_toArray, List.set_cons_zero, List.set_cons_succ]
      refine wpAnyH_ready (rs := [2]) (by kernel_rfl) (by simp) (AllReadyH.cons (o := ⟨some 9, .call { callee := .value (.func 152), args := #[.tmp 8], argTypes := #[31] }, _, _, _, _⟩) rfl (fun K hK => ?_) AllReadyH.nil)
      refine step_call_of rfl 152 #[.tmp 8] #[31] rfl (callFunc_enter Tryz.func152 (by kernel_rfl) (by kernel_rfl)) #[.agg y7.toArray] (by simp [Act.eval]) (HC7.out W0.drew (Below.drew (Below.refl W0.heap.size W0))) ?_
      rintro e w3 ⟨x7, T7, rfl, l7, K7, W7, U7, B7⟩
      refine ⟨.agg x7.toArray, rfl, hK.out _ _ trivial (fun hHeld => ?_)⟩
      clear hK K
      simp only [Act.put, List.setIfInBounds_toArray, List.set_cons_zero, List.set_cons_succ]
      refine wpAnyH_take (i := 6) (oi := ⟨some 13, .fieldAddr _ (.tmp 1) 7, _, _, _, _⟩) (v := .pointer (some ⟨w.heap.size, 7, none⟩)) rfl (by kernel_rfl) (by kernel_rfl) (by kernel_rfl) (fun _ _ _ h => h) (Or.inl ⟨by rfl, by intro w hSw; go_simp⟩) hHeld ?_
      simp only [Act.put, List.setIfInBounds_toArray, List.set_cons_zero, List.set_cons_succ]
      refine wpAnyH_ready (rs := [5]) (by kernel_rfl) (by simp) (AllReadyH.cons (o := ⟨some 12, .call { callee := .value (.func 152), args := #[.tmp 11], argTypes := #[31] }, _, _, _, _⟩) rfl (fun K hK => ?_) AllReadyH.nil)
      refine step_call_of rfl 152 #[.tmp 11] #[31] rfl (callFunc_enter Tryz.func152 (by kernel_rfl) (by kernel_rfl)) #[.agg y8.toArray] (by simp [Act.eval]) (HC8.out w3 (Below.trans (Below.drew (Below.refl W0.heap.size W0)) (B7.out.mono ((Below.drew (Below.refl W0.heap.size W0))).size))) ?_
      rintro e w5 ⟨x8, T8, rfl, l8, K8, W8, U8, B8⟩
      refine ⟨.agg x8.toArray, rfl, hK.out _ _ trivial (fun hHeld => ?_)⟩
      clear hK K
      simp only [Act.put, List.setIfInBounds_toArray, List.set_cons_zero, List.set_cons_succ]
      have HB5 : Hid (Below W0.heap.size W0 w5) := (Below.trans (Below.trans (Below.drew (Below.refl W0.heap.size W0)) (B7.out.mono ((Below.drew (Below.refl W0.heap.size W0))).size)) (B8.out.mono ((Below.trans (Below.drew (Below.refl W0.heap.size W0)) (B7.out.mono ((Below.drew (Below.refl W0.heap.size W0))).size))).size))
      have OB5 : Hid (objU w5 w.heap.size 38 ([Value.int .i64 z0, .string z1, .int .i64 z2, .int .i64 z3, .int .i64 z4, .bool z5, .slice a1 n6 p1] ++ (y7 ++ (y8 ++ [])))) := OB.out.below HB5.out
      refine wpAnyH_ready (rs := [7]) (by kernel_rfl) (by simp) (AllReadyH.cons (o := ⟨none, .store 31 (.tmp 13) (.tmp 9), _, _, _, _⟩) rfl (fun K hK => ?_) AllReadyH.nil)
      refine step_store_cells (by rfl) 31 _ _ rfl rfl w.heap.size 7 rfl (.agg x7.toArray) rfl x7 cells_agg U7.out (HL7.out x7 l7) (OB5.out.there 7 x7.length (by rw [l7]; simp [HY7.out, HY8.out])) ?_
      intro w6 e6
      have OB6 : Hid (objU w6 w.heap.size 38 ([Value.int .i64 z0, .string z1, .int .i64 z2, .int .i64 z3, .int .i64 z4, .bool z5, .slice a1 n6 p1] ++ (x7 ++ (y8 ++ [])))) := by subst e6; exact objU.setCells x7 y7 ([Value.int .i64 z0, .string z1, .int .i64 z2, .int .i64 z3, .int .i64 z4, .bool z5, .slice a1 n6 p1]) (y8 ++ []) w5 OB5.out (by rw [l7, HY7.out])
      have E6 : Hid (OutS [w.heap.size] w5 w6) := by subst e6; exact OutS.setCells x7 7 w5
      clear e6
      refine hK.out _ _ trivial (fun hHeld => ?_)
      clear hK K
      simp only [Act.put]
      refine wpAnyH_take (i := 8) (oi := ⟨some 14, .fieldAddr _ (.tmp 1) 8, _, _, _, _⟩) (v := .pointer (some ⟨w.heap.size, 12, none⟩)) rfl (by kernel_rfl) (by kernel_rfl) (by kernel_rfl) (fun _ _ _ h => h) (Or.inl ⟨by rfl, by intro w hSw; go_simp⟩) hHeld ?_
      simp only [Act.put, List.setIfInBounds_toArray, List.set_cons_zero, List.set_cons_succ]
      refine wpAnyH_ready (rs := [9]) (by kernel_rfl) (by simp) (AllReadyH.cons (o := ⟨none, .store 31 (.tmp 14) (.tmp 12), _, _, _, _⟩) rfl (fun K hK => ?_) AllReadyH.nil)
      refine step_store_cells (by rfl) 31 _ _ rfl rfl w.heap.size 12 rfl (.agg x8.toArray) rfl x8 cells_agg U8.out (HL7.out x8 l8) (OB6.out.there 12 x8.length (by rw [l8]; simp [l7, HY8.out])) ?_
      intro w7 e7
      have OB7 : Hid (objU w7 w.heap.size 38 (([Value.int .i64 z0, .string z1, .int .i64 z2, .int .i64 z3, .int .i64 z4, .bool z5, .slice a1 n6 p1] ++ x7) ++ (x8 ++ []))) := by
        have h := objU.setCells x8 y8 ([Value.int .i64 z0, .string z1, .int .i64 z2, .int .i64 z3, .int .i64 z4, .bool z5, .slice a1 n6 p1] ++ x7) [] w6 (by rw [List.append_assoc]; exact OB6.out) (by rw [l8, HY8.out])
        rw [show ([Value.int .i64 z0, .string z1, .int .i64 z2, .int .i64 z3, .int .i64 z4, .bool z5, .slice a1 n6 p1] ++ x7).length = 12 by simp [l7]] at h
        subst e7; exact h
      have E7 : Hid (OutS [w.heap.size] w6 w7) := by subst e7; exact OutS.setCells x8 12 w6
      clear e7
      refine hK.out _ _ trivial (fun hHeld => ?_)
      clear hK K
      simp only [Act.put]
      refine wpAnyH_done (by kernel_rfl) ?_ _
      clear hHeld
      have HE : Hid (CpEnd w w7 38 (.p (.int .i64 z0) (.p (.string z1) (.p (.int .i64 z2) (.p (.int .i64 z3) (.p (.int .i64 z4) (.p (.bool z5) (.l 1 n6 c6 (UD.app d7 (UD.app d8 UD.nil))))))))) (([Value.int .i64 z0, .string z1, .int .i64 z2, .int .i64 z3, .int .i64 z4, .bool z5, .slice a1 n6 p1] ++ x7) ++ (x8 ++ [])) [.int .i64 0, .string ⟨#[]⟩, .int .i64 0, .int .i64 0, .int .i64 0, .bool false, .slice none 0 0, .int .i64 0, .string ⟨#[]⟩, .int .i64 0, .slice none 0 0, .slice none 0 0, .int .i64 0, .string ⟨#[]⟩, .int .i64 0, .slice none 0 0, .slice none 0 0]) := cpobj_end (w3 := w3) (w5 := w5) (w6 := w6) OZ.out B0.out HZ.out O6.out K6.out W6.out K7.out W7.out K8.out W8.out (Below.drew (Below.refl W0.heap.size W0)).size B7.out.size (Nat.le_refl _) (Nat.le_refl _) B8.out.size HZ.out U7.out U8.out HB5.out B8.out E6.out E7.out OB7.out
      obtain ⟨AX, hAX⟩ : ∃ AX : List Value, AX = (([Value.int .i64 z0, .string z1, .int .i64 z2, .int .i64 z3, .int .i64 z4, .bool z5, .slice a1 n6 p1] ++ x7) ++ (x8 ++ [])) := ⟨_, rfl⟩
      rw [← hAX] at HE
      have hal : AX.length = 17 := by rw [hAX]; simp [l7, l8]
      have HAL := uhide hal
      have HFA : Hid ((Tryz.prog.info? 38).map (·.size) = some AX.length) := by show _ = _; rw [hal]; exact Tryz.zObj_impl_Obj
      have HTH : Hid (w7.there (w.heap.size + 1) 0 AX.length) := by show World.there _ _ _ _; rw [hal]; exact HE.out.res.there 0 17 (by decide)
      have HRG : Hid (w7.rangeAt w.heap.size 0 AX) := HE.out.box.range 0 AX (fun j v h => by rw [Nat.zero_add]; exact h)
      clear hAX hal OB OZ B0 HZ O6 K6 W6 K7 W7 K8 W8 B7 B8 E6 E7 OB7 OB5 OB6 HB5 U7 U8 HC7 HC8 l7 l8 HY7 HY8 HLy7 HLy8 HL7 Hy7 Hy8
      go_wp2_with (first
        | ((with_reducible refine wpList_load_row2 ?qqg31 38 ?qqx31 ?qqo31 w.heap.size 0 ?qqh31 AX Tryz.rObj_impl_Obj HFA.out HRG.out ?_); (case qqg31 => rfl); (case qqo31 => rfl); (case qqh31 => first | (simp [Act.eval]; done) | (simp [Act.eval, Act.put]; done)))
        | ((with_reducible refine wpList_store_cells ?qqg32 38 ?qqx32 ?qqy32 ?qqo32 ?qqd32 (w.heap.size + 1) 0 ?qqh32 (.agg AX.toArray) ?qqv32 AX cells_agg HE.out.ones HFA.out HTH.out ?_); (case qqg32 => rfl); (case qqo32 => rfl); (case qqd32 => rfl); (case qqh32 => first | (simp [Act.eval]; done) | (simp [Act.eval, Act.put]; done)); (case qqv32 => first | (simp [Act.eval]; done) | (simp [Act.eval, Act.put]; done)); intro w8 e8; have HF := uhide (HE.out.fin HAL.out e8); clear e8)
        )
      obtain ⟨hres, S', ho', hS', hb'⟩ := HF.out
      refine bodyPost_ret (v := .agg AX.toArray) ?_ rfl (copied.mk' ho' hS' hb')
      exact results_row rfl _ _ (w.heap.size + 1) _ _ (by simp [Act.put]) hres Tryz.rObj_impl_Obj HFA.out
  · refine step_load_row (by rfl) 31 _ rfl w.heap.size 12 rfl y8 (by kernel_rfl) HLy8.out ((OB.out.below (Below.drew (Below.refl W0.heap.size W0))).range 12 y8 Hy8.out) ?_
    refine hK.out _ _ trivial (fun hHeld => ?_)
    clear hK K
    simp only [Act.put, List.setIfInBounds_toArray, List.set_cons_zero, List.set_cons_succ]
    refine wpAnyH_ready (rs := [1]) (by kernel_rfl) (by simp) (AllReadyH.cons (o := ⟨some 8, .load 31 (.tmp 7), _, _, _, _⟩) rfl (fun K hK => ?_) AllReadyH.nil)
    refine step_load_row (by rfl) 31 _ rfl w.heap.size 7 rfl y7 (by kernel_rfl) HLy7.out ((OB.out.below (Below.drew (Below.refl W0.heap.size W0))).range 7 y7 Hy7.out) ?_
    refine hK.out _ _ trivial (fun hHeld => ?_)
    clear hK K
    simp only [Act.put, List.setIfInBounds_toArray, List.set_cons_zero, List.set_cons_succ]
    refine wpAnyH_ready (rs := [2]) (by kernel_rfl) (by simp) (AllReadyH.cons (o := ⟨some 9, .call { callee := .value (.func 152), args := #[.tmp 8], argTypes := #[31] }, _, _, _, _⟩) rfl (fun K hK => ?_) AllReadyH.nil)
    refine step_call_of rfl 152 #[.tmp 8] #[31] rfl (callFunc_enter Tryz.func152 (by kernel_rfl) (by kernel_rfl)) #[.agg y7.toArray] (by simp [Act.eval]) (HC7.out W0.drew (Below.drew (Below.refl W0.heap.size W0))) ?_
    rintro e w3 ⟨x7, T7, rfl, l7, K7, W7, U7, B7⟩
    refine ⟨.agg x7.toArray, rfl, hK.out _ _ trivial (fun hHeld => ?_)⟩
    clear hK K
    simp only [Act.put, List.setIfInBounds_toArray, List.set_cons_zero, List.set_cons_succ]
    refine wpAnyH_take (i := 6) (oi := ⟨some 13, .fieldAddr _ (.tmp 1) 7, _, _, _, _⟩) (v := .pointer (some ⟨w.heap.size, 7, none⟩)) rfl (by kernel_rfl) (by kernel_rfl) (by kernel_rfl) (fun _ _ _ h => h) (Or.inl ⟨by rfl, by intro w hSw; go_simp⟩) hHeld ?_
    simp only [Act.put, List.setIfInBounds_toArray, List.set_cons_zero, List.set_cons_succ]
    refine wpAnyH_ready (rs := [5]) (by kernel_rfl) (by simp) (AllReadyH.cons (o := ⟨some 12, .call { callee := .value (.func 152), args := #[.tmp 11], argTypes := #[31] }, _, _, _, _⟩) rfl (fun K hK => ?_) AllReadyH.nil)
    refine step_call_of rfl 152 #[.tmp 11] #[31] rfl (callFunc_enter Tryz.func152 (by kernel_rfl) (by kernel_rfl)) #[.agg y8.toArray] (by simp [Act.eval]) (HC8.out w3 (Below.trans (Below.drew (Below.refl W0.heap.size W0)) (B7.out.mono ((Below.drew (Below.refl W0.heap.size W0))).size))) ?_
    rintro e w5 ⟨x8, T8, rfl, l8, K8, W8, U8, B8⟩
    refine ⟨.agg x8.toArray, rfl, hK.out _ _ trivial (fun hHeld => ?_)⟩
    clear hK K
    simp only [Act.put, List.setIfInBounds_toArray, List.set_cons_zero, List.set_cons_succ]
    have HB5 : Hid (Below W0.heap.size W0 w5) := (Below.trans (Below.trans (Below.drew (Below.refl W0.heap.size W0)) (B7.out.mono ((Below.drew (Below.refl W0.heap.size W0))).size)) (B8.out.mono ((Below.trans (Below.drew (Below.refl W0.heap.size W0)) (B7.out.mono ((Below.drew (Below.refl W0.heap.size W0))).size))).size))
    have OB5 : Hid (objU w5 w.heap.size 38 ([Value.int .i64 z0, .string z1, .int .i64 z2, .int .i64 z3, .int .i64 z4, .bool z5, .slice a1 n6 p1] ++ (y7 ++ (y8 ++ [])))) := OB.out.below HB5.out
    refine wpAnyH_ready (rs := [7]) (by kernel_rfl) (by simp) (AllReadyH.cons (o := ⟨none, .store 31 (.tmp 13) (.tmp 9), _, _, _, _⟩) rfl (fun K hK => ?_) AllReadyH.nil)
    refine step_store_cells (by rfl) 31 _ _ rfl rfl w.heap.size 7 rfl (.agg x7.toArray) rfl x7 cells_agg U7.out (HL7.out x7 l7) (OB5.out.there 7 x7.length (by rw [l7]; simp [HY7.out, HY8.out])) ?_
    intro w6 e6
    have OB6 : Hid (objU w6 w.heap.size 38 ([Value.int .i64 z0, .string z1, .int .i64 z2, .int .i64 z3, .int .i64 z4, .bool z5, .slice a1 n6 p1] ++ (x7 ++ (y8 ++ [])))) := by subst e6; exact objU.setCells x7 y7 ([Value.int .i64 z0, .string z1, .int .i64 z2, .int .i64 z3, .int .i64 z4, .bool z5, .slice a1 n6 p1]) (y8 ++ []) w5 OB5.out (by rw [l7, HY7.out])
    have E6 : Hid (OutS [w.heap.size] w5 w6) := by subst e6; exact OutS.setCells x7 7 w5
    clear e6
    refine hK.out _ _ trivial (fun hHeld => ?_)
    clear hK K
    simp only [Act.put]
    refine wpAnyH_take (i := 8) (oi := ⟨some 14, .fieldAddr _ (.tmp 1) 8, _, _, _, _⟩) (v := .pointer (some ⟨w.heap.size, 12, none⟩)) rfl (by kernel_rfl) (by kernel_rfl) (by kernel_rfl) (fun _ _ _ h => h) (Or.inl ⟨by rfl, by intro w hSw; go_simp⟩) hHeld ?_
    simp only [Act.put, List.setIfInBounds_toArray, List.set_cons_zero, List.set_cons_succ]
    refine wpAnyH_ready (rs := [9]) (by kernel_rfl) (by simp) (AllReadyH.cons (o := ⟨none, .store 31 (.tmp 14) (.tmp 12), _, _, _, _⟩) rfl (fun K hK => ?_) AllReadyH.nil)
    refine step_store_cells (by rfl) 31 _ _ rfl rfl w.heap.size 12 rfl (.agg x8.toArray) rfl x8 cells_agg U8.out (HL7.out x8 l8) (OB6.out.there 12 x8.length (by rw [l8]; simp [l7, HY8.out])) ?_
    intro w7 e7
    have OB7 : Hid (objU w7 w.heap.size 38 (([Value.int .i64 z0, .string z1, .int .i64 z2, .int .i64 z3, .int .i64 z4, .bool z5, .slice a1 n6 p1] ++ x7) ++ (x8 ++ []))) := by
      have h := objU.setCells x8 y8 ([Value.int .i64 z0, .string z1, .int .i64 z2, .int .i64 z3, .int .i64 z4, .bool z5, .slice a1 n6 p1] ++ x7) [] w6 (by rw [List.append_assoc]; exact OB6.out) (by rw [l8, HY8.out])
      rw [show ([Value.int .i64 z0, .string z1, .int .i64 z2, .int .i64 z3, .int .i64 z4, .bool z5, .slice a1 n6 p1] ++ x7).length = 12 by simp [l7]] at h
      subst e7; exact h
    have E7 : Hid (OutS [w.heap.size] w6 w7) := by subst e7; exact OutS.setCells x8 12 w6
    clear e7
    refine hK.out _ _ trivial (fun hHeld => ?_)
    clear hK K
    simp only [Act.put]
    refine wpAnyH_done (by kernel_rfl) ?_ _
    clear hHeld
    have HE : Hid (CpEnd w w7 38 (.p (.int .i64 z0) (.p (.string z1) (.p (.int .i64 z2) (.p (.int .i64 z3) (.p (.int .i64 z4) (.p (.bool z5) (.l 1 n6 c6 (UD.app d7 (UD.app d8 UD.nil))))))))) (([Value.int .i64 z0, .string z1, .int .i64 z2, .int .i64 z3, .int .i64 z4, .bool z5, .slice a1 n6 p1] ++ x7) ++ (x8 ++ [])) [.int .i64 0, .string ⟨#[]⟩, .int .i64 0, .int .i64 0, .int .i64 0, .bool false, .slice none 0 0, .int .i64 0, .string ⟨#[]⟩, .int .i64 0, .slice none 0 0, .slice none 0 0, .int .i64 0, .string ⟨#[]⟩, .int .i64 0, .slice none 0 0, .slice none 0 0]) := cpobj_end (w3 := w3) (w5 := w5) (w6 := w6) OZ.out B0.out HZ.out O6.out K6.out W6.out K7.out W7.out K8.out W8.out (Below.drew (Below.refl W0.heap.size W0)).size B7.out.size (Nat.le_refl _) (Nat.le_refl _) B8.out.size HZ.out U7.out U8.out HB5.out B8.out E6.out E7.out OB7.out
    obtain ⟨AX, hAX⟩ : ∃ AX : List Value, AX = (([Value.int .i64 z0, .string z1, .int .i64 z2, .int .i64 z3, .int .i64 z4, .bool z5, .slice a1 n6 p1] ++ x7) ++ (x8 ++ [])) := ⟨_, rfl⟩
    rw [← hAX] at HE
    have hal : AX.length = 17 := by rw [hAX]; simp [l7, l8]
    have HAL := uhide hal
    have HFA : Hid ((Tryz.prog.info? 38).map (·.size) = some AX.length) := by show _ = _; rw [hal]; exact Tryz.zObj_impl_Obj
    have HTH : Hid (w7.there (w.heap.size + 1) 0 AX.length) := by show World.there _ _ _ _; rw [hal]; exact HE.out.res.there 0 17 (by decide)
    have HRG : Hid (w7.rangeAt w.heap.size 0 AX) := HE.out.box.range 0 AX (fun j v h => by rw [Nat.zero_add]; exact h)
    clear hAX hal OB OZ B0 HZ O6 K6 W6 K7 W7 K8 W8 B7 B8 E6 E7 OB7 OB5 OB6 HB5 U7 U8 HC7 HC8 l7 l8 HY7 HY8 HLy7 HLy8 HL7 Hy7 Hy8
    go_wp2_with (first
      | ((with_reducible refine wpList_load_row2 ?qqg41 38 ?qqx41 ?qqo41 w.heap.size 0 ?qqh41 AX Tryz.rObj_impl_Obj HFA.out HRG.out ?_); (case qqg41 => rfl); (case qqo41 => rfl); (case qqh41 => first | (simp [Act.eval]; done) | (simp [Act.eval, Act.put]; done)))
      | ((with_reducible refine wpList_store_cells ?qqg42 38 ?qqx42 ?qqy42 ?qqo42 ?qqd42 (w.heap.size + 1) 0 ?qqh42 (.agg AX.toArray) ?qqv42 AX cells_agg HE.out.ones HFA.out HTH.out ?_); (case qqg42 => rfl); (case qqo42 => rfl); (case qqd42 => rfl); (case qqh42 => first | (simp [Act.eval]; done) | (simp [Act.eval, Act.put]; done)); (case qqv42 => first | (simp [Act.eval]; done) | (simp [Act.eval, Act.put]; done)); intro w8 e8; have HF := uhide (HE.out.fin HAL.out e8); clear e8)
      )
    obtain ⟨hres, S', ho', hS', hb'⟩ := HF.out
    refine bodyPost_ret (v := .agg AX.toArray) ?_ rfl (copied.mk' ho' hS' hb')
    exact results_row rfl _ _ (w.heap.size + 1) _ _ (by simp [Act.put]) hres Tryz.rObj_impl_Obj HFA.out
end Go.Proofs.YtamlgjmboljcdaaGreat
