/- What a base lists, both sides. -/
import Derived.Test.YtamlgjmboljcdaaGreatLstW
import Derived.Test.YtamlgjmboljcdaaGreatOB12
namespace Go.Proofs.YtamlgjmboljcdaaGreat
open Go.RowKit Go.BigFrame
set_option linter.unusedVariables false

noncomputable def listU (n0 : Nat) (c0 : UD) (rev next : Int) (n3 : Nat) (c3 : UD) : UD := if baseB n0 c0 rev next n3 c3 = true then .p (.int .i64 rev) (.l 17 n0 c0 .nil) else .p (.int .i64 0) (.l 17 0 .nil .nil)
set_option maxRecDepth 40000 in
set_option maxHeartbeats 3200000 in
theorem sList_N {lo hi : Nat} (n0 : Nat) (c0 : UD) (rev next : Int) (n3 : Nat) (c3 : UD) (xs : List Value) (w : World) (g0 : tyS 17 n0 c0 8) (g3 : tyS 19 n3 c3 9) (hwt : n0 + wt c0 ≤ 1048576) (hx : uH w lo hi (.l 17 n0 c0 (.p (.int .i64 rev) (.p (.int .i64 next) (.l 19 n3 c3 .nil)))) xs) :
    Calls Tryz.prog 61 #[.agg xs.toArray] w fun e w' => copied w w' (listU n0 c0 rev next n3 c3) e := by
  obtain ⟨v0, _, rfl, s0, ⟨_, rfl, ⟨_, rfl, ⟨v3, _, rfl, s3, rfl⟩⟩⟩⟩ := hx
  have S0' := uhide s0
  have S3' := uhide s3
  obtain ⟨a0, p0, rfl, -⟩ := uS.slice_of6 s0
  obtain ⟨a3, p3, rfl, -⟩ := uS.slice_of6 s3
  obtain ⟨k, hk⟩ : ∃ k, k = baseB n0 c0 rev next n3 c3 := ⟨_, rfl⟩
  have HK : Hid (∀ wx, Below w.heap.size w wx → Calls Tryz.prog 126 #[.agg #[.slice a0 n0 p0, .int .i64 rev, .int .i64 next, .slice a3 n3 p3]] wx fun e w' => e = .returned (.bool k) ∧ Hid (Below wx.heap.size wx w')) := fun wx hb => hk ▸ sBaseOk_of n0 c0 rev next n3 c3 _ _ wx g0 g3 (S0'.out.below hb) (S3'.out.below hb)
  have HC : Hid (∀ wx, Below w.heap.size w wx → Calls Tryz.prog 134 #[.slice a0 n0 p0] wx fun e w' => ∃ v p S, e = .returned (.slice v n0 p) ∧ Hid (oS w' 17 n0 c0 (.slice v n0 p) S) ∧ Hid (own2 S wx.heap.size w'.heap.size) ∧ Hid (Below wx.heap.size wx w')) := fun wx hb => (l7CopyObjs_N (lo := lo) (hi := hi) n0 c0 _ wx g0 hwt (S0'.out.below hb)).mono fun e w' ⟨c, S, h1, h2, h3, h4⟩ => by
    obtain ⟨v, p, rfl⟩ := h2.slice
    exact ⟨v, p, S, h1, h2, h3, h4⟩
  have BX : Hid (Below w.heap.size w ((w.alloc (.cells #[.slice a0 n0 p0, .int .i64 rev, .int .i64 next, .slice a3 n3 p3] 27)).alloc (.cells #[.int .i64 0, .slice none 0 0] 48))) := ((Below.refl _ _).alloc (Nat.le_refl _) _).alloc (by simp) _
  have OX : Hid (objU ((w.alloc (.cells #[.slice a0 n0 p0, .int .i64 rev, .int .i64 next, .slice a3 n3 p3] 27)).alloc (.cells #[.int .i64 0, .slice none 0 0] 48)) w.heap.size 27 [.slice a0 n0 p0, .int .i64 rev, .int .i64 next, .slice a3 n3 p3]) := (objU.new _ _ _).old _
  have OZ : Hid (objU ((w.alloc (.cells #[.slice a0 n0 p0, .int .i64 rev, .int .i64 next, .slice a3 n3 p3] 27)).alloc (.cells #[.int .i64 0, .slice none 0 0] 48)) (w.heap.size + 1) 48 [.int .i64 0, .slice none 0 0]) := objU.new2 _ _ (by simp)
  have SZ : Hid (w.heap.size + 2 ≤ ((w.alloc (.cells #[.slice a0 n0 p0, .int .i64 rev, .int .i64 next, .slice a3 n3 p3] 27)).alloc (.cells #[.int .i64 0, .slice none 0 0] 48)).heap.size) := by show _ ≤ _; simp
  have HL := uhide hk
  clear hk g0 g3 hwt s0 s3 S0' S3'
  cases k with
  | false =>
    have hl : listU n0 c0 rev next n3 c3 = .p (.int .i64 0) (.l 17 0 .nil .nil) := by unfold listU; rw [← HL.out]; rfl
    rw [hl]
    clear HC HL hl
    go_enter Tryz.func61, Tryz.ntmps61
    go_wp2_with fail
    refine (HK.out _ BX.out).mono ?_
    rintro e w2 ⟨rfl, hb⟩
    have OZ2 := uhide (OZ.out.below hb.out)
    have B2 : Hid (Below w.heap.size w w2) := BX.out.trans (hb.out.mono BX.out.size)
    have z0c := OZ2.out.cell 0 _ rfl
    have z1c := OZ2.out.cell 1 _ rfl
    have g0 := OZ2.out.fz 0
    have g1 := OZ2.out.fz 1
    clear HK OX OZ BX SZ hb
    go_wp2
    have HO : Hid (OutS [w.heap.size + 1] w2 ((w2.setCell ⟨w.heap.size + 1, 0, none⟩ (.int .i64 0)).setCell ⟨w.heap.size + 1, 1, none⟩ (.slice none 0 0))) := by
      show OutS _ _ _
      repeat (first | with_reducible exact OutS.refl _ _ | with_reducible refine OutS.setCell ?_ (show _ ∈ [w.heap.size + 1] by simp) _)
    refine bodyPost_ret (v := .agg #[.int .i64 0, .slice none 0 0]) ?_ rfl (copied.mk' (S := [] ++ []) (ys := [.int .i64 0, .slice none 0 0]) ?_ ?_ ?_)
    · simp [results, Tryz.results61, go_sem, z0c, z1c]
    · exact oH.consP _ (oH.consS ⟨by decide, 38, [], [], World.ownsRow_nil _ _ _ _, ⟨rfl, rfl⟩, rfl⟩ (oH.nil _))
    · exact own2.nil _ _
    · exact B2.out.trans (HO.out.below (fun t ht => by simp at ht; omega) B2.out.size)
  | true =>
    have hl : listU n0 c0 rev next n3 c3 = .p (.int .i64 rev) (.l 17 n0 c0 .nil) := by unfold listU; rw [← HL.out]; rfl
    rw [hl]
    clear HL hl
    go_enter Tryz.func61, Tryz.ntmps61
    go_wp2_with fail
    refine (HK.out _ BX.out).mono ?_
    rintro e w2 ⟨rfl, hb⟩
    have OX2 := uhide (OX.out.below hb.out)
    have OZ2 := uhide (OZ.out.below hb.out)
    have B2 : Hid (Below w.heap.size w w2) := BX.out.trans (hb.out.mono BX.out.size)
    have SZ2 : Hid (w.heap.size + 2 ≤ w2.heap.size) := Nat.le_trans SZ.out hb.out.size
    clear HK OX OZ BX SZ hb
    go_wp2_with fail
    refine wp_region_held_drew (S := fun w' => w'.cell? ⟨w.heap.size, 1, none⟩ = some (.int .i64 rev) ∧ w'.cell? ⟨w.heap.size, 0, none⟩ = some (.slice a0 n0 p0)) (by kernel_rfl) ⟨cellB (OX2.out.cell 1 _ rfl) (Below.drew (Below.refl _ _)), cellB (OX2.out.cell 0 _ rfl) (Below.drew (Below.refl _ _))⟩ (fun hHeld => ?_)
    refine wpAnyH_take (i := 0) (oi := ⟨some 7, .fieldAddr _ (.tmp 1) 1, _, _, _, _⟩) (v := .pointer (some ⟨w.heap.size, 1, none⟩)) rfl (by kernel_rfl) (by kernel_rfl) (by kernel_rfl) (fun _ _ _ h => h) (Or.inl ⟨by rfl, by intro w hSw; go_simp⟩) hHeld ?_
    simp only [Act.put, List.setIfInBounds_toArray, List.set_cons_zero, List.set_cons_succ]
    refine wpAnyH_take (i := 1) (oi := ⟨some 8, .load _ (.tmp 7), _, _, _, _⟩) (v := .int .i64 rev) rfl (by kernel_rfl) (by kernel_rfl) (by kernel_rfl) (fun _ _ _ h => h) (yields_cell (by rfl) _ _ rfl w.heap.size 1 rfl _ (fun w hS => hS.1) (by kernel_rfl)) hHeld ?_
    simp only [Act.put, List.setIfInBounds_toArray, List.set_cons_zero, List.set_cons_succ]
    refine wpAnyH_take (i := 2) (oi := ⟨some 9, .fieldAddr _ (.tmp 1) 0, _, _, _, _⟩) (v := .pointer (some ⟨w.heap.size, 0, none⟩)) rfl (by kernel_rfl) (by kernel_rfl) (by kernel_rfl) (fun _ _ _ h => h) (Or.inl ⟨by rfl, by intro w hSw; go_simp⟩) hHeld ?_
    simp only [Act.put, List.setIfInBounds_toArray, List.set_cons_zero, List.set_cons_succ]
    refine wpAnyH_take (i := 3) (oi := ⟨some 10, .load _ (.tmp 9), _, _, _, _⟩) (v := .slice a0 n0 p0) rfl (by kernel_rfl) (by kernel_rfl) (by kernel_rfl) (fun _ _ _ h => h) (yields_cell (by rfl) _ _ rfl w.heap.size 0 rfl _ (fun w hS => hS.2) (by kernel_rfl)) hHeld ?_
    simp only [Act.put, List.setIfInBounds_toArray, List.set_cons_zero, List.set_cons_succ]
    refine wpAnyH_ready (rs := [4]) (by kernel_rfl) (by simp) (AllReadyH.cons (o := ⟨some 11, .call { callee := .value (.func 134), args := #[.tmp 10], argTypes := #[24] }, _, _, _, _⟩) rfl (fun K hK => ?_) AllReadyH.nil)
    refine step_call_of rfl 134 #[.tmp 10] #[24] rfl (callFunc_enter Tryz.func134 (by kernel_rfl) (by kernel_rfl)) #[.slice a0 n0 p0] (by simp [Act.eval]) (HC.out w2.drew (B2.out.trans (Below.drew (Below.refl w2.heap.size w2) |>.mono B2.out.size))) ?_
    rintro e w3 ⟨v, p, S, rfl, hc, hS, hb3d⟩
    have hb3 : Hid (Below w2.heap.size w2 w3) := (Below.drew (Below.refl w2.heap.size w2)).trans (hb3d.out.mono (Below.drew (Below.refl w2.heap.size w2)).size)
    refine ⟨.slice v n0 p, rfl, hK.out _ _ ⟨cellB (OX2.out.cell 1 _ rfl) hb3.out, cellB (OX2.out.cell 0 _ rfl) hb3.out⟩ (fun hHeld => ?_)⟩
    clear hK K
    simp only [Act.put, List.setIfInBounds_toArray, List.set_cons_zero, List.set_cons_succ]
    refine wpAnyH_take (i := 5) (oi := ⟨some 12, .build _ #[(0, .tmp 8), (1, .tmp 11)], _, _, _, _⟩) (v := .agg #[.int .i64 rev, .slice v n0 p]) rfl (by kernel_rfl) (by kernel_rfl) (by kernel_rfl) (fun _ _ _ h => h) (Or.inl ⟨by rfl, by intro w hSw; go_simp⟩) hHeld ?_
    simp only [Act.put, List.setIfInBounds_toArray, List.set_cons_zero, List.set_cons_succ]
    have OZ3 := uhide (OZ2.out.below hb3.out)
    have B3 : Hid (Below w.heap.size w w3) := B2.out.trans (hb3.out.mono B2.out.size)
    have z0c := OZ3.out.cell 0 _ rfl
    have z1c := OZ3.out.cell 1 _ rfl
    have g0 := OZ3.out.fz 0
    have g1 := OZ3.out.fz 1
    refine wpAnyH_ready (rs := [6]) (by kernel_rfl) (by simp) (AllReadyH.cons (o := ⟨none, .store _ (.tmp 2) (.tmp 12), _, _, _, _⟩) rfl (fun K hK => ?_) AllReadyH.nil)
    refine step_store_cells (by rfl) _ _ _ rfl rfl (w.heap.size + 1) 0 rfl (.agg #[.int .i64 rev, .slice v n0 p]) rfl [.int .i64 rev, .slice v n0 p] rfl (by simp [Value.oneCell']) (by kernel_rfl) (OZ3.out.there 0 2 (by decide)) ?_
    intro w4 e4
    have HO : Hid (OutS [w.heap.size + 1] w3 w4) := by subst e4; exact OutS.setCells _ 0 w3
    have OR : Hid (objU w4 (w.heap.size + 1) 48 [.int .i64 rev, .slice v n0 p]) := by
      have h := objU.setCells [Value.int .i64 rev, .slice v n0 p] [Value.int .i64 0, .slice none 0 0] [] [] w3 (by simpa using OZ3.out) rfl
      subst e4; exact uhide (by simpa using h)
    clear e4
    refine hK.out _ _ ⟨(cellB (OX2.out.cell 1 _ rfl) hb3.out |> fun h => (HO.out.cell (p := ⟨w.heap.size, 1, none⟩) (World.block_lt_of_cell? _ _ h) (by simp)).trans h), (cellB (OX2.out.cell 0 _ rfl) hb3.out |> fun h => (HO.out.cell (p := ⟨w.heap.size, 0, none⟩) (World.block_lt_of_cell? _ _ h) (by simp)).trans h)⟩ (fun hHeld => ?_)
    clear hK K
    simp only [Act.put]
    refine wpAnyH_done (by kernel_rfl) ?_ _
    clear hHeld
    have r0 := OR.out.cell 0 _ rfl
    have r1 := OR.out.cell 1 _ rfl
    go_wp2
    refine bodyPost_ret (v := .agg #[.int .i64 rev, .slice v n0 p]) ?_ rfl (copied.mk' (S := S ++ []) (ys := [.int .i64 rev, .slice v n0 p]) ?_ ?_ ?_)
    · simp [results, Tryz.results61, go_sem, r0, r1]
    · exact oH.consP _ (oH.consS (hc.out.frame (fun g hg => HO.out.block g (hc.out.lt g hg) (by have := hS.out.2 g hg; have := SZ2.out; have := (Below.drew (Below.refl w2.heap.size w2)).size; simp; omega))) (oH.nil _))
    · rw [List.append_nil]; exact ⟨hS.out.1, fun s hs => by have := hS.out.2 s hs; have := SZ2.out; have := (Below.drew (Below.refl w2.heap.size w2)).size; have := HO.out.size; omega⟩
    · exact B3.out.trans (HO.out.below (fun t ht => by simp at ht; omega) B3.out.size)
set_option maxRecDepth 40000 in
set_option maxHeartbeats 3200000 in
theorem iList_N {lo hi : Nat} (n0 : Nat) (c0 : UD) (rev next : Int) (n3 : Nat) (c3 : UD) (xs : List Value) (S0 : List Nat) (w : World) (g0 : tyS 17 n0 c0 8) (g3 : tyS 19 n3 c3 9) (hwt : n0 + wt c0 ≤ 1048576) (hx : oH w (.l 17 n0 c0 (.p (.int .i64 rev) (.p (.int .i64 next) (.l 19 n3 c3 .nil)))) xs S0) (hS : S0.Nodup) :
    Calls Tryz.prog 28 #[.agg xs.toArray] w fun e w' => copied w w' (listU n0 c0 rev next n3 c3) e := by
  have hu := hx.hand (lo := 0) (hi := w.heap.size) (fun g hg => ⟨Nat.zero_le _, hx.lt _ _ _ g hg⟩)
  obtain ⟨v0, _, S1, S2, rfl, rfl, hk0, ⟨e0, zs0, o0, m0⟩, ⟨_, rfl, ⟨_, rfl, ⟨v3, _, _, _, rfl, rfl, _, _, ⟨rfl, rfl⟩⟩⟩⟩⟩ := hx
  have hS1 : (blkOf v0 ++ S1).Nodup := (List.nodup_append.1 hS).1
  have oS0 : oS w 17 n0 c0 v0 (blkOf v0 ++ S1) := ⟨hk0, e0, zs0, S1, o0, m0, rfl⟩
  obtain ⟨v0', _, h1, s0, ⟨_, h2, ⟨_, h3, ⟨v3', _, h4, s3, h5⟩⟩⟩⟩ := hu
  cases h1
  cases h2
  cases h3
  cases h4
  clear h5 o0 m0 hS
  have S0' := uhide s0
  have S3' := uhide s3
  obtain ⟨a0, p0, rfl, -⟩ := uS.slice_of6 s0
  obtain ⟨a3, p3, rfl, -⟩ := uS.slice_of6 s3
  obtain ⟨k, hk⟩ : ∃ k, k = baseB n0 c0 rev next n3 c3 := ⟨_, rfl⟩
  have HK : Hid (∀ wx, Below w.heap.size w wx → Calls Tryz.prog 25 #[.agg #[.slice a0 n0 p0, .int .i64 rev, .int .i64 next, .slice a3 n3 p3]] wx fun e w' => e = .returned (.bool k) ∧ Hid (Below wx.heap.size wx w')) := fun wx hb => hk ▸ iBaseOk_of n0 c0 rev next n3 c3 _ _ wx g0 g3 (S0'.out.below hb) (S3'.out.below hb)
  have HC : Hid (∀ wx, Below w.heap.size w wx → Calls Tryz.prog 106 #[.agg #[.int .i64 rev, .slice a0 n0 p0]] wx fun e w' => ∃ v p S, e = .returned (.agg #[.int .i64 rev, .slice v n0 p]) ∧ Hid (oH w' (.p (.int .i64 rev) (.l 17 n0 c0 .nil)) [.int .i64 rev, .slice v n0 p] S) ∧ Hid (own2 S wx.heap.size w'.heap.size) ∧ Hid (Below wx.heap.size wx w')) := fun wx hb => (copyOfMirror_N rev n0 c0 _ _ wx g0 hwt (oS0.below hb) hS1).mono fun e w' ⟨ys, S, h1, h2, h3, h4⟩ => by
    have h2' := h2
    obtain ⟨_, rfl, ⟨c, _, T1, T2, rfl, rfl, _, ⟨t, zs, q1, q2⟩, ⟨rfl, rfl⟩⟩⟩ := h2
    obtain ⟨v, p, rfl⟩ := uowns_slice q1
    exact ⟨v, p, _, h1, h2', h3, h4⟩
  have BX : Hid (Below w.heap.size w ((w.alloc (.cells #[.slice a0 n0 p0, .int .i64 rev, .int .i64 next, .slice a3 n3 p3] 27)).alloc (.cells #[.int .i64 0, .slice none 0 0] 48))) := ((Below.refl _ _).alloc (Nat.le_refl _) _).alloc (by simp) _
  have OX : Hid (objU ((w.alloc (.cells #[.slice a0 n0 p0, .int .i64 rev, .int .i64 next, .slice a3 n3 p3] 27)).alloc (.cells #[.int .i64 0, .slice none 0 0] 48)) w.heap.size 27 [.slice a0 n0 p0, .int .i64 rev, .int .i64 next, .slice a3 n3 p3]) := (objU.new _ _ _).old _
  have OZ : Hid (objU ((w.alloc (.cells #[.slice a0 n0 p0, .int .i64 rev, .int .i64 next, .slice a3 n3 p3] 27)).alloc (.cells #[.int .i64 0, .slice none 0 0] 48)) (w.heap.size + 1) 48 [.int .i64 0, .slice none 0 0]) := objU.new2 _ _ (by simp)
  have SZ : Hid (w.heap.size + 2 ≤ ((w.alloc (.cells #[.slice a0 n0 p0, .int .i64 rev, .int .i64 next, .slice a3 n3 p3] 27)).alloc (.cells #[.int .i64 0, .slice none 0 0] 48)).heap.size) := by show _ ≤ _; simp
  have HL := uhide hk
  clear hk g0 g3 hwt s0 s3 S0' S3' oS0 hS1
  cases k with
  | false =>
    have hl : listU n0 c0 rev next n3 c3 = .p (.int .i64 0) (.l 17 0 .nil .nil) := by unfold listU; rw [← HL.out]; rfl
    rw [hl]
    clear HC HL hl
    go_enter Tryz.func28, Tryz.ntmps28
    go_wp2_with fail
    refine (HK.out _ BX.out).mono ?_
    rintro e w2 ⟨rfl, hb⟩
    have OZ2 := uhide (OZ.out.below hb.out)
    have B2 : Hid (Below w.heap.size w w2) := BX.out.trans (hb.out.mono BX.out.size)
    have z0c := OZ2.out.cell 0 _ rfl
    have z1c := OZ2.out.cell 1 _ rfl
    have g0 := OZ2.out.fz 0
    have g1 := OZ2.out.fz 1
    clear HK OX OZ BX SZ hb
    go_wp2
    have HO : Hid (OutS [w.heap.size + 1] w2 ((w2.setCell ⟨w.heap.size + 1, 0, none⟩ (.int .i64 0)).setCell ⟨w.heap.size + 1, 1, none⟩ (.slice none 0 0))) := by
      show OutS _ _ _
      repeat (first | with_reducible exact OutS.refl _ _ | with_reducible refine OutS.setCell ?_ (show _ ∈ [w.heap.size + 1] by simp) _)
    refine bodyPost_ret (v := .agg #[.int .i64 0, .slice none 0 0]) ?_ rfl (copied.mk' (S := [] ++ []) (ys := [.int .i64 0, .slice none 0 0]) ?_ ?_ ?_)
    · simp [results, Tryz.results28, go_sem, z0c, z1c]
    · exact oH.consP _ (oH.consS ⟨by decide, 38, [], [], World.ownsRow_nil _ _ _ _, ⟨rfl, rfl⟩, rfl⟩ (oH.nil _))
    · exact own2.nil _ _
    · exact B2.out.trans (HO.out.below (fun t ht => by simp at ht; omega) B2.out.size)
  | true =>
    have hl : listU n0 c0 rev next n3 c3 = .p (.int .i64 rev) (.l 17 n0 c0 .nil) := by unfold listU; rw [← HL.out]; rfl
    rw [hl]
    clear HL hl
    go_enter Tryz.func28, Tryz.ntmps28
    go_wp2_with fail
    refine (HK.out _ BX.out).mono ?_
    rintro e w2 ⟨rfl, hb⟩
    have OX2 := uhide (OX.out.below hb.out)
    have OZ2 := uhide (OZ.out.below hb.out)
    have B2 : Hid (Below w.heap.size w w2) := BX.out.trans (hb.out.mono BX.out.size)
    have SZ2 : Hid (w.heap.size + 2 ≤ w2.heap.size) := Nat.le_trans SZ.out hb.out.size
    clear HK OX OZ BX SZ hb
    have x0 := OX2.out.cell 0 _ rfl
    have x1 := OX2.out.cell 1 _ rfl
    go_wp2_with fail
    refine (HC.out w2 B2.out).mono ?_
    rintro e w3 ⟨v, p, S, rfl, hc, hS, hb3⟩
    have OZ3 := uhide (OZ2.out.below hb3.out)
    have B3 : Hid (Below w.heap.size w w3) := B2.out.trans (hb3.out.mono B2.out.size)
    have z0c := OZ3.out.cell 0 _ rfl
    have z1c := OZ3.out.cell 1 _ rfl
    have g0 := OZ3.out.fz 0
    have g1 := OZ3.out.fz 1
    clear x0 x1 OX2 OZ2 HC
    go_wp2
    have HO : Hid (OutS [w.heap.size + 1] w3 ((w3.setCell ⟨w.heap.size + 1, 0, none⟩ (.int .i64 rev)).setCell ⟨w.heap.size + 1, 1, none⟩ (.slice v n0 p))) := by
      show OutS _ _ _
      repeat (first | with_reducible exact OutS.refl _ _ | with_reducible refine OutS.setCell ?_ (show _ ∈ [w.heap.size + 1] by simp) _)
    refine bodyPost_ret (v := .agg #[.int .i64 rev, .slice v n0 p]) ?_ rfl (copied.mk' (S := S) (ys := [.int .i64 rev, .slice v n0 p]) ?_ ?_ ?_)
    · simp [results, Tryz.results28, go_sem, z0c, z1c]
    · exact hc.out.outS HO.out (fun g hg => by have := hS.out.2 g hg; have := SZ2.out; simp; omega)
    · exact ⟨hS.out.1, fun s hs => by have := hS.out.2 s hs; have := SZ2.out; have := HO.out.size; omega⟩
    · exact B3.out.trans (HO.out.below (fun t ht => by simp at ht; omega) B3.out.size)
end Go.Proofs.YtamlgjmboljcdaaGreat
