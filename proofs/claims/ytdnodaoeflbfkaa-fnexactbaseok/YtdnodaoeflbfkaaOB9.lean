/- Bases: the program's look at the changes of one. -/
import Derived.Test.YtdnodaoeflbfkaaOB8
namespace Go.Proofs.Ytdnodaoeflbfkaa
open Go.RowKit Go.BigFrame
set_option linter.unusedVariables false
set_option linter.unusedSimpArgs false

set_option maxRecDepth 40000 in
set_option maxHeartbeats 6400000 in
theorem iLogOk_of {lo hi : Nat} (n : Nat) (cs : UD) (rev next : Int) (v0 v3 : Value) (w : World) (g3 : tyS 19 n cs 9) (s3 : uS w lo hi 19 n cs v3) (hn0 : -9223372036854775807 ≤ next) (hn1 : next ≤ 9223372036854775807) :
    Calls Try.prog 93 #[.agg #[v0, .int .i64 rev, .int .i64 next, v3]] w fun e w' => e = .returned (.bool (logB cs n rev next)) ∧ Below w.heap.size w w' := by
  obtain ⟨a3, cap, rfl, s3c⟩ := s3
  have Hx : Hid (uS w lo hi 19 n cs (.slice a3 n cap)) := ⟨a3, cap, rfl, s3c⟩
  have Ht := uhide g3
  have hmx := g3.2.2.1
  unfold maxLen at hmx
  have HN := uhide (And.intro hn0 hn1)
  have OA : Hid (objU (w.alloc (.cells #[v0, .int .i64 rev, .int .i64 next, .slice a3 n cap] 67)) w.heap.size 67 [v0, .int .i64 rev, .int .i64 next, .slice a3 n cap]) := objU.new2 _ _ rfl
  have BA : Hid (Below w.heap.size w (w.alloc (.cells #[v0, .int .i64 rev, .int .i64 next, .slice a3 n cap] 67))) := (Below.refl _ _).alloc (Nat.le_refl _) _
  have hwr : IntKind.i64.wrap (next - 1) = next - 1 := uwrap64 _ (by omega) (by omega)
  have hwr2 : wrap64 (next - 1) = next - 1 := by unfold wrap64; omega
  clear g3 s3c hn0 hn1
  go_enter Try.func93, Try.ntmps93
  go_wp2_with (first
    | ((with_reducible refine wpList_load_oneG ?qqg22 65 ?qqx22 ?qqo22 w.heap.size 3 ?qqh22 (.slice a3 n cap) Try.rBase_Limpl_Change (OA.out.cell 3 _ rfl) ?_); (case qqg22 => rfl); (case qqo22 => rfl); (case qqh22 => simp [Act.eval, Act.put]))
    )
  go_loopw [8] (fun i wr => ∃ (q : Nat), q ≤ n ∧ i = .int .i64 q ∧ Hid (∀ j, j < q → okL cs rev next j) ∧ Hid (objU wr w.heap.size 67 [v0, .int .i64 rev, .int .i64 next, .slice a3 n cap]) ∧ Hid (Below w.heap.size w wr)) (fun i _ => n - (intOf i).toNat)
  case atStart => exact ⟨0, Nat.zero_le _, rfl, fun j hj => by omega, OA, BA⟩
  case round =>
    obtain ⟨q, hq, rfl, Ho, OW, hbw⟩ := hrel
    by_cases hlt : q < n
    · obtain ⟨b, off, rfl, hbb, hm⟩ := (Hx.out.below hbw.out).cells (by omega)
      have htr := Ht.out.row hlt
      obtain ⟨xs, hh, hcl⟩ := (hm.row 19 q).hand
      obtain ⟨hc0, hc1, os, hxs, hto, hho⟩ := change_cells htr hh
      have hoc := (obj_cells hto hho).2.2.2.1
      have hol : os.length = 17 := by rw [hho.len, tyL.len hto]; rfl
      have hxl : xs.length = 19 := by rw [hxs]; simp [hol]
      have one := one_cell htr hh
      have ONE := uhide one
      have HIX : Hid ((Try.prog.info? 138).map (·.size) = some xs.length) := by show _ = _; rw [hxl]; exact Try.zChange_impl_Change
      have HI1 : Hid ((Try.prog.info? 136).map (·.size) = some os.length) := by show _ = _; rw [hol]; exact Try.zObj_impl_Obj
      have RX : Hid (wr.rangeAt b (off + q * 19) xs) := hcl
      have TH : Hid ((wr.alloc (.cells ([.int .i64 0, .bool false, .int .i64 0, .string ⟨#[]⟩, .int .i64 0, .int .i64 0, .int .i64 0, .bool false, .slice none 0 0, .int .i64 0, .string ⟨#[]⟩, .int .i64 0, .slice none 0 0, .slice none 0 0, .int .i64 0, .string ⟨#[]⟩, .int .i64 0, .slice none 0 0, .slice none 0 0] : List Value).toArray 138)).there wr.heap.size 0 xs.length) := by rw [hxl]; exact (objU.new2 _ _ rfl).there 0 19 (by decide)
      have HOX : Hid (∀ wy, wy = (wr.alloc (.cells ([.int .i64 0, .bool false, .int .i64 0, .string ⟨#[]⟩, .int .i64 0, .int .i64 0, .int .i64 0, .bool false, .slice none 0 0, .int .i64 0, .string ⟨#[]⟩, .int .i64 0, .slice none 0 0, .slice none 0 0, .int .i64 0, .string ⟨#[]⟩, .int .i64 0, .slice none 0 0, .slice none 0 0] : List Value).toArray 138)).setCells wr.heap.size 0 xs → objU wy wr.heap.size 138 xs ∧ objU wy w.heap.size 67 [v0, .int .i64 rev, .int .i64 next, .slice (some ⟨b, off, none⟩) n cap] ∧ Below wr.heap.size wr wy) := fun wy e => by
        subst e
        have h1 := objU.setCells (t := 138) xs ([.int .i64 0, .bool false, .int .i64 0, .string ⟨#[]⟩, .int .i64 0, .int .i64 0, .int .i64 0, .bool false, .slice none 0 0, .int .i64 0, .string ⟨#[]⟩, .int .i64 0, .slice none 0 0, .slice none 0 0, .int .i64 0, .string ⟨#[]⟩, .int .i64 0, .slice none 0 0, .slice none 0 0]) [] [] _ (objU.new2 (w := wr) _ _ rfl) (by rw [hxl]; rfl)
        refine ⟨by simpa using h1, (OW.out.old _).outS (OutS.setCells _ _ _) (by have := OW.out.lt; simp; omega), ?_⟩
        exact ((Below.refl _ _).alloc (Nat.le_refl _) _).trans ((OutS.setCells _ _ _).below (fun t ht => by simp at ht; omega) (by simp))
      have hq0 : (0 : Int) ≤ (q : Int) := Int.natCast_nonneg _
      have hqn : (q : Int) < (n : Int) := by omega
      clear hcl one
      have hlo := hxs
      obtain ⟨gone, hgo⟩ : ∃ g, g = goneU (rowU cs 19 q) := ⟨_, rfl⟩
      obtain ⟨crv, hcr⟩ : ∃ g, g = kindU (rowU cs 19 q) := ⟨_, rfl⟩
      obtain ⟨orv, hor⟩ : ∃ g, g = revU (chO (rowU cs 19 q)) := ⟨_, rfl⟩
      obtain ⟨ob, hob⟩ : ∃ g, g = objB (chO (rowU cs 19 q)) rev next := ⟨_, rfl⟩
      obtain ⟨en, hen⟩ : ∃ g, g = endsB (chO (rowU cs 19 q)) := ⟨_, rfl⟩
      have HCO : Hid (∀ wx, Below wr.heap.size wr wx → Calls Try.prog 168 #[.agg os.toArray, .int .i64 rev, .int .i64 (next - 1)] wx fun e w' => e = .returned (.bool ob) ∧ Hid (Below wx.heap.size wx w')) := fun wx hb => (hob ▸ objOk_any (lo := lo) (hi := hi) _ os rev next wx hto (hho.below hb) HN.out.1 HN.out.2).mono fun e w' h => ⟨h.1, h.2⟩
      have HCE : Hid (∀ wx, Below wr.heap.size wr wx → Calls Try.prog 169 #[.agg os.toArray] wx fun e w' => e = .returned (.bool en) ∧ Hid (Below wx.heap.size wx w')) := fun wx hb => (hen ▸ iends_any (lo := lo) (hi := hi) _ os wx hto (hho.below hb)).mono fun e w' h => ⟨h.1, h.2⟩
      have hx0 : xs[0]? = some (.int .i64 crv) := by rw [hcr]; exact hc0
      have hx1 : xs[1]? = some (.bool gone) := by rw [hgo]; exact hc1
      have hx5 : xs[5]? = some (.int .i64 orv) := by rw [hxs, hor]; simpa using hoc
      have hxo : ∀ i v, os[i]? = some v → xs[2 + i]? = some v := fun i v h => by rw [hxs, show 2 + i = i + 1 + 1 by omega]; simpa using h
      have HBAD : Hid ((ob = false ∨ orv ≠ crv ∨ (gone = false ∧ en = true) ∨ (0 < q ∧ ¬ kindU (rowU cs 19 (q - 1)) < crv)) → logB cs n rev next = false) := fun h => logB_bad hlt (fun g => by
        rcases h with h | h | ⟨h1, h2⟩ | ⟨h1, h2⟩
        · have := g.1; rw [← hob, h] at this; simp at this
        · exact h (by rw [hor, hcr]; exact g.2.1)
        · have := g.1; rw [← hgo, ← hen, h1, h2] at this; simp at this
        · exact h2 (by rw [hcr]; exact g.2.2 h1))
      have HOKK : Hid (ob = true → orv = crv → (gone = true ∨ en = false) → (0 < q → kindU (rowU cs 19 (q - 1)) < crv) → ∀ j, j < q + 1 → okL cs rev next j) := fun h1 h2 h4 h3 j hj => by
        by_cases e : j = q
        · subst e
          exact ⟨by rw [← hgo, ← hob, ← hen, h1]; rcases h4 with h4 | h4 <;> rw [h4] <;> simp, by rw [← hor, ← hcr]; exact h2, fun h => by rw [← hcr]; exact h3 h⟩
        · exact Ho.out j (by omega)
      have X0 := uhide hx0
      have X1 := uhide hx1
      have X5 := uhide hx5
      have XO := uhide hxo
      have HM := uhide hm
      clear hc0 hc1 hxs hlo hto hho hoc hol hxl hh hx0 hx1 hx5 hxo hgo hcr hor hob hen htr Ho OW hm
      go_wp2_with (first
        | ((with_reducible refine wpList_load_row2 ?qqg80 138 ?qqx80 ?qqo80 b (off + q * 19) ?qqh80 xs Try.rChange_impl_Change HIX.out RX.out ?_); (case qqg80 => rfl); (case qqo80 => rfl); (case qqh80 => simp [Act.eval, Act.put]))
        | ((with_reducible refine wpList_store_cells ?qqg81 138 ?qqx81 ?qqy81 ?qqo81 ?qqd81 wr.heap.size 0 ?qqh81 (.agg xs.toArray) ?qqv81 xs cells_agg ONE.out HIX.out TH.out ?_); (case qqg81 => rfl); (case qqo81 => rfl); (case qqd81 => rfl); (case qqh81 => simp [Act.eval, Act.put]); (case qqv81 => simp [Act.eval, Act.put]); intro wy ey; have HY := uhide (HOX.out wy ey); clear ey; have C0 : Hid (wy.rangeAt wr.heap.size 2 os) := HY.out.1.range 2 os XO.out; have C1 : Hid (wy.cell? ⟨w.heap.size, 1, none⟩ = some (.int .i64 rev)) := HY.out.2.1.cell 1 _ rfl; have C2 : Hid (wy.cell? ⟨w.heap.size, 2, none⟩ = some (.int .i64 next)) := HY.out.2.1.cell 2 _ rfl; have C3 : Hid (wy.cell? ⟨wr.heap.size, 1, none⟩ = some (.bool gone)) := HY.out.1.cell 1 _ X1.out; have C4 : Hid (wy.cell? ⟨wr.heap.size, 5, none⟩ = some (.int .i64 orv)) := HY.out.1.cell 5 _ X5.out; have C5 : Hid (wy.cell? ⟨wr.heap.size, 0, none⟩ = some (.int .i64 crv)) := HY.out.1.cell 0 _ X0.out; have C6 : Hid (wy.cell? ⟨w.heap.size, 3, none⟩ = some (.slice (some ⟨b, off, none⟩) n cap)) := HY.out.2.1.cell 3 _ rfl)
          | ((with_reducible refine wpList_load_rowG ?qqg82 136 ?qqx82 ?qqo82 wr.heap.size 2 ?qqh82 os Try.rObj_impl_Obj HI1.out C0.out ?_); (case qqg82 => rfl); (case qqo82 => rfl); (case qqh82 => simp [Act.eval, Act.put]))
          | ((with_reducible refine wpList_load_oneG ?qqg83 3 ?qqx83 ?qqo83 wr.heap.size 5 ?qqh83 (.int .i64 orv) Try.rObj_int C4.out ?_); (case qqg83 => rfl); (case qqo83 => rfl); (case qqh83 => simp [Act.eval, Act.put]))
          | ((with_reducible refine wpList_load_oneG ?qqg84 3 ?qqx84 ?qqo84 wr.heap.size 0 ?qqh84 (.int .i64 crv) Try.rObj_int C5.out ?_); (case qqg84 => rfl); (case qqo84 => rfl); (case qqh84 => simp [Act.eval, Act.put]))
          | ((with_reducible refine wpList_load_oneG ?qqg85 4 ?qqx85 ?qqo85 wr.heap.size 1 ?qqh85 (.bool gone) Try.rObj_bool C3.out ?_); (case qqg85 => rfl); (case qqo85 => rfl); (case qqh85 => simp [Act.eval, Act.put]))
          | ((with_reducible refine wpList_load_oneG ?qqg86 3 ?qqx86 ?qqo86 w.heap.size 1 ?qqh86 (.int .i64 rev) Try.rObj_int C1.out ?_); (case qqg86 => rfl); (case qqo86 => rfl); (case qqh86 => simp [Act.eval, Act.put]))
          | ((with_reducible refine wpList_load_oneG ?qqg87 3 ?qqx87 ?qqo87 w.heap.size 2 ?qqh87 (.int .i64 next) Try.rObj_int C2.out ?_); (case qqg87 => rfl); (case qqo87 => rfl); (case qqh87 => simp [Act.eval, Act.put]))
          | ((with_reducible refine wpList_load_rowG ?qqg88 136 ?qqx88 ?qqo88 wr.heap.size 2 ?qqh88 os Try.rObj_impl_Obj HI1.out C0.out ?_); (case qqg88 => rfl); (case qqo88 => rfl); (case qqh88 => simp [Act.eval, Act.put]))
          | ((with_reducible refine wpList_load_oneG ?qqg89 3 ?qqx89 ?qqo89 wr.heap.size 5 ?qqh89 (.int .i64 orv) Try.rObj_int C4.out ?_); (case qqg89 => rfl); (case qqo89 => rfl); (case qqh89 => simp [Act.eval, Act.put]))
          | ((with_reducible refine wpList_load_oneG ?qqg90 3 ?qqx90 ?qqo90 wr.heap.size 0 ?qqh90 (.int .i64 crv) Try.rObj_int C5.out ?_); (case qqg90 => rfl); (case qqo90 => rfl); (case qqh90 => simp [Act.eval, Act.put]))
          | ((with_reducible refine wpList_load_oneG ?qqg91 4 ?qqx91 ?qqo91 wr.heap.size 1 ?qqh91 (.bool gone) Try.rObj_bool C3.out ?_); (case qqg91 => rfl); (case qqo91 => rfl); (case qqh91 => simp [Act.eval, Act.put]))
          | ((with_reducible refine wpList_load_oneG ?qqg92 3 ?qqx92 ?qqo92 w.heap.size 1 ?qqh92 (.int .i64 rev) Try.rObj_int C1.out ?_); (case qqg92 => rfl); (case qqo92 => rfl); (case qqh92 => simp [Act.eval, Act.put]))
          | ((with_reducible refine wpList_load_oneG ?qqg93 3 ?qqx93 ?qqo93 w.heap.size 2 ?qqh93 (.int .i64 next) Try.rObj_int C2.out ?_); (case qqg93 => rfl); (case qqo93 => rfl); (case qqh93 => simp [Act.eval, Act.put]))
        )
      obtain ⟨hox, hob2, hbel⟩ := HY.out
      have HB1 : Hid (Below w.heap.size w wy) := hbw.out.trans (hbel.mono hbw.out.size)
      have HBEL := uhide hbel
      have HOW : Hid (∀ w', Below wy.heap.size wy w' → objU w' w.heap.size 67 [v0, .int .i64 rev, .int .i64 next, .slice (some ⟨b, off, none⟩) n cap]) := fun w' h => hob2.below h
      have HC1 : Hid (∀ wx, Below wy.heap.size wy wx → Calls Try.prog 168 #[.agg os.toArray, .int .i64 rev, .int .i64 (next - 1)] wx fun e w' => e = .returned (.bool ob) ∧ Hid (Below wy.heap.size wy w')) := fun wx hb => (HCO.out wx (hbel.trans (hb.mono hbel.size))).mono fun e w' h => ⟨h.1, hb.trans (h.2.out.mono hb.size)⟩
      have HC2 : Hid (∀ wx, Below wy.heap.size wy wx → Calls Try.prog 169 #[.agg os.toArray] wx fun e w' => e = .returned (.bool en) ∧ Hid (Below wy.heap.size wy w')) := fun wx hb => (HCE.out wx (hbel.trans (hb.mono hbel.size))).mono fun e w' h => ⟨h.1, hb.trans (h.2.out.mono hb.size)⟩
      clear hox hob2 hbel HY HOX HCO HCE TH RX ONE HIX X0 X1 X5 XO
      refine (HC1.out _ (Below.refl _ _)).mono ?_
      rintro e w2 ⟨rfl, hb2⟩
      have C0b : Hid (w2.rangeAt wr.heap.size 2 os) := range_below C0.out hb2.out
      have C1b : Hid (w2.cell? ⟨w.heap.size, 1, none⟩ = some (.int .i64 rev)) := cell_below C1.out hb2.out
      have C2b : Hid (w2.cell? ⟨w.heap.size, 2, none⟩ = some (.int .i64 next)) := cell_below C2.out hb2.out
      have C3b : Hid (w2.cell? ⟨wr.heap.size, 1, none⟩ = some (.bool gone)) := cell_below C3.out hb2.out
      have C4b : Hid (w2.cell? ⟨wr.heap.size, 5, none⟩ = some (.int .i64 orv)) := cell_below C4.out hb2.out
      have C5b : Hid (w2.cell? ⟨wr.heap.size, 0, none⟩ = some (.int .i64 crv)) := cell_below C5.out hb2.out
      have C6b : Hid (w2.cell? ⟨w.heap.size, 3, none⟩ = some (.slice (some ⟨b, off, none⟩) n cap)) := cell_below C6.out hb2.out
      cases ob with
      | false =>
        have Hn := uhide (HBAD.out (.inl rfl))
        clear HBAD HOKK
        go_wp2
        go_ret
        exact ⟨ret_bool Hn.out.symm, HB1.out.trans (hb2.out.mono HB1.out.size)⟩
      | true =>
      by_cases hsame : orv = crv
      rotate_left
      · have Hn := uhide (HBAD.out (.inr (.inl hsame)))
        have hne : (orv != crv) = true := by simpa using hsame
        clear HBAD HOKK hsame
        go_wp2_with (first
          | ((with_reducible refine wpList_load_rowG ?qqg125 136 ?qqx125 ?qqo125 wr.heap.size 2 ?qqh125 os Try.rObj_impl_Obj HI1.out C0b.out ?_); (case qqg125 => rfl); (case qqo125 => rfl); (case qqh125 => simp [Act.eval, Act.put]))
          | ((with_reducible refine wpList_load_oneG ?qqg126 3 ?qqx126 ?qqo126 wr.heap.size 5 ?qqh126 (.int .i64 orv) Try.rObj_int C4b.out ?_); (case qqg126 => rfl); (case qqo126 => rfl); (case qqh126 => simp [Act.eval, Act.put]))
          | ((with_reducible refine wpList_load_oneG ?qqg127 3 ?qqx127 ?qqo127 wr.heap.size 0 ?qqh127 (.int .i64 crv) Try.rObj_int C5b.out ?_); (case qqg127 => rfl); (case qqo127 => rfl); (case qqh127 => simp [Act.eval, Act.put]))
          | ((with_reducible refine wpList_load_oneG ?qqg128 4 ?qqx128 ?qqo128 wr.heap.size 1 ?qqh128 (.bool gone) Try.rObj_bool C3b.out ?_); (case qqg128 => rfl); (case qqo128 => rfl); (case qqh128 => simp [Act.eval, Act.put]))
          | ((with_reducible refine wpList_load_oneG ?qqg129 3 ?qqx129 ?qqo129 w.heap.size 1 ?qqh129 (.int .i64 rev) Try.rObj_int C1b.out ?_); (case qqg129 => rfl); (case qqo129 => rfl); (case qqh129 => simp [Act.eval, Act.put]))
          | ((with_reducible refine wpList_load_oneG ?qqg130 3 ?qqx130 ?qqo130 w.heap.size 2 ?qqh130 (.int .i64 next) Try.rObj_int C2b.out ?_); (case qqg130 => rfl); (case qqo130 => rfl); (case qqh130 => simp [Act.eval, Act.put]))
          | ((with_reducible refine wpList_load_rowG ?qqg131 136 ?qqx131 ?qqo131 wr.heap.size 2 ?qqh131 os Try.rObj_impl_Obj HI1.out C0b.out ?_); (case qqg131 => rfl); (case qqo131 => rfl); (case qqh131 => simp [Act.eval, Act.put]))
          | ((with_reducible refine wpList_load_oneG ?qqg132 3 ?qqx132 ?qqo132 wr.heap.size 5 ?qqh132 (.int .i64 orv) Try.rObj_int C4b.out ?_); (case qqg132 => rfl); (case qqo132 => rfl); (case qqh132 => simp [Act.eval, Act.put]))
          | ((with_reducible refine wpList_load_oneG ?qqg133 3 ?qqx133 ?qqo133 wr.heap.size 0 ?qqh133 (.int .i64 crv) Try.rObj_int C5b.out ?_); (case qqg133 => rfl); (case qqo133 => rfl); (case qqh133 => simp [Act.eval, Act.put]))
          | ((with_reducible refine wpList_load_oneG ?qqg134 4 ?qqx134 ?qqo134 wr.heap.size 1 ?qqh134 (.bool gone) Try.rObj_bool C3b.out ?_); (case qqg134 => rfl); (case qqo134 => rfl); (case qqh134 => simp [Act.eval, Act.put]))
          | ((with_reducible refine wpList_load_oneG ?qqg135 3 ?qqx135 ?qqo135 w.heap.size 1 ?qqh135 (.int .i64 rev) Try.rObj_int C1b.out ?_); (case qqg135 => rfl); (case qqo135 => rfl); (case qqh135 => simp [Act.eval, Act.put]))
          | ((with_reducible refine wpList_load_oneG ?qqg136 3 ?qqx136 ?qqo136 w.heap.size 2 ?qqh136 (.int .i64 next) Try.rObj_int C2b.out ?_); (case qqg136 => rfl); (case qqo136 => rfl); (case qqh136 => simp [Act.eval, Act.put]))
          )
        go_ret
        exact ⟨ret_bool Hn.out.symm, HB1.out.trans (hb2.out.mono HB1.out.size)⟩
      have hne : (orv != crv) = false := by simp [hsame]
      have HSM := uhide hsame
      clear hsame
      cases gone with
      | true =>
        rcases Nat.eq_zero_or_pos q with hz | hz
        · subst hz
          have Hn := uhide (HOKK.out (by first | rfl | trivial) HSM.out (by first | exact .inl rfl | trivial | simp) (fun h => by omega))
          clear HBAD HOKK
          go_wp2_with (first
            | ((with_reducible refine wpList_load_rowG ?qqg150 136 ?qqx150 ?qqo150 wr.heap.size 2 ?qqh150 os Try.rObj_impl_Obj HI1.out C0b.out ?_); (case qqg150 => rfl); (case qqo150 => rfl); (case qqh150 => simp [Act.eval, Act.put]))
            | ((with_reducible refine wpList_load_oneG ?qqg151 3 ?qqx151 ?qqo151 wr.heap.size 5 ?qqh151 (.int .i64 orv) Try.rObj_int C4b.out ?_); (case qqg151 => rfl); (case qqo151 => rfl); (case qqh151 => simp [Act.eval, Act.put]))
            | ((with_reducible refine wpList_load_oneG ?qqg152 3 ?qqx152 ?qqo152 wr.heap.size 0 ?qqh152 (.int .i64 crv) Try.rObj_int C5b.out ?_); (case qqg152 => rfl); (case qqo152 => rfl); (case qqh152 => simp [Act.eval, Act.put]))
            | ((with_reducible refine wpList_load_oneG ?qqg153 4 ?qqx153 ?qqo153 wr.heap.size 1 ?qqh153 (.bool true) Try.rObj_bool C3b.out ?_); (case qqg153 => rfl); (case qqo153 => rfl); (case qqh153 => simp [Act.eval, Act.put]))
            | ((with_reducible refine wpList_load_oneG ?qqg154 3 ?qqx154 ?qqo154 w.heap.size 1 ?qqh154 (.int .i64 rev) Try.rObj_int C1b.out ?_); (case qqg154 => rfl); (case qqo154 => rfl); (case qqh154 => simp [Act.eval, Act.put]))
            | ((with_reducible refine wpList_load_oneG ?qqg155 3 ?qqx155 ?qqo155 w.heap.size 2 ?qqh155 (.int .i64 next) Try.rObj_int C2b.out ?_); (case qqg155 => rfl); (case qqo155 => rfl); (case qqh155 => simp [Act.eval, Act.put]))
            | ((with_reducible refine wpList_load_rowG ?qqg156 136 ?qqx156 ?qqo156 wr.heap.size 2 ?qqh156 os Try.rObj_impl_Obj HI1.out C0b.out ?_); (case qqg156 => rfl); (case qqo156 => rfl); (case qqh156 => simp [Act.eval, Act.put]))
            | ((with_reducible refine wpList_load_oneG ?qqg157 3 ?qqx157 ?qqo157 wr.heap.size 5 ?qqh157 (.int .i64 orv) Try.rObj_int C4b.out ?_); (case qqg157 => rfl); (case qqo157 => rfl); (case qqh157 => simp [Act.eval, Act.put]))
            | ((with_reducible refine wpList_load_oneG ?qqg158 3 ?qqx158 ?qqo158 wr.heap.size 0 ?qqh158 (.int .i64 crv) Try.rObj_int C5b.out ?_); (case qqg158 => rfl); (case qqo158 => rfl); (case qqh158 => simp [Act.eval, Act.put]))
            | ((with_reducible refine wpList_load_oneG ?qqg159 4 ?qqx159 ?qqo159 wr.heap.size 1 ?qqh159 (.bool true) Try.rObj_bool C3b.out ?_); (case qqg159 => rfl); (case qqo159 => rfl); (case qqh159 => simp [Act.eval, Act.put]))
            | ((with_reducible refine wpList_load_oneG ?qqg160 3 ?qqx160 ?qqo160 w.heap.size 1 ?qqh160 (.int .i64 rev) Try.rObj_int C1b.out ?_); (case qqg160 => rfl); (case qqo160 => rfl); (case qqh160 => simp [Act.eval, Act.put]))
            | ((with_reducible refine wpList_load_oneG ?qqg161 3 ?qqx161 ?qqo161 w.heap.size 2 ?qqh161 (.int .i64 next) Try.rObj_int C2b.out ?_); (case qqg161 => rfl); (case qqo161 => rfl); (case qqh161 => simp [Act.eval, Act.put]))
            )
          go_quiet (fail)
          go_wp2
          go_roundw
          case rel => exact ⟨0 + 1, by omega, by go_num, Hn, HOW.out _ (below_drewN hb2.out _), below_drewN (HB1.out.trans (hb2.out.mono HB1.out.size)) _⟩
          case measure => (simp [intOf] <;> omega)
        · obtain ⟨p, rfl⟩ : ∃ p, q = p + 1 := ⟨q - 1, by omega⟩
          obtain ⟨ps, hhp, hcp⟩ := (HM.out.row 19 p).hand
          obtain ⟨hp0, _⟩ := change_cells (Ht.out.row (show p < n by omega)) hhp
          obtain ⟨prv, hpr⟩ : ∃ g, g = kindU (rowU cs 19 p) := ⟨_, rfl⟩
          have hcp0 := hcp 0 _ hp0
          have C7 : Hid (wy.cell? ⟨b, off + p * 19, none⟩ = some (.int .i64 prv)) := by rw [hpr]; exact (HBEL.out.cell (p := ⟨b, off + p * 19, none⟩) hbb).trans hcp0
          have c7 := cell_below C7.out hb2.out
          have c6 := C6b.out
          have c5 := C5b.out
          have hpp0 : (0 : Int) ≤ (p : Int) := Int.natCast_nonneg _
          have hppn : (p : Int) < (n : Int) := by omega
          have hpp1 : (0 : Int) < (p : Int) + 1 := by omega
          have hwp : IntKind.i64.wrap (p : Int) = (p : Int) := by rw [IntKind.wrap_i64]; omega
          by_cases has : prv < crv
          · have Hn := uhide (HOKK.out (by first | rfl | trivial) HSM.out (by first | exact .inl rfl | trivial | simp) (fun _ => by rw [Nat.add_sub_cancel, ← hpr]; exact has))
            have hd : decide (crv ≤ prv) = false := by rw [decide_eq_false_iff_not]; omega
            have hd2 : ¬ crv ≤ prv := by omega
            clear HBAD HOKK hhp hcp hp0 hpr hcp0 HM has
            go_wp2_with (first
              | ((with_reducible refine wpList_load_rowG ?qqg187 136 ?qqx187 ?qqo187 wr.heap.size 2 ?qqh187 os Try.rObj_impl_Obj HI1.out C0b.out ?_); (case qqg187 => rfl); (case qqo187 => rfl); (case qqh187 => simp [Act.eval, Act.put]))
              | ((with_reducible refine wpList_load_oneG ?qqg188 3 ?qqx188 ?qqo188 wr.heap.size 5 ?qqh188 (.int .i64 orv) Try.rObj_int C4b.out ?_); (case qqg188 => rfl); (case qqo188 => rfl); (case qqh188 => simp [Act.eval, Act.put]))
              | ((with_reducible refine wpList_load_oneG ?qqg189 3 ?qqx189 ?qqo189 wr.heap.size 0 ?qqh189 (.int .i64 crv) Try.rObj_int C5b.out ?_); (case qqg189 => rfl); (case qqo189 => rfl); (case qqh189 => simp [Act.eval, Act.put]))
              | ((with_reducible refine wpList_load_oneG ?qqg190 4 ?qqx190 ?qqo190 wr.heap.size 1 ?qqh190 (.bool true) Try.rObj_bool C3b.out ?_); (case qqg190 => rfl); (case qqo190 => rfl); (case qqh190 => simp [Act.eval, Act.put]))
              | ((with_reducible refine wpList_load_oneG ?qqg191 3 ?qqx191 ?qqo191 w.heap.size 1 ?qqh191 (.int .i64 rev) Try.rObj_int C1b.out ?_); (case qqg191 => rfl); (case qqo191 => rfl); (case qqh191 => simp [Act.eval, Act.put]))
              | ((with_reducible refine wpList_load_oneG ?qqg192 3 ?qqx192 ?qqo192 w.heap.size 2 ?qqh192 (.int .i64 next) Try.rObj_int C2b.out ?_); (case qqg192 => rfl); (case qqo192 => rfl); (case qqh192 => simp [Act.eval, Act.put]))
              | ((with_reducible refine wpList_load_rowG ?qqg193 136 ?qqx193 ?qqo193 wr.heap.size 2 ?qqh193 os Try.rObj_impl_Obj HI1.out C0b.out ?_); (case qqg193 => rfl); (case qqo193 => rfl); (case qqh193 => simp [Act.eval, Act.put]))
              | ((with_reducible refine wpList_load_oneG ?qqg194 3 ?qqx194 ?qqo194 wr.heap.size 5 ?qqh194 (.int .i64 orv) Try.rObj_int C4b.out ?_); (case qqg194 => rfl); (case qqo194 => rfl); (case qqh194 => simp [Act.eval, Act.put]))
              | ((with_reducible refine wpList_load_oneG ?qqg195 3 ?qqx195 ?qqo195 wr.heap.size 0 ?qqh195 (.int .i64 crv) Try.rObj_int C5b.out ?_); (case qqg195 => rfl); (case qqo195 => rfl); (case qqh195 => simp [Act.eval, Act.put]))
              | ((with_reducible refine wpList_load_oneG ?qqg196 4 ?qqx196 ?qqo196 wr.heap.size 1 ?qqh196 (.bool true) Try.rObj_bool C3b.out ?_); (case qqg196 => rfl); (case qqo196 => rfl); (case qqh196 => simp [Act.eval, Act.put]))
              | ((with_reducible refine wpList_load_oneG ?qqg197 3 ?qqx197 ?qqo197 w.heap.size 1 ?qqh197 (.int .i64 rev) Try.rObj_int C1b.out ?_); (case qqg197 => rfl); (case qqo197 => rfl); (case qqh197 => simp [Act.eval, Act.put]))
              | ((with_reducible refine wpList_load_oneG ?qqg198 3 ?qqx198 ?qqo198 w.heap.size 2 ?qqh198 (.int .i64 next) Try.rObj_int C2b.out ?_); (case qqg198 => rfl); (case qqo198 => rfl); (case qqh198 => simp [Act.eval, Act.put]))
              )
            go_quiet (fail)
            go_wp2
            go_roundw
            case rel => exact ⟨p + 1 + 1, by omega, by go_num, Hn, HOW.out _ (below_drewN hb2.out _), below_drewN (HB1.out.trans (hb2.out.mono HB1.out.size)) _⟩
            case measure => (simp [intOf] <;> omega)
          · have Hn := uhide (HBAD.out (.inr (.inr (.inr ⟨by omega, by rw [Nat.add_sub_cancel, ← hpr]; omega⟩))))
            have hd : decide (crv ≤ prv) = true := by rw [decide_eq_true_eq]; omega
            have hd2 : crv ≤ prv := by omega
            clear HBAD HOKK hhp hcp hp0 hpr hcp0 HM has
            go_wp2_with (first
              | ((with_reducible refine wpList_load_rowG ?qqg210 136 ?qqx210 ?qqo210 wr.heap.size 2 ?qqh210 os Try.rObj_impl_Obj HI1.out C0b.out ?_); (case qqg210 => rfl); (case qqo210 => rfl); (case qqh210 => simp [Act.eval, Act.put]))
              | ((with_reducible refine wpList_load_oneG ?qqg211 3 ?qqx211 ?qqo211 wr.heap.size 5 ?qqh211 (.int .i64 orv) Try.rObj_int C4b.out ?_); (case qqg211 => rfl); (case qqo211 => rfl); (case qqh211 => simp [Act.eval, Act.put]))
              | ((with_reducible refine wpList_load_oneG ?qqg212 3 ?qqx212 ?qqo212 wr.heap.size 0 ?qqh212 (.int .i64 crv) Try.rObj_int C5b.out ?_); (case qqg212 => rfl); (case qqo212 => rfl); (case qqh212 => simp [Act.eval, Act.put]))
              | ((with_reducible refine wpList_load_oneG ?qqg213 4 ?qqx213 ?qqo213 wr.heap.size 1 ?qqh213 (.bool true) Try.rObj_bool C3b.out ?_); (case qqg213 => rfl); (case qqo213 => rfl); (case qqh213 => simp [Act.eval, Act.put]))
              | ((with_reducible refine wpList_load_oneG ?qqg214 3 ?qqx214 ?qqo214 w.heap.size 1 ?qqh214 (.int .i64 rev) Try.rObj_int C1b.out ?_); (case qqg214 => rfl); (case qqo214 => rfl); (case qqh214 => simp [Act.eval, Act.put]))
              | ((with_reducible refine wpList_load_oneG ?qqg215 3 ?qqx215 ?qqo215 w.heap.size 2 ?qqh215 (.int .i64 next) Try.rObj_int C2b.out ?_); (case qqg215 => rfl); (case qqo215 => rfl); (case qqh215 => simp [Act.eval, Act.put]))
              | ((with_reducible refine wpList_load_rowG ?qqg216 136 ?qqx216 ?qqo216 wr.heap.size 2 ?qqh216 os Try.rObj_impl_Obj HI1.out C0b.out ?_); (case qqg216 => rfl); (case qqo216 => rfl); (case qqh216 => simp [Act.eval, Act.put]))
              | ((with_reducible refine wpList_load_oneG ?qqg217 3 ?qqx217 ?qqo217 wr.heap.size 5 ?qqh217 (.int .i64 orv) Try.rObj_int C4b.out ?_); (case qqg217 => rfl); (case qqo217 => rfl); (case qqh217 => simp [Act.eval, Act.put]))
              | ((with_reducible refine wpList_load_oneG ?qqg218 3 ?qqx218 ?qqo218 wr.heap.size 0 ?qqh218 (.int .i64 crv) Try.rObj_int C5b.out ?_); (case qqg218 => rfl); (case qqo218 => rfl); (case qqh218 => simp [Act.eval, Act.put]))
              | ((with_reducible refine wpList_load_oneG ?qqg219 4 ?qqx219 ?qqo219 wr.heap.size 1 ?qqh219 (.bool true) Try.rObj_bool C3b.out ?_); (case qqg219 => rfl); (case qqo219 => rfl); (case qqh219 => simp [Act.eval, Act.put]))
              | ((with_reducible refine wpList_load_oneG ?qqg220 3 ?qqx220 ?qqo220 w.heap.size 1 ?qqh220 (.int .i64 rev) Try.rObj_int C1b.out ?_); (case qqg220 => rfl); (case qqo220 => rfl); (case qqh220 => simp [Act.eval, Act.put]))
              | ((with_reducible refine wpList_load_oneG ?qqg221 3 ?qqx221 ?qqo221 w.heap.size 2 ?qqh221 (.int .i64 next) Try.rObj_int C2b.out ?_); (case qqg221 => rfl); (case qqo221 => rfl); (case qqh221 => simp [Act.eval, Act.put]))
              )
            go_quiet (fail)
            go_wp2
            go_ret
            exact ⟨ret_bool Hn.out.symm, below_drewN (HB1.out.trans (hb2.out.mono HB1.out.size)) _⟩
      | false =>
        go_wp2_with (first
          | ((with_reducible refine wpList_load_rowG ?qqg229 136 ?qqx229 ?qqo229 wr.heap.size 2 ?qqh229 os Try.rObj_impl_Obj HI1.out C0b.out ?_); (case qqg229 => rfl); (case qqo229 => rfl); (case qqh229 => simp [Act.eval, Act.put]))
          | ((with_reducible refine wpList_load_oneG ?qqg230 3 ?qqx230 ?qqo230 wr.heap.size 5 ?qqh230 (.int .i64 orv) Try.rObj_int C4b.out ?_); (case qqg230 => rfl); (case qqo230 => rfl); (case qqh230 => simp [Act.eval, Act.put]))
          | ((with_reducible refine wpList_load_oneG ?qqg231 3 ?qqx231 ?qqo231 wr.heap.size 0 ?qqh231 (.int .i64 crv) Try.rObj_int C5b.out ?_); (case qqg231 => rfl); (case qqo231 => rfl); (case qqh231 => simp [Act.eval, Act.put]))
          | ((with_reducible refine wpList_load_oneG ?qqg232 4 ?qqx232 ?qqo232 wr.heap.size 1 ?qqh232 (.bool false) Try.rObj_bool C3b.out ?_); (case qqg232 => rfl); (case qqo232 => rfl); (case qqh232 => simp [Act.eval, Act.put]))
          | ((with_reducible refine wpList_load_oneG ?qqg233 3 ?qqx233 ?qqo233 w.heap.size 1 ?qqh233 (.int .i64 rev) Try.rObj_int C1b.out ?_); (case qqg233 => rfl); (case qqo233 => rfl); (case qqh233 => simp [Act.eval, Act.put]))
          | ((with_reducible refine wpList_load_oneG ?qqg234 3 ?qqx234 ?qqo234 w.heap.size 2 ?qqh234 (.int .i64 next) Try.rObj_int C2b.out ?_); (case qqg234 => rfl); (case qqo234 => rfl); (case qqh234 => simp [Act.eval, Act.put]))
          | ((with_reducible refine wpList_load_rowG ?qqg235 136 ?qqx235 ?qqo235 wr.heap.size 2 ?qqh235 os Try.rObj_impl_Obj HI1.out C0b.out ?_); (case qqg235 => rfl); (case qqo235 => rfl); (case qqh235 => simp [Act.eval, Act.put]))
          | ((with_reducible refine wpList_load_oneG ?qqg236 3 ?qqx236 ?qqo236 wr.heap.size 5 ?qqh236 (.int .i64 orv) Try.rObj_int C4b.out ?_); (case qqg236 => rfl); (case qqo236 => rfl); (case qqh236 => simp [Act.eval, Act.put]))
          | ((with_reducible refine wpList_load_oneG ?qqg237 3 ?qqx237 ?qqo237 wr.heap.size 0 ?qqh237 (.int .i64 crv) Try.rObj_int C5b.out ?_); (case qqg237 => rfl); (case qqo237 => rfl); (case qqh237 => simp [Act.eval, Act.put]))
          | ((with_reducible refine wpList_load_oneG ?qqg238 4 ?qqx238 ?qqo238 wr.heap.size 1 ?qqh238 (.bool false) Try.rObj_bool C3b.out ?_); (case qqg238 => rfl); (case qqo238 => rfl); (case qqh238 => simp [Act.eval, Act.put]))
          | ((with_reducible refine wpList_load_oneG ?qqg239 3 ?qqx239 ?qqo239 w.heap.size 1 ?qqh239 (.int .i64 rev) Try.rObj_int C1b.out ?_); (case qqg239 => rfl); (case qqo239 => rfl); (case qqh239 => simp [Act.eval, Act.put]))
          | ((with_reducible refine wpList_load_oneG ?qqg240 3 ?qqx240 ?qqo240 w.heap.size 2 ?qqh240 (.int .i64 next) Try.rObj_int C2b.out ?_); (case qqg240 => rfl); (case qqo240 => rfl); (case qqh240 => simp [Act.eval, Act.put]))
          )
        refine (HC2.out _ hb2.out).mono ?_
        rintro e w4 ⟨rfl, hb4⟩
        have C0c : Hid (w4.rangeAt wr.heap.size 2 os) := range_below C0.out hb4.out
        have C1c : Hid (w4.cell? ⟨w.heap.size, 1, none⟩ = some (.int .i64 rev)) := cell_below C1.out hb4.out
        have C2c : Hid (w4.cell? ⟨w.heap.size, 2, none⟩ = some (.int .i64 next)) := cell_below C2.out hb4.out
        have C3c : Hid (w4.cell? ⟨wr.heap.size, 1, none⟩ = some (.bool false)) := cell_below C3.out hb4.out
        have C4c : Hid (w4.cell? ⟨wr.heap.size, 5, none⟩ = some (.int .i64 orv)) := cell_below C4.out hb4.out
        have C5c : Hid (w4.cell? ⟨wr.heap.size, 0, none⟩ = some (.int .i64 crv)) := cell_below C5.out hb4.out
        have C6c : Hid (w4.cell? ⟨w.heap.size, 3, none⟩ = some (.slice (some ⟨b, off, none⟩) n cap)) := cell_below C6.out hb4.out
        cases en with
        | true =>
          have Hn := uhide (HBAD.out (.inr (.inr (.inl (by first | exact ⟨rfl, rfl⟩ | trivial | simp)))))
          clear HBAD HOKK
          go_wp2
          go_ret
          exact ⟨ret_bool Hn.out.symm, HB1.out.trans (hb4.out.mono HB1.out.size)⟩
        | false =>
          rcases Nat.eq_zero_or_pos q with hz | hz
          · subst hz
            have Hn := uhide (HOKK.out (by first | rfl | trivial) HSM.out (by first | exact .inr rfl | trivial | simp) (fun h => by omega))
            clear HBAD HOKK
            go_wp2
            go_quiet (fail)
            go_wp2
            go_roundw
            case rel => exact ⟨0 + 1, by omega, by go_num, Hn, HOW.out _ (below_drewN hb4.out _), below_drewN (HB1.out.trans (hb4.out.mono HB1.out.size)) _⟩
            case measure => (simp [intOf] <;> omega)
          · obtain ⟨p, rfl⟩ : ∃ p, q = p + 1 := ⟨q - 1, by omega⟩
            obtain ⟨ps, hhp, hcp⟩ := (HM.out.row 19 p).hand
            obtain ⟨hp0, _⟩ := change_cells (Ht.out.row (show p < n by omega)) hhp
            obtain ⟨prv, hpr⟩ : ∃ g, g = kindU (rowU cs 19 p) := ⟨_, rfl⟩
            have hcp0 := hcp 0 _ hp0
            have C7 : Hid (wy.cell? ⟨b, off + p * 19, none⟩ = some (.int .i64 prv)) := by rw [hpr]; exact (HBEL.out.cell (p := ⟨b, off + p * 19, none⟩) hbb).trans hcp0
            have c7 := cell_below C7.out hb4.out
            have c6 := C6c.out
            have c5 := C5c.out
            have hpp0 : (0 : Int) ≤ (p : Int) := Int.natCast_nonneg _
            have hppn : (p : Int) < (n : Int) := by omega
            have hpp1 : (0 : Int) < (p : Int) + 1 := by omega
            have hwp : IntKind.i64.wrap (p : Int) = (p : Int) := by rw [IntKind.wrap_i64]; omega
            by_cases has : prv < crv
            · have Hn := uhide (HOKK.out (by first | rfl | trivial) HSM.out (by first | exact .inr rfl | trivial | simp) (fun _ => by rw [Nat.add_sub_cancel, ← hpr]; exact has))
              have hd : decide (crv ≤ prv) = false := by rw [decide_eq_false_iff_not]; omega
              have hd2 : ¬ crv ≤ prv := by omega
              clear HBAD HOKK hhp hcp hp0 hpr hcp0 HM has
              go_wp2
              go_quiet (fail)
              go_wp2
              go_roundw
              case rel => exact ⟨p + 1 + 1, by omega, by go_num, Hn, HOW.out _ (below_drewN hb4.out _), below_drewN (HB1.out.trans (hb4.out.mono HB1.out.size)) _⟩
              case measure => (simp [intOf] <;> omega)
            · have Hn := uhide (HBAD.out (.inr (.inr (.inr ⟨by omega, by rw [Nat.add_sub_cancel, ← hpr]; omega⟩))))
              have hd : decide (crv ≤ prv) = true := by rw [decide_eq_true_eq]; omega
              have hd2 : crv ≤ prv := by omega
              clear HBAD HOKK hhp hcp hp0 hpr hcp0 HM has
              go_wp2
              go_quiet (fail)
              go_wp2
              go_ret
              exact ⟨ret_bool Hn.out.symm, below_drewN (HB1.out.trans (hb4.out.mono HB1.out.size)) _⟩
    · have e : q = n := by omega
      subst e
      have Hv : Hid (logB cs q rev next = true) := logB_end Ho.out
      clear Ho Hx Ht
      go_wp2
      go_ret
      exact ⟨ret_bool (by rw [Hv.out]), hbw.out⟩
end Go.Proofs.Ytdnodaoeflbfkaa
