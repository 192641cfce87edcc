/- Objects: the program's look at a list of them, whole. -/
import Derived.Test.YtdnodaoeflbfkaaOB11
namespace Go.Proofs.Ytdnodaoeflbfkaa
open Go.RowKit Go.BigFrame
set_option linter.unusedVariables false
set_option linter.unusedSimpArgs false
set_option maxRecDepth 40000 in
set_option maxHeartbeats 6400000 in
theorem standOk_any {lo hi : Nat} (d : UD) (xs : List Value) (rev next : Int) (w : World) (ht : tyL d (uE 8)) (hx : uH w lo hi d xs) (hn0 : -9223372036854775807 ≤ next) (hn1 : next ≤ 9223372036854775807) :
    Calls Try.prog 167 #[.agg xs.toArray, .int .i64 rev, .int .i64 (next - 1)] w fun e w' => e = .returned (.bool (objB d rev next && !endsB d)) ∧ Below w.heap.size w w' := by
  obtain ⟨ob, hob⟩ : ∃ z, z = objB d rev next := ⟨_, rfl⟩
  obtain ⟨en, hen⟩ : ∃ z, z = endsB d := ⟨_, rfl⟩
  have K1 : Hid (∀ wx, Below w.heap.size w wx → Calls Try.prog 168 #[.agg xs.toArray, .int .i64 rev, .int .i64 (next - 1)] wx fun e w' => e = .returned (.bool ob) ∧ Hid (Below wx.heap.size wx w')) := fun wx hb => hob ▸ objOk_any (lo := lo) (hi := hi) _ xs rev next wx ht (hx.below hb) hn0 hn1
  have K2 : Hid (∀ wx, Below w.heap.size w wx → Calls Try.prog 169 #[.agg xs.toArray] wx fun e w' => e = .returned (.bool en) ∧ Hid (Below wx.heap.size wx w')) := fun wx hb => hen ▸ iends_any (lo := lo) (hi := hi) _ xs wx ht (hx.below hb)
  have HI1 : Hid ((Try.prog.info? 136).map (·.size) = some xs.length) := by show _ = _; rw [hx.len, tyL.len ht]; exact Try.zObj_impl_Obj
  rw [← hob, ← hen]
  have C0 : Hid ((w.alloc (.cells xs.toArray 136)).rangeAt w.heap.size 0 xs) := (objU.new w 136 xs).range 0 xs (fun i v h => by rw [Nat.zero_add]; exact h)
  have B0 : Hid (Below w.heap.size w (w.alloc (.cells xs.toArray 136))) := (Below.refl _ _).alloc (Nat.le_refl _) _
  clear hob hen hx ht hn0 hn1
  cases ob with
  | false =>
    go_enter Try.func167, Try.ntmps167
    go_wp2_with (first
      | ((with_reducible refine wpList_load_rowG ?qqg23 136 ?qqx23 ?qqo23 w.heap.size 0 ?qqh23 xs Try.rObj_impl_Obj HI1.out C0.out ?_); (case qqg23 => rfl); (case qqo23 => rfl); (case qqh23 => simp [Act.eval, Act.put]))
      | (go_at_call 168; refine (K1.out _ B0.out).mono ?_; rintro e w2 ⟨rfl, hb2⟩)
      )
    go_ret
    exact ⟨rfl, B0.out.trans (hb2.out.mono B0.out.size)⟩
  | true =>
    go_enter Try.func167, Try.ntmps167
    go_wp2_with (first
      | ((with_reducible refine wpList_load_rowG ?qqg31 136 ?qqx31 ?qqo31 w.heap.size 0 ?qqh31 xs Try.rObj_impl_Obj HI1.out C0.out ?_); (case qqg31 => rfl); (case qqo31 => rfl); (case qqh31 => simp [Act.eval, Act.put]))
      | (go_at_call 168; refine (K1.out _ B0.out).mono ?_; rintro e w2 ⟨rfl, hb2⟩; have C2 := uhide (range_below C0.out hb2.out); have B2 : Hid (Below w.heap.size w w2) := B0.out.trans (hb2.out.mono B0.out.size))
      | ((with_reducible refine wpList_load_rowG ?qqg33 136 ?qqx33 ?qqo33 w.heap.size 0 ?qqh33 xs Try.rObj_impl_Obj HI1.out C2.out ?_); (case qqg33 => rfl); (case qqo33 => rfl); (case qqh33 => simp [Act.eval, Act.put]))
      | (go_at_call 169; refine (K2.out _ B2.out).mono ?_; rintro e w3 ⟨rfl, hb3⟩)
      )
    go_ret
    exact ⟨rfl, B2.out.trans (hb3.out.mono B2.out.size)⟩
set_option maxRecDepth 40000 in
set_option maxHeartbeats 6400000 in
theorem objsOk_any {lo hi : Nat} (n : Nat) (cs : UD) (c : Value) (rev next : Int) (w : World) (ht : tyS 17 n cs 8) (hx : uS w lo hi 17 n cs c) (hn0 : -9223372036854775807 ≤ next) (hn1 : next ≤ 9223372036854775807) :
    Calls Try.prog 92 #[c, .int .i64 rev, .int .i64 (next - 1)] w fun e w' => e = .returned (.bool (objsB cs n rev next)) ∧ Below w.heap.size w w' := by
  obtain ⟨a, cap, rfl, hx2⟩ := hx
  have Hx : Hid (uS w lo hi 17 n cs (.slice a n cap)) := ⟨a, cap, rfl, hx2⟩
  have Ht := uhide ht
  have HN := uhide (And.intro hn0 hn1)
  have hmx := ht.2.2.1
  unfold maxLen at hmx
  obtain ⟨f, hf⟩ : ∃ f : Bool, f = true ↔ fitI cs n := ⟨@decide (fitI cs n) (Classical.propDecidable _), by simp⟩
  have HIF := uhide (objsB_iff cs n rev next)
  have HFI := uhide hf
  have HC : Hid (Calls Try.prog 166 #[.slice a n cap] w fun e w' => e = .returned (.bool f) ∧ Hid (Below w.heap.size w w')) := objsFit_any (lo := lo) (hi := hi) n cs _ f w ht Hx.out hf
  obtain ⟨R, hR⟩ : ∃ R, R = objsB cs n rev next := ⟨_, rfl⟩
  rw [← hR] at HIF ⊢
  clear hx2 ht hn0 hn1 hf hR
  cases f with
  | false =>
    have hr : R = false := by
      cases hq : R with
      | false => rfl
      | true => have := HFI.out.2 (HIF.out.1 hq).1; cases this
    subst hr
    clear HIF HFI
    go_enter Try.func92, Try.ntmps92
    go_wp2_with (go_at_call 166; refine HC.out.mono ?_; rintro e w1 ⟨rfl, hb1⟩)
    go_ret
    exact ⟨rfl, hb1.out⟩
  | true =>
  have HFT := uhide (HFI.out.1 rfl)
  clear HFI
  go_enter Try.func92, Try.ntmps92
  go_wp2_with (go_at_call 166; refine HC.out.mono ?_; rintro e w1 ⟨rfl, hb1⟩)
  go_loopw [14] (fun i wr => ∃ q : Nat, q ≤ n ∧ i = .int .i64 q ∧ Hid (∀ j, j < q → objB (rowU cs 17 j) rev next = true ∧ endsB (rowU cs 17 j) = false) ∧ Hid (Below w.heap.size w wr)) (fun i _ => n - (intOf i).toNat)
  case atStart => exact ⟨0, Nat.zero_le _, rfl, fun j hj => by omega, hb1⟩
  case round =>
    clear hb1 HC
    obtain ⟨q, hq, rfl, Ho, HB⟩ := hrel
    by_cases hlt : q < n
    · obtain ⟨b, off, rfl, hbb, hm⟩ := (Hx.out.below HB.out).cells (by omega)
      have htr := Ht.out.row hlt
      obtain ⟨xs, hh, hcl⟩ := (hm.row 17 q).hand
      have hxl : xs.length = 17 := by rw [hh.len, tyL.len htr]; rfl
      have ONE := uhide (one_cell htr hh)
      have HI1 : Hid ((Try.prog.info? 136).map (·.size) = some xs.length) := by show _ = _; rw [hxl]; exact Try.zObj_impl_Obj
      have RX : Hid (wr.rangeAt b (off + q * 17) xs) := hcl
      have TH : Hid ((wr.alloc (.cells ([.int .i64 0, .string ⟨#[]⟩, .int .i64 0, .int .i64 0, .int .i64 0, .bool false, .slice none 0 0, .int .i64 0, .string ⟨#[]⟩, .int .i64 0, .slice none 0 0, .slice none 0 0, .int .i64 0, .string ⟨#[]⟩, .int .i64 0, .slice none 0 0, .slice none 0 0] : List Value).toArray 136)).there wr.heap.size 0 xs.length) := by rw [hxl]; exact (objU.new2 _ _ rfl).there 0 17 (by decide)
      have HOX : Hid (∀ wy, wy = (wr.alloc (.cells ([.int .i64 0, .string ⟨#[]⟩, .int .i64 0, .int .i64 0, .int .i64 0, .bool false, .slice none 0 0, .int .i64 0, .string ⟨#[]⟩, .int .i64 0, .slice none 0 0, .slice none 0 0, .int .i64 0, .string ⟨#[]⟩, .int .i64 0, .slice none 0 0, .slice none 0 0] : List Value).toArray 136)).setCells wr.heap.size 0 xs → objU wy wr.heap.size 136 xs ∧ Below wr.heap.size wr wy) := fun wy e => by
        subst e
        have h1 := objU.setCells (t := 136) xs ([.int .i64 0, .string ⟨#[]⟩, .int .i64 0, .int .i64 0, .int .i64 0, .bool false, .slice none 0 0, .int .i64 0, .string ⟨#[]⟩, .int .i64 0, .slice none 0 0, .slice none 0 0, .int .i64 0, .string ⟨#[]⟩, .int .i64 0, .slice none 0 0, .slice none 0 0]) [] [] _ (objU.new2 (w := wr) _ _ rfl) (by rw [hxl]; rfl)
        refine ⟨by simpa using h1, ?_⟩
        exact ((Below.refl _ _).alloc (Nat.le_refl _) _).trans ((OutS.setCells _ _ _).below (fun t ht => by simp at ht; omega) (by simp))
      have hq0 : (0 : Int) ≤ (q : Int) := Int.natCast_nonneg _
      have hqn : (q : Int) < (n : Int) := by omega
      obtain ⟨ok, hok⟩ : ∃ z, z = (objB (rowU cs 17 q) rev next && !endsB (rowU cs 17 q)) := ⟨_, rfl⟩
      have K1 : Hid (∀ wx, Below wr.heap.size wr wx → Calls Try.prog 167 #[.agg xs.toArray, .int .i64 rev, .int .i64 (next - 1)] wx fun e w' => e = .returned (.bool ok) ∧ Hid (Below wx.heap.size wx w')) := fun wx hb => hok ▸ standOk_any (lo := lo) (hi := hi) _ xs rev next wx htr (hh.below hb) HN.out.1 HN.out.2
      clear hxl hcl hm htr hh
      cases ok with
      | false =>
        have hr : R = false := by
          cases hq : R with
          | false => rfl
          | true => have := (HIF.out.1 hq).2 q hlt; rw [this.1, this.2] at hok; cases hok
        subst hr
        clear hok HIF Ho
        go_wp2_with (first
          | ((with_reducible refine wpList_load_row2 ?qqg107 136 ?qqx107 ?qqo107 b (off + q * 17) ?qqh107 xs Try.rObj_impl_Obj HI1.out RX.out ?_); (case qqg107 => rfl); (case qqo107 => rfl); (case qqh107 => simp [Act.eval, Act.put]))
          | ((with_reducible refine wpList_store_cells ?qqg108 136 ?qqx108 ?qqy108 ?qqo108 ?qqd108 wr.heap.size 0 ?qqh108 (.agg xs.toArray) ?qqv108 xs cells_agg ONE.out HI1.out TH.out ?_); (case qqg108 => rfl); (case qqo108 => rfl); (case qqd108 => rfl); (case qqh108 => simp [Act.eval, Act.put]); (case qqv108 => simp [Act.eval, Act.put]); intro wy ey; have C0 : Hid (wy.rangeAt wr.heap.size 0 xs) := (HOX.out wy ey).1.range 0 xs (fun i v h => by simpa using h); have HBEL := uhide (HOX.out wy ey).2; clear ey)
          | ((with_reducible refine wpList_load_row2 ?qqg109 136 ?qqx109 ?qqo109 wr.heap.size 0 ?qqh109 xs Try.rObj_impl_Obj HI1.out C0.out ?_); (case qqg109 => rfl); (case qqo109 => rfl); (case qqh109 => simp [Act.eval, Act.put]))
          | (go_at_call 167; refine (K1.out _ HBEL.out).mono ?_; rintro e w2 ⟨rfl, hb2⟩)
          )
        go_ret
        exact ⟨rfl, HB.out.trans (HBEL.out.trans (hb2.out.mono HBEL.out.size) |>.mono HB.out.size)⟩
      | true =>
        have HO2 : Hid (∀ j, j < q + 1 → objB (rowU cs 17 j) rev next = true ∧ endsB (rowU cs 17 j) = false) := fun j hj => by
          by_cases e : j = q
          · subst e
            cases h1 : objB (rowU cs 17 j) rev next <;> cases h2 : endsB (rowU cs 17 j) <;> simp [h1, h2] at hok <;> exact ⟨rfl, rfl⟩
          · exact Ho.out j (by omega)
        clear hok Ho
        go_wp2_with (first
          | ((with_reducible refine wpList_load_row2 ?qqg122 136 ?qqx122 ?qqo122 b (off + q * 17) ?qqh122 xs Try.rObj_impl_Obj HI1.out RX.out ?_); (case qqg122 => rfl); (case qqo122 => rfl); (case qqh122 => simp [Act.eval, Act.put]))
          | ((with_reducible refine wpList_store_cells ?qqg123 136 ?qqx123 ?qqy123 ?qqo123 ?qqd123 wr.heap.size 0 ?qqh123 (.agg xs.toArray) ?qqv123 xs cells_agg ONE.out HI1.out TH.out ?_); (case qqg123 => rfl); (case qqo123 => rfl); (case qqd123 => rfl); (case qqh123 => simp [Act.eval, Act.put]); (case qqv123 => simp [Act.eval, Act.put]); intro wy ey; have C0 : Hid (wy.rangeAt wr.heap.size 0 xs) := (HOX.out wy ey).1.range 0 xs (fun i v h => by simpa using h); have HBEL := uhide (HOX.out wy ey).2; clear ey)
          | ((with_reducible refine wpList_load_row2 ?qqg124 136 ?qqx124 ?qqo124 wr.heap.size 0 ?qqh124 xs Try.rObj_impl_Obj HI1.out C0.out ?_); (case qqg124 => rfl); (case qqo124 => rfl); (case qqh124 => simp [Act.eval, Act.put]))
          | (go_at_call 167; refine (K1.out _ HBEL.out).mono ?_; rintro e w2 ⟨rfl, hb2⟩)
          )
        have HB3 : Hid (Below w.heap.size w w2) := HB.out.trans (HBEL.out.trans (hb2.out.mono HBEL.out.size) |>.mono HB.out.size)
        go_roundw
        case rel => exact ⟨q + 1, by omega, by go_num, HO2, HB3⟩
        case measure => simp [intOf]; omega
    · have e : q = n := by omega
      subst e
      have hr : R = true := HIF.out.2 ⟨HFT.out, Ho.out⟩
      subst hr
      clear HIF HFT Ho
      go_wp2
      go_ret
      exact ⟨rfl, HB.out⟩
end Go.Proofs.Ytdnodaoeflbfkaa
