/- Objects: the program's look at a list of them. -/
import Derived.Test.YtamlgjmboljcdaaGreatOB7
import Derived.Test.YtamlgjmboljcdaaGreatOB10
import Derived.Test.YtamlgjmboljcdaaGreatIRw
import Derived.Test.YtamlgjmboljcdaaGreatShelf
import Derived.WideShapes
import Derived.Lib.OwnBridge
namespace Go.Proofs.YtamlgjmboljcdaaGreat
open Go.RowKit Go.BigFrame
set_option linter.unusedVariables false
theorem IR.shp {w : World} {base : Nat} {v : Value} {l : List Int} (h : IR w base v l) : ∃ g cap, v = .slice (some ⟨g, 0, none⟩) l.length cap ∧ base ≤ g ∧ g < w.heap.size := by
  obtain ⟨h1, g, h2, h3, h4⟩ := h
  rcases h1.2 with ⟨e, _⟩ | ⟨g', cap, cur, e, hb, hh, _⟩
  · rw [e] at h2; cases h2
  · subst e
    have : g' = g := by simpa [Value.ownBlock] using h2
    subst this
    exact ⟨g', cap, rfl, h3, h4⟩
theorem cell_newI {w wx : World} {x : Value} {t : TypeId} (hb : Below (w.heap.size + 1) (w.alloc (.cells #[x] t)) wx) : ∀ j u, [x][j]? = some u → wx.cell? ((⟨w.heap.size, 0, none⟩ : Addr).add j) = some u := fun j u h =>
  (hb.cell (p := (⟨w.heap.size, 0, none⟩ : Addr).add j) (by rw [Go.WideShapes.add_plain]; show w.heap.size < _; omega)).trans (cell_one_new w x t j u h)
def uidsI (cs : UD) (q : Nat) : List Int := (List.range q).map fun j => uidU (rowU cs 17 j)
theorem uidsI_len (cs : UD) (q : Nat) : (uidsI cs q).length = q := by unfold uidsI; simp
theorem uidsI_succ (cs : UD) (q : Nat) : uidsI cs (q + 1) = uidsI cs q ++ [uidU (rowU cs 17 q)] := by unfold uidsI; rw [List.range_succ, List.map_append]; rfl
def okF (cs : UD) (i : Nat) : Prop := 0 < i → lessO (kindU (rowU cs 17 (i - 1))) (kindU (rowU cs 17 i)) (nameU (rowU cs 17 (i - 1))) (nameU (rowU cs 17 i)) = true
def fitI (cs : UD) (n : Nat) : Prop := n ≤ 60 ∧ (∀ i, i < n → okF cs i) ∧ (uidsI cs n).Nodup
theorem uidsI_nodup (cs : UD) (n : Nat) : (uidsI cs n).Nodup ↔ ∀ i, i < n → ∀ k, k < i → uidU (rowU cs 17 k) ≠ uidU (rowU cs 17 i) := by
  unfold List.Nodup
  rw [List.pairwise_iff_getElem]
  constructor
  · intro h i hi k hk
    have := h k i (by rw [uidsI_len]; omega) (by rw [uidsI_len]; exact hi) hk
    simpa [uidsI] using this
  · intro h k i hk hi hki
    rw [uidsI_len] at hi
    have := h i hi k hki
    simpa [uidsI] using this
theorem objsB_iff (cs : UD) (n : Nat) (rev next : Int) : objsB cs n rev next = true ↔ fitI cs n ∧ ∀ i, i < n → objB (rowU cs 17 i) rev next = true ∧ endsB (rowU cs 17 i) = false := by
  by_cases h : ∀ i, i < n → okO cs rev next i
  · rw [objsB_end h]
    constructor
    · intro h60
      exact ⟨⟨by simpa using h60, fun i hi => (h i hi).2.1, (uidsI_nodup cs n).2 (fun i hi => (h i hi).2.2)⟩, fun i hi => (h i hi).1⟩
    · rintro ⟨⟨h60, _⟩, _⟩
      exact decide_eq_true h60
  · constructor
    · intro hb
      exfalso
      apply h
      intro i hi
      apply Classical.byContradiction
      intro hc
      rw [objsB_bad hi hc] at hb
      cases hb
    · rintro ⟨⟨h60, h1, h2⟩, h3⟩
      exact (h (fun i hi => ⟨h3 i hi, h1 i hi, (uidsI_nodup cs n).1 h2 i hi⟩)).elim
theorem below_growI {B : Nat} {a W : World} (os : Array Obj) (h : Below B a W) (hB : B ≤ W.heap.size) : Below B a (Go.Sort.grow W os) :=
  ⟨h.os, h.tape, h.output, Nat.le_trans h.size (by rw [Go.Sort.size_grow]; omega), fun k hk => (Go.Sort.heap_grow_old W os (by omega)).trans (h.block k hk)⟩
theorem uids_sorted (w0 w : World) (base g q cq : Nat) (zs : List Int) (hl : zs.length = q) (h60 : q ≤ 60) (hV : IR w base (.slice (some ⟨g, 0, none⟩) q cq) zs) (hB : Below base w0 w) :
    Calls Tryz.prog 186 #[.slice (some ⟨g, 0, none⟩) q cq] w fun e w' => e = .returned (.tuple #[]) ∧ Hid (Below base w0 w') ∧ Hid (Calls Tryz.prog 187 #[.slice (some ⟨g, 0, none⟩) q cq] w' fun e w'' => ∃ m, e = .returned (.slice (some ⟨g, 0, none⟩) m cq) ∧ Hid (m = q ↔ zs.Nodup) ∧ Hid (Below base w0 w'')) := by
  subst hl
  obtain ⟨g', cap, e, hbg, hgw, hnc, hcm, -, hH⟩ := Go.Lib.holds_of_ownsRow (enc := Value.int .i64) hV.1 (by simp)
  cases e
  refine (Tryz.slices_Sort_int g 0 cq zs w hH hgw (by omega)).mono ?_
  rintro e w' ⟨rfl, n, os, rfl⟩
  have hcs := compact_sorted zs
  have hs : (zs.mergeSort fun x y => decide (x ≤ y)).length = zs.length := List.length_mergeSort zs
  generalize (zs.mergeSort fun x y => decide (x ≤ y)) = ys at *
  have hz : (Go.Sort.putRow (Value.int .i64) (Go.Sort.ahead w n) g 0 ys.toArray).heap.size = w.heap.size := by simp [Go.Sort.putRow, Go.Sort.mapBlock, Go.Sort.ahead]
  have hb1 : Below base w0 (Go.Sort.grow (Go.Sort.putRow (Value.int .i64) (Go.Sort.ahead w n) g 0 ys.toArray) os) := below_growI os (Go.Lib.below_putRow hB hbg) (by rw [hz]; omega)
  have hH2 : Go.Sort.Holds (Value.int .i64) (Go.Sort.grow (Go.Sort.putRow (Value.int .i64) (Go.Sort.ahead w n) g 0 ys.toArray) os) g 0 ys.toArray := Go.Sort.holds_grow _ _ _ _ _ _ (by rw [hz]; exact hgw) (Go.Sort.holds_putRow _ _ _ _ zs.toArray _ (fun j hj => hH j hj) (by simp [hs]))
  refine ⟨rfl, hb1, ?_⟩
  have hc := Tryz.slices_Compact_int g 0 cq ys _ hH2 (by omega) (by omega)
  rw [hs] at hc
  refine hc.mono ?_
  rintro e w'' ⟨rfl, k, rfl⟩
  exact ⟨_, rfl, hcs, Go.Lib.below_putRow hb1 hbg⟩
set_option maxRecDepth 40000 in
set_option maxHeartbeats 6400000 in
theorem objsFit_any {lo hi : Nat} (n : Nat) (cs : UD) (c : Value) (f : Bool) (w : World) (ht : tyS 17 n cs 8) (hx : uS w lo hi 17 n cs c) (hf : f = true ↔ fitI cs n) :
    Calls Tryz.prog 158 #[c] w fun e w' => e = .returned (.bool f) ∧ Below w.heap.size w w' := by
  obtain ⟨a, cap, rfl, hx2⟩ := hx
  have Hx : Hid (uS w lo hi 17 n cs (.slice a n cap)) := ⟨a, cap, rfl, hx2⟩
  have Ht := uhide ht
  have HFI := uhide hf
  have no : ¬ fitI cs n → f = false := fun h => by
    cases hff : f with
    | false => rfl
    | true => exact (h (hf.1 hff)).elim
  by_cases h60 : n ≤ 60
  rotate_left
  · have hff := no (fun h => h60 h.1)
    subst hff
    have c60 : decide ((60 : Int) < (n : Int)) = true := by simp; omega
    have hmx := ht.2.2.1
    unfold maxLen at hmx
    clear hx2 ht hf no h60 Hx HFI Ht
    go_enter Tryz.func158, Tryz.ntmps158
    go_wp2
    go_ret
    exact ⟨rfl, Below.refl _ _⟩
  have c60 : decide ((60 : Int) < (n : Int)) = false := by simp; omega
  have NO := uhide no
  obtain ⟨i0, hi0, hz0, hz1, hz2⟩ := infoD Tryz.infoDInt
  have I0 : Hid (IR (w.alloc (.cells #[] 3)) w.heap.size (.slice (some ⟨w.heap.size, 0, none⟩) 0 0) (uidsI cs 0)) := IR.lit w w.heap.size (Nat.le_refl _)
  have B0 : Hid (Below w.heap.size w (w.alloc (.cells #[] 3))) := (Below.refl _ _).alloc (Nat.le_refl _) _
  clear hx2 ht hf no
  go_enter Tryz.func158, Tryz.ntmps158
  go_wp2
  go_loopw [3, 12] (fun v i wr => ∃ (q cq g : Nat), q ≤ n ∧ i = .int .i64 q ∧ v = .slice (some ⟨g, 0, none⟩) q cq ∧ Hid (∀ j, j < q → okF cs j) ∧ Hid (IR wr w.heap.size (.slice (some ⟨g, 0, none⟩) q cq) (uidsI cs q)) ∧ Hid (Below w.heap.size w wr)) (fun _ i _ => n - (intOf i).toNat)
  case atStart => exact ⟨0, 0, w.heap.size, Nat.zero_le _, rfl, rfl, fun j hj => by omega, I0, B0⟩
  case round =>
    clear I0 B0
    obtain ⟨q, cq, g, hq, rfl, rfl, Ho, V, HB⟩ := hrel
    by_cases hlt : q < n
    · obtain ⟨b, off, rfl, hbb, hm⟩ := (Hx.out.below HB.out).cells (by omega)
      have htr := Ht.out.row hlt
      obtain ⟨xs, hh, hcl⟩ := (hm.row 17 q).hand
      have hxl : xs.length = 17 := by rw [hh.len, tyL.len htr]; rfl
      have ONE := uhide (one_cell htr hh)
      have HI1 : Hid ((Tryz.prog.info? 38).map (·.size) = some xs.length) := by show _ = _; rw [hxl]; exact Tryz.zObj_impl_Obj
      have RX : Hid (wr.rangeAt b (off + q * 17) xs) := hcl
      have TH : Hid ((wr.alloc (.cells ([.int .i64 0, .string ⟨#[]⟩, .int .i64 0, .int .i64 0, .int .i64 0, .bool false, .slice none 0 0, .int .i64 0, .string ⟨#[]⟩, .int .i64 0, .slice none 0 0, .slice none 0 0, .int .i64 0, .string ⟨#[]⟩, .int .i64 0, .slice none 0 0, .slice none 0 0] : List Value).toArray 38)).there wr.heap.size 0 xs.length) := by rw [hxl]; exact (objU.new2 _ _ rfl).there 0 17 (by decide)
      have HOX : Hid (∀ wy, wy = (wr.alloc (.cells ([.int .i64 0, .string ⟨#[]⟩, .int .i64 0, .int .i64 0, .int .i64 0, .bool false, .slice none 0 0, .int .i64 0, .string ⟨#[]⟩, .int .i64 0, .slice none 0 0, .slice none 0 0, .int .i64 0, .string ⟨#[]⟩, .int .i64 0, .slice none 0 0, .slice none 0 0] : List Value).toArray 38)).setCells wr.heap.size 0 xs → objU wy wr.heap.size 38 xs ∧ Below wr.heap.size wr wy) := fun wy e => by
        subst e
        have h1 := objU.setCells (t := 38) xs ([.int .i64 0, .string ⟨#[]⟩, .int .i64 0, .int .i64 0, .int .i64 0, .bool false, .slice none 0 0, .int .i64 0, .string ⟨#[]⟩, .int .i64 0, .slice none 0 0, .slice none 0 0, .int .i64 0, .string ⟨#[]⟩, .int .i64 0, .slice none 0 0, .slice none 0 0]) [] [] _ (objU.new2 (w := wr) _ _ rfl) (by rw [hxl]; rfl)
        refine ⟨by simpa using h1, ?_⟩
        exact ((Below.refl _ _).alloc (Nat.le_refl _) _).trans ((OutS.setCells _ _ _).below (fun t ht => by simp at ht; omega) (by simp))
      have hq0 : (0 : Int) ≤ (q : Int) := Int.natCast_nonneg _
      have hqn : (q : Int) < (n : Int) := by omega
      have hu2 := (obj_cells htr hh).2.2.1
      obtain ⟨U, hU⟩ : ∃ z, z = uidU (rowU cs 17 q) := ⟨_, rfl⟩
      rw [← hU] at hu2
      have X2 := uhide hu2
      have HU := uhide hU
      have HBAD : Hid ((0 < q ∧ lessO (kindU (rowU cs 17 (q - 1))) (kindU (rowU cs 17 q)) (nameU (rowU cs 17 (q - 1))) (nameU (rowU cs 17 q)) = false) → f = false) := fun h => NO.out (fun g => by
        have := g.2.1 q hlt h.1
        rw [this] at h; cases h.2)
      have HOKK : Hid ((0 < q → lessO (kindU (rowU cs 17 (q - 1))) (kindU (rowU cs 17 q)) (nameU (rowU cs 17 (q - 1))) (nameU (rowU cs 17 q)) = true) → ∀ j, j < q + 1 → okF cs j) := fun h3 j hj => by
        by_cases e : j = q
        · subst e
          exact h3
        · exact Ho.out j (by omega)
      have HM := uhide hm
      have HTR := uhide htr
      have HHH := uhide hh
      clear hxl hcl hu2 hU hm htr hh Ho
      go_wp2_with (first
        | ((with_reducible refine wpList_load_row2 ?qqg148 38 ?qqx148 ?qqo148 b (off + q * 17) ?qqh148 xs Tryz.rObj_impl_Obj HI1.out RX.out ?_); (case qqg148 => rfl); (case qqo148 => rfl); (case qqh148 => first | (simp; done) | (simp [Act.eval]; done) | (simp only [Act.put]; simp; done) | (simp only [Act.put]; simp [Act.eval]; done)))
        | ((with_reducible refine wpList_store_cells ?qqg149 38 ?qqx149 ?qqy149 ?qqo149 ?qqd149 wr.heap.size 0 ?qqh149 (.agg xs.toArray) ?qqv149 xs cells_agg ONE.out HI1.out TH.out ?_); (case qqg149 => rfl); (case qqo149 => rfl); (case qqd149 => rfl); (case qqh149 => first | (simp; done) | (simp [Act.eval]; done) | (simp only [Act.put]; simp; done) | (simp only [Act.put]; simp [Act.eval]; done)); (case qqv149 => first | (simp; done) | (simp [Act.eval]; done) | (simp only [Act.put]; simp; done) | (simp only [Act.put]; simp [Act.eval]; done)); intro wy ey; have HY := uhide (HOX.out wy ey); clear ey)
        )
      obtain ⟨hox, hbel⟩ := HY.out
      have C0 : Hid (wy.rangeAt wr.heap.size 0 xs) := hox.range 0 xs (fun i v h => by simpa using h)
      have C2 : Hid (wy.cell? ⟨wr.heap.size, 2, none⟩ = some (.int .i64 U)) := hox.cell 2 _ X2.out
      have HBY : Hid (Below w.heap.size w wy) := HB.out.trans (hbel.mono HB.out.size)
      have VY : Hid (IR wy w.heap.size (.slice (some ⟨g, 0, none⟩) q cq) (uidsI cs q)) := V.out.below hbel
      have HLT : Hid (wr.heap.size < wy.heap.size) := hox.lt
      have HBEL := uhide hbel
      clear hox hbel HY HOX TH ONE X2 V HB
      rcases Nat.eq_zero_or_pos q with hz | hz
      · subst hz
        have Hn := uhide (HOKK.out (fun h => by omega))
        clear HBAD HOKK
        refine wp_region_held_drew (S := fun w' => w'.rangeAt wr.heap.size 0 xs ∧ True) (by kernel_rfl) ⟨range_below C0.out (Below.drew (Below.refl _ _)), trivial⟩ (fun hHeld => ?_)
        refine wpAnyH_take (i := 0) (oi := ⟨some 17, .move (.tmp 4), _, _, _, _⟩) (v := .int .i64 0) rfl (by kernel_rfl) (by kernel_rfl) (by kernel_rfl) (fun _ _ _ h => h) (Or.inl ⟨by rfl, by intro w hSw; go_simp⟩) hHeld ?_
        simp only [Act.put, List.setIfInBounds_toArray, List.set_cons_zero, List.set_cons_succ]
        refine wpAnyH_take (i := 1) (oi := ⟨some 18, .binOp .gtr _ (.tmp 17) (.const (.int .i64 0)) _, _, _, _, _⟩) (v := .bool false) rfl (by kernel_rfl) (by kernel_rfl) (by kernel_rfl) (fun _ _ _ h => h) (Or.inl ⟨by rfl, by intro w hSw; go_simp⟩) hHeld ?_
        simp only [Act.put, List.setIfInBounds_toArray, List.set_cons_zero, List.set_cons_succ]
        refine wpAnyH_take (i := 2) (oi := ⟨some 19, .move (.tmp 18), _, _, _, _⟩) (v := .bool false) rfl (by kernel_rfl) (by kernel_rfl) (by kernel_rfl) (fun _ _ _ h => h) (Or.inl ⟨by rfl, by intro w hSw; go_simp⟩) hHeld ?_
        simp only [Act.put, List.setIfInBounds_toArray, List.set_cons_zero, List.set_cons_succ]
        refine wpAnyH_take (i := 3) (oi := ⟨some 20, .move (.tmp 0), _, _, _, _⟩) (v := undef) rfl (by kernel_rfl) (by kernel_rfl) (by kernel_rfl) (fun _ _ _ h => h) (Or.inr ⟨by rfl, rfl⟩) hHeld ?_
        simp only [Act.put, List.setIfInBounds_toArray, List.set_cons_zero, List.set_cons_succ]
        refine wpAnyH_take (i := 4) (oi := ⟨some 21, .move (.tmp 4), _, _, _, _⟩) (v := undef) rfl (by kernel_rfl) (by kernel_rfl) (by kernel_rfl) (fun _ _ _ h => h) (Or.inr ⟨by rfl, rfl⟩) hHeld ?_
        simp only [Act.put, List.setIfInBounds_toArray, List.set_cons_zero, List.set_cons_succ]
        refine wpAnyH_take (i := 5) (oi := ⟨some 22, .binOp .sub _ (.tmp 21) (.const (.int .i64 1)) _, _, _, _, _⟩) (v := undef) rfl (by kernel_rfl) (by kernel_rfl) (by kernel_rfl) (fun _ _ _ h => h) (Or.inr ⟨by rfl, rfl⟩) hHeld ?_
        simp only [Act.put, List.setIfInBounds_toArray, List.set_cons_zero, List.set_cons_succ]
        refine wpAnyH_take (i := 6) (oi := ⟨some 23, .indexAddr _ (.tmp 20) (.tmp 22), _, _, _, _⟩) (v := undef) rfl (by kernel_rfl) (by kernel_rfl) (by kernel_rfl) (fun _ _ _ h => h) (Or.inr ⟨by rfl, rfl⟩) hHeld ?_
        simp only [Act.put, List.setIfInBounds_toArray, List.set_cons_zero, List.set_cons_succ]
        refine wpAnyH_take (i := 7) (oi := ⟨some 24, .load _ (.tmp 23), _, _, _, _⟩) (v := undef) rfl (by kernel_rfl) (by kernel_rfl) (by kernel_rfl) (fun _ _ _ h => h) (Or.inr ⟨by rfl, rfl⟩) hHeld ?_
        simp only [Act.put, List.setIfInBounds_toArray, List.set_cons_zero, List.set_cons_succ]
        refine wpAnyH_take (i := 8) (oi := ⟨some 25, .load _ (.tmp 5), _, _, _, _⟩) (v := undef) rfl (by kernel_rfl) (by kernel_rfl) (by kernel_rfl) (fun _ _ _ h => h) (Or.inr ⟨by rfl, rfl⟩) hHeld ?_
        simp only [Act.put, List.setIfInBounds_toArray, List.set_cons_zero, List.set_cons_succ]
        refine wpAnyH_take (i := 9) (oi := ⟨some 26, _, _, _, _, _⟩) (v := undef) rfl (by kernel_rfl) (by kernel_rfl) (by kernel_rfl) (fun _ _ _ h => h) (Or.inr ⟨by rfl, rfl⟩) hHeld ?_
        simp only [Act.put, List.setIfInBounds_toArray, List.set_cons_zero, List.set_cons_succ]
        refine wpAnyH_take (i := 10) (oi := ⟨some 27, .binOp .geq _ (.tmp 26) (.const (.int .i64 0)) _, _, _, _, _⟩) (v := undef) rfl (by kernel_rfl) (by kernel_rfl) (by kernel_rfl) (fun _ _ _ h => h) (Or.inr ⟨by rfl, rfl⟩) hHeld ?_
        simp only [Act.put, List.setIfInBounds_toArray, List.set_cons_zero, List.set_cons_succ]
        refine wpAnyH_take (i := 11) (oi := ⟨some 28, .pick (.tmp 19) (.tmp 27) (.const (.bool false)), _, _, _, _⟩) (v := .bool false) rfl (by kernel_rfl) (by kernel_rfl) (by kernel_rfl) (fun _ _ _ h => h) (Or.inl ⟨by rfl, by intro w hSw; go_simp⟩) hHeld ?_
        simp only [Act.put, List.setIfInBounds_toArray, List.set_cons_zero, List.set_cons_succ]
        refine wpAnyH_done (by kernel_rfl) ?_ _
        clear hHeld
        have hb3 : Hid (Below wy.heap.size wy wy.drew) := Below.drew (Below.refl _ _)
        generalize wy.drew = w3 at *
        have cu : w3.cell? ⟨wr.heap.size, 2, none⟩ = some (.int .i64 U) := (hb3.out.cell (p := ⟨wr.heap.size, 2, none⟩) HLT.out).trans C2.out
        have V2 : Hid (IR w3 w.heap.size (.slice (some ⟨g, 0, none⟩) (0) cq) (uidsI cs (0))) := VY.out.below hb3.out
        have HB2 : Hid (Below w.heap.size w w3) := HBY.out.trans (hb3.out.mono HBY.out.size)
        have hws : w.heap.size ≤ w3.heap.size := HB2.out.size
        have VN : Hid (∀ wx, Below w3.heap.size w3 wx → wx.ownsRow w.heap.size 3 1 (.slice (some ⟨g, 0, none⟩) (0) cq) (0) ((uidsI cs (0)).map (Value.int .i64))) := fun wx hb => by
          have := (V2.out.below hb).1
          rw [uidsI_len] at this; exact this
        go_wp2_with (at_builtin; refine wpList_append_own_at _ rfl _ _ 167 rfl w.heap.size 3 i0 _ 1 8 Tryz.underlying167 hi0 hz0 hz1 hz2 rfl (by decide) _ _ _ rfl (VN.out _ (by repeat (first | with_reducible exact Below.refl _ _ | with_reducible refine Below.drew ?_ | with_reducible refine below_drewN ?_ _ | with_reducible refine Below.alloc ?_ (by simp) _))) ⟨w3.heap.size, 0, none⟩ 1 1 [.int .i64 U] rfl rfl (cell_newI (t := 3) (by repeat (first | with_reducible exact Below.refl _ _ | with_reducible refine Below.drew ?_ | with_reducible refine below_drewN ?_ _))) (fun x hx => by simp at hx; rcases hx with rfl; rfl) (by unfold maxLen; omega) (by omega) (by simp; omega) ?_; intro v3 w5 hown hgrow hnil hat)
        have I3 : Hid (IR w5 w.heap.size v3 (uidsI cs (0 + 1))) := by
          have h0 : IR (w3.alloc (.cells #[.int .i64 U] 3)) w.heap.size (.slice (some ⟨g, 0, none⟩) (0) cq) (uidsI cs (0)) := V2.out.below (by repeat (first | with_reducible exact Below.refl _ _ | with_reducible refine Below.drew ?_ | with_reducible refine Below.alloc ?_ (by simp) _))
          rw [uidsI_succ, ← HU.out]
          exact h0.snoc (by rw [uidsI_len]; exact hown) hat
        have HB3 : Hid (Below w.heap.size w w5) := Below.grown (HB2.out.alloc hws _) hgrow (by simp; omega) (fun j hj => V2.out.row j hj)
        obtain ⟨g3, cap3, e3, -, -⟩ := I3.out.shp
        rw [uidsI_len] at e3
        subst e3
        clear hown hgrow hnil hat VN V2 HB2
        go_roundw
        case rel => exact ⟨0 + 1, cap3, g3, by omega, by go_num, rfl, Hn, I3, HB3⟩
        case measure => (simp [intOf] <;> omega)
      · obtain ⟨p, rfl⟩ : ∃ p, q = p + 1 := ⟨q - 1, by omega⟩
        obtain ⟨ys, hhy, hcy⟩ := (HM.out.row 17 p).hand
        have hty := Ht.out.row (show p < n by omega)
        have C1 : Hid (wy.rangeAt b (off + p * 17) ys) := range_below hcy (HBEL.out.mono (Nat.le_refl _))
        have HI2 : Hid ((Tryz.prog.info? 38).map (·.size) = some ys.length) := by show _ = _; rw [hhy.len, tyL.len hty]; exact Tryz.zObj_impl_Obj
        obtain ⟨ORD, hORD⟩ : ∃ z, z = ordO (kindU (rowU cs 17 p)) (kindU (rowU cs 17 (p + 1))) (nameU (rowU cs 17 p)) (nameU (rowU cs 17 (p + 1))) := ⟨_, rfl⟩
        have HC3 : Hid (∀ wx, Below wy.heap.size wy wx → Calls Tryz.prog 146 #[.agg ys.toArray, .agg xs.toArray] wx fun e w' => e = .returned (.int .i64 ORD) ∧ Hid (Below wy.heap.size wy w')) := fun wx hb => (hORD ▸ iorder_any (lo := lo) (hi := hi) (lo' := lo) (hi' := hi) _ _ ys xs wx hty HTR.out (hhy.below (HBEL.out.trans (hb.mono HBEL.out.size))) (HHH.out.below (HBEL.out.trans (hb.mono HBEL.out.size)))).mono fun e w' h => ⟨h.1, hb.trans (h.2.mono hb.size)⟩
        have hpp0 : (0 : Int) ≤ (p : Int) := Int.natCast_nonneg _
        have hppn : (p : Int) < (n : Int) := by omega
        have hpp1 : (0 : Int) < (p : Int) + 1 := by omega
        have hwp : IntKind.i64.wrap (p : Int) = (p : Int) := by rw [IntKind.wrap_i64]; omega
        have hle := ordO_less (kindU (rowU cs 17 p)) (kindU (rowU cs 17 (p + 1))) (nameU (rowU cs 17 p)) (nameU (rowU cs 17 (p + 1)))
        rw [← hORD] at hle
        cases hls : lessO (kindU (rowU cs 17 p)) (kindU (rowU cs 17 (p + 1))) (nameU (rowU cs 17 p)) (nameU (rowU cs 17 (p + 1))) with
        | false =>
          have Hn := uhide (HBAD.out ⟨by omega, by rw [Nat.add_sub_cancel]; exact hls⟩)
          rw [hls] at hle
          have hd : decide (0 ≤ ORD) = true := by simpa using hle
          clear HBAD HOKK hhy hcy hty hORD hle hls HM HTR HHH
          refine wp_region_held_drew (S := fun w' => w'.rangeAt wr.heap.size 0 xs ∧ w'.rangeAt b (off + p * 17) ys) (by kernel_rfl) ⟨range_below C0.out (Below.drew (Below.refl _ _)), range_below C1.out (Below.drew (Below.refl _ _))⟩ (fun hHeld => ?_)
          refine wpAnyH_take (i := 0) (oi := ⟨some 17, .move (.tmp 4), _, _, _, _⟩) (v := .int .i64 ((p + 1 : Nat) : Int)) rfl (by kernel_rfl) (by kernel_rfl) (by kernel_rfl) (fun _ _ _ h => h) (Or.inl ⟨by rfl, by intro w hSw; go_simp⟩) hHeld ?_
          simp only [Act.put, List.setIfInBounds_toArray, List.set_cons_zero, List.set_cons_succ]
          refine wpAnyH_take (i := 1) (oi := ⟨some 18, .binOp .gtr _ (.tmp 17) (.const (.int .i64 0)) _, _, _, _, _⟩) (v := .bool true) rfl (by kernel_rfl) (by kernel_rfl) (by kernel_rfl) (fun _ _ _ h => h) (Or.inl ⟨by rfl, by intro w hSw; go_simp⟩) hHeld ?_
          simp only [Act.put, List.setIfInBounds_toArray, List.set_cons_zero, List.set_cons_succ]
          refine wpAnyH_take (i := 2) (oi := ⟨some 19, .move (.tmp 18), _, _, _, _⟩) (v := .bool true) rfl (by kernel_rfl) (by kernel_rfl) (by kernel_rfl) (fun _ _ _ h => h) (Or.inl ⟨by rfl, by intro w hSw; go_simp⟩) hHeld ?_
          simp only [Act.put, List.setIfInBounds_toArray, List.set_cons_zero, List.set_cons_succ]
          refine wpAnyH_take (i := 3) (oi := ⟨some 20, .move (.tmp 0), _, _, _, _⟩) (v := .slice (some ⟨b, off, none⟩) n cap) rfl (by kernel_rfl) (by kernel_rfl) (by kernel_rfl) (fun _ _ _ h => h) (Or.inl ⟨by rfl, by intro w hSw; go_simp⟩) hHeld ?_
          simp only [Act.put, List.setIfInBounds_toArray, List.set_cons_zero, List.set_cons_succ]
          refine wpAnyH_take (i := 4) (oi := ⟨some 21, .move (.tmp 4), _, _, _, _⟩) (v := .int .i64 ((p + 1 : Nat) : Int)) rfl (by kernel_rfl) (by kernel_rfl) (by kernel_rfl) (fun _ _ _ h => h) (Or.inl ⟨by rfl, by intro w hSw; go_simp⟩) hHeld ?_
          simp only [Act.put, List.setIfInBounds_toArray, List.set_cons_zero, List.set_cons_succ]
          refine wpAnyH_take (i := 5) (oi := ⟨some 22, .binOp .sub _ (.tmp 21) (.const (.int .i64 1)) _, _, _, _, _⟩) (v := .int .i64 (p : Int)) rfl (by kernel_rfl) (by kernel_rfl) (by kernel_rfl) (fun _ _ _ h => h) (Or.inl ⟨by rfl, by intro w hSw; go_simp⟩) hHeld ?_
          simp only [Act.put, List.setIfInBounds_toArray, List.set_cons_zero, List.set_cons_succ]
          refine wpAnyH_take (i := 6) (oi := ⟨some 23, .indexAddr _ (.tmp 20) (.tmp 22), _, _, _, _⟩) (v := .pointer (some ⟨b, off + p * 17, none⟩)) rfl (by kernel_rfl) (by kernel_rfl) (by kernel_rfl) (fun _ _ _ h => h) (Or.inl ⟨by rfl, by intro w hSw; go_simp⟩) hHeld ?_
          simp only [Act.put, List.setIfInBounds_toArray, List.set_cons_zero, List.set_cons_succ]
          refine wpAnyH_take (i := 7) (oi := ⟨some 24, .load _ (.tmp 23), _, _, _, _⟩) (v := .agg ys.toArray) rfl (by kernel_rfl) (by kernel_rfl) (by kernel_rfl) (fun _ _ _ h => h) (yieldsIf_load_row (by rfl) 38 _ rfl b (off + p * 17) rfl ys (fun w hS => hS.2) Tryz.rObj_impl_Obj HI2.out) hHeld ?_
          simp only [Act.put, List.setIfInBounds_toArray, List.set_cons_zero, List.set_cons_succ]
          refine wpAnyH_take (i := 8) (oi := ⟨some 25, .load _ (.tmp 5), _, _, _, _⟩) (v := .agg xs.toArray) rfl (by kernel_rfl) (by kernel_rfl) (by kernel_rfl) (fun _ _ _ h => h) (yieldsIf_load_row (by rfl) 38 _ rfl (wr.heap.size) 0 rfl xs (fun w hS => hS.1) Tryz.rObj_impl_Obj HI1.out) hHeld ?_
          simp only [Act.put, List.setIfInBounds_toArray, List.set_cons_zero, List.set_cons_succ]
          refine wpAnyH_ready (rs := [9]) (by kernel_rfl) (by simp) (AllReadyH.cons (o := ⟨some 26, .call { callee := .value (.func 146), args := #[.tmp 24, .tmp 25], argTypes := #[38, 38] }, _, _, _, _⟩) rfl (fun K hK => ?_) AllReadyH.nil)
          refine step_call_w (by rfl) 146 #[.tmp 24, .tmp 25] #[38, 38] rfl (callFunc_enter Tryz.func146 (by kernel_rfl) (by kernel_rfl)) #[.agg ys.toArray, .agg xs.toArray] (by simp [Act.eval]) (HC3.out _ (Below.drew (Below.refl _ _))) ?_
          rintro e w4 ⟨rfl, hb4⟩
          refine ⟨.int .i64 ORD, rfl, hK.out _ _ ⟨range_below C0.out hb4.out, range_below C1.out hb4.out⟩ (fun hHeld => ?_)⟩
          clear hK K
          simp only [Act.put, List.setIfInBounds_toArray, List.set_cons_zero, List.set_cons_succ]
          refine wpAnyH_take (i := 10) (oi := ⟨some 27, .binOp .geq _ (.tmp 26) (.const (.int .i64 0)) _, _, _, _, _⟩) (v := .bool true) rfl (by kernel_rfl) (by kernel_rfl) (by kernel_rfl) (fun _ _ _ h => h) (Or.inl ⟨by rfl, by intro w hSw; go_simp⟩) hHeld ?_
          simp only [Act.put, List.setIfInBounds_toArray, List.set_cons_zero, List.set_cons_succ]
          refine wpAnyH_take (i := 11) (oi := ⟨some 28, .pick (.tmp 19) (.tmp 27) (.const (.bool false)), _, _, _, _⟩) (v := .bool true) rfl (by kernel_rfl) (by kernel_rfl) (by kernel_rfl) (fun _ _ _ h => h) (Or.inl ⟨by rfl, by intro w hSw; go_simp⟩) hHeld ?_
          simp only [Act.put, List.setIfInBounds_toArray, List.set_cons_zero, List.set_cons_succ]
          refine wpAnyH_done (by kernel_rfl) ?_ _
          clear hHeld
          go_wp2
          go_ret
          exact ⟨ret_bool Hn.out.symm, HBY.out.trans (hb4.out.mono HBY.out.size)⟩
        | true =>
          have Hn := uhide (HOKK.out (fun _ => by rw [Nat.add_sub_cancel]; exact hls))
          rw [hls] at hle
          have hd : decide (0 ≤ ORD) = false := by simpa using hle
          clear HBAD HOKK hhy hcy hty hORD hle hls HM HTR HHH
          refine wp_region_held_drew (S := fun w' => w'.rangeAt wr.heap.size 0 xs ∧ w'.rangeAt b (off + p * 17) ys) (by kernel_rfl) ⟨range_below C0.out (Below.drew (Below.refl _ _)), range_below C1.out (Below.drew (Below.refl _ _))⟩ (fun hHeld => ?_)
          refine wpAnyH_take (i := 0) (oi := ⟨some 17, .move (.tmp 4), _, _, _, _⟩) (v := .int .i64 ((p + 1 : Nat) : Int)) rfl (by kernel_rfl) (by kernel_rfl) (by kernel_rfl) (fun _ _ _ h => h) (Or.inl ⟨by rfl, by intro w hSw; go_simp⟩) hHeld ?_
          simp only [Act.put, List.setIfInBounds_toArray, List.set_cons_zero, List.set_cons_succ]
          refine wpAnyH_take (i := 1) (oi := ⟨some 18, .binOp .gtr _ (.tmp 17) (.const (.int .i64 0)) _, _, _, _, _⟩) (v := .bool true) rfl (by kernel_rfl) (by kernel_rfl) (by kernel_rfl) (fun _ _ _ h => h) (Or.inl ⟨by rfl, by intro w hSw; go_simp⟩) hHeld ?_
          simp only [Act.put, List.setIfInBounds_toArray, List.set_cons_zero, List.set_cons_succ]
          refine wpAnyH_take (i := 2) (oi := ⟨some 19, .move (.tmp 18), _, _, _, _⟩) (v := .bool true) rfl (by kernel_rfl) (by kernel_rfl) (by kernel_rfl) (fun _ _ _ h => h) (Or.inl ⟨by rfl, by intro w hSw; go_simp⟩) hHeld ?_
          simp only [Act.put, List.setIfInBounds_toArray, List.set_cons_zero, List.set_cons_succ]
          refine wpAnyH_take (i := 3) (oi := ⟨some 20, .move (.tmp 0), _, _, _, _⟩) (v := .slice (some ⟨b, off, none⟩) n cap) rfl (by kernel_rfl) (by kernel_rfl) (by kernel_rfl) (fun _ _ _ h => h) (Or.inl ⟨by rfl, by intro w hSw; go_simp⟩) hHeld ?_
          simp only [Act.put, List.setIfInBounds_toArray, List.set_cons_zero, List.set_cons_succ]
          refine wpAnyH_take (i := 4) (oi := ⟨some 21, .move (.tmp 4), _, _, _, _⟩) (v := .int .i64 ((p + 1 : Nat) : Int)) rfl (by kernel_rfl) (by kernel_rfl) (by kernel_rfl) (fun _ _ _ h => h) (Or.inl ⟨by rfl, by intro w hSw; go_simp⟩) hHeld ?_
          simp only [Act.put, List.setIfInBounds_toArray, List.set_cons_zero, List.set_cons_succ]
          refine wpAnyH_take (i := 5) (oi := ⟨some 22, .binOp .sub _ (.tmp 21) (.const (.int .i64 1)) _, _, _, _, _⟩) (v := .int .i64 (p : Int)) rfl (by kernel_rfl) (by kernel_rfl) (by kernel_rfl) (fun _ _ _ h => h) (Or.inl ⟨by rfl, by intro w hSw; go_simp⟩) hHeld ?_
          simp only [Act.put, List.setIfInBounds_toArray, List.set_cons_zero, List.set_cons_succ]
          refine wpAnyH_take (i := 6) (oi := ⟨some 23, .indexAddr _ (.tmp 20) (.tmp 22), _, _, _, _⟩) (v := .pointer (some ⟨b, off + p * 17, none⟩)) rfl (by kernel_rfl) (by kernel_rfl) (by kernel_rfl) (fun _ _ _ h => h) (Or.inl ⟨by rfl, by intro w hSw; go_simp⟩) hHeld ?_
          simp only [Act.put, List.setIfInBounds_toArray, List.set_cons_zero, List.set_cons_succ]
          refine wpAnyH_take (i := 7) (oi := ⟨some 24, .load _ (.tmp 23), _, _, _, _⟩) (v := .agg ys.toArray) rfl (by kernel_rfl) (by kernel_rfl) (by kernel_rfl) (fun _ _ _ h => h) (yieldsIf_load_row (by rfl) 38 _ rfl b (off + p * 17) rfl ys (fun w hS => hS.2) Tryz.rObj_impl_Obj HI2.out) hHeld ?_
          simp only [Act.put, List.setIfInBounds_toArray, List.set_cons_zero, List.set_cons_succ]
          refine wpAnyH_take (i := 8) (oi := ⟨some 25, .load _ (.tmp 5), _, _, _, _⟩) (v := .agg xs.toArray) rfl (by kernel_rfl) (by kernel_rfl) (by kernel_rfl) (fun _ _ _ h => h) (yieldsIf_load_row (by rfl) 38 _ rfl (wr.heap.size) 0 rfl xs (fun w hS => hS.1) Tryz.rObj_impl_Obj HI1.out) hHeld ?_
          simp only [Act.put, List.setIfInBounds_toArray, List.set_cons_zero, List.set_cons_succ]
          refine wpAnyH_ready (rs := [9]) (by kernel_rfl) (by simp) (AllReadyH.cons (o := ⟨some 26, .call { callee := .value (.func 146), args := #[.tmp 24, .tmp 25], argTypes := #[38, 38] }, _, _, _, _⟩) rfl (fun K hK => ?_) AllReadyH.nil)
          refine step_call_w (by rfl) 146 #[.tmp 24, .tmp 25] #[38, 38] rfl (callFunc_enter Tryz.func146 (by kernel_rfl) (by kernel_rfl)) #[.agg ys.toArray, .agg xs.toArray] (by simp [Act.eval]) (HC3.out _ (Below.drew (Below.refl _ _))) ?_
          rintro e w4 ⟨rfl, hb4⟩
          refine ⟨.int .i64 ORD, rfl, hK.out _ _ ⟨range_below C0.out hb4.out, range_below C1.out hb4.out⟩ (fun hHeld => ?_)⟩
          clear hK K
          simp only [Act.put, List.setIfInBounds_toArray, List.set_cons_zero, List.set_cons_succ]
          refine wpAnyH_take (i := 10) (oi := ⟨some 27, .binOp .geq _ (.tmp 26) (.const (.int .i64 0)) _, _, _, _, _⟩) (v := .bool false) rfl (by kernel_rfl) (by kernel_rfl) (by kernel_rfl) (fun _ _ _ h => h) (Or.inl ⟨by rfl, by intro w hSw; go_simp⟩) hHeld ?_
          simp only [Act.put, List.setIfInBounds_toArray, List.set_cons_zero, List.set_cons_succ]
          refine wpAnyH_take (i := 11) (oi := ⟨some 28, .pick (.tmp 19) (.tmp 27) (.const (.bool false)), _, _, _, _⟩) (v := .bool false) rfl (by kernel_rfl) (by kernel_rfl) (by kernel_rfl) (fun _ _ _ h => h) (Or.inl ⟨by rfl, by intro w hSw; go_simp⟩) hHeld ?_
          simp only [Act.put, List.setIfInBounds_toArray, List.set_cons_zero, List.set_cons_succ]
          refine wpAnyH_done (by kernel_rfl) ?_ _
          clear hHeld
          have cu : w4.cell? ⟨wr.heap.size, 2, none⟩ = some (.int .i64 U) := (hb4.out.cell (p := ⟨wr.heap.size, 2, none⟩) HLT.out).trans C2.out
          have V2 : Hid (IR w4 w.heap.size (.slice (some ⟨g, 0, none⟩) (p + 1) cq) (uidsI cs (p + 1))) := VY.out.below hb4.out
          have HB2 : Hid (Below w.heap.size w w4) := HBY.out.trans (hb4.out.mono HBY.out.size)
          have hws : w.heap.size ≤ w4.heap.size := HB2.out.size
          have VN : Hid (∀ wx, Below w4.heap.size w4 wx → wx.ownsRow w.heap.size 3 1 (.slice (some ⟨g, 0, none⟩) (p + 1) cq) (p + 1) ((uidsI cs (p + 1)).map (Value.int .i64))) := fun wx hb => by
            have := (V2.out.below hb).1
            rw [uidsI_len] at this; exact this
          go_wp2_with (at_builtin; refine wpList_append_own_at _ rfl _ _ 167 rfl w.heap.size 3 i0 _ 1 8 Tryz.underlying167 hi0 hz0 hz1 hz2 rfl (by decide) _ _ _ rfl (VN.out _ (by repeat (first | with_reducible exact Below.refl _ _ | with_reducible refine Below.drew ?_ | with_reducible refine below_drewN ?_ _ | with_reducible refine Below.alloc ?_ (by simp) _))) ⟨w4.heap.size, 0, none⟩ 1 1 [.int .i64 U] rfl rfl (cell_newI (t := 3) (by repeat (first | with_reducible exact Below.refl _ _ | with_reducible refine Below.drew ?_ | with_reducible refine below_drewN ?_ _))) (fun x hx => by simp at hx; rcases hx with rfl; rfl) (by unfold maxLen; omega) (by omega) (by simp; omega) ?_; intro v3 w5 hown hgrow hnil hat)
          have I3 : Hid (IR w5 w.heap.size v3 (uidsI cs (p + 1 + 1))) := by
            have h0 : IR (w4.alloc (.cells #[.int .i64 U] 3)) w.heap.size (.slice (some ⟨g, 0, none⟩) (p + 1) cq) (uidsI cs (p + 1)) := V2.out.below (by repeat (first | with_reducible exact Below.refl _ _ | with_reducible refine Below.drew ?_ | with_reducible refine Below.alloc ?_ (by simp) _))
            rw [uidsI_succ, ← HU.out]
            exact h0.snoc (by rw [uidsI_len]; exact hown) hat
          have HB3 : Hid (Below w.heap.size w w5) := Below.grown (HB2.out.alloc hws _) hgrow (by simp; omega) (fun j hj => V2.out.row j hj)
          obtain ⟨g3, cap3, e3, -, -⟩ := I3.out.shp
          rw [uidsI_len] at e3
          subst e3
          clear hown hgrow hnil hat VN V2 HB2
          go_roundw
          case rel => exact ⟨p + 1 + 1, cap3, g3, by omega, by go_num, rfl, Hn, I3, HB3⟩
          case measure => (simp [intOf] <;> omega)
    · have e : q = n := by omega
      subst e
      have HV : Hid (f = decide ((uidsI cs q).Nodup)) := by
        show f = _
        cases hff : f with
        | true => exact (decide_eq_true ((HFI.out.1 hff).2.2)).symm
        | false => exact (decide_eq_false (fun hn => by rw [HFI.out.2 ⟨h60, Ho.out, hn⟩] at hff; cases hff)).symm
      have HS := uhide (uids_sorted w wr w.heap.size g q cq (uidsI cs q) (uidsI_len cs q) h60 V.out HB.out)
      clear Ho V HB Hx Ht
      go_wp2_with (go_at_call 186; refine HS.out.mono ?_; rintro e w7 ⟨rfl, hb7, hc7⟩)
      go_wp2_with (go_at_call 187; refine hc7.out.mono ?_; rintro e w8 ⟨m, rfl, hm8, hb8⟩)
      go_ret
      have he : decide ((uidsI cs q).Nodup) = decide (m = q) := by rw [decide_eq_decide]; exact hm8.out.symm
      exact ⟨ret_bool (by rw [HV.out, he]; by_cases e : m = q <;> simp [e] <;> omega), hb8.out⟩
end Go.Proofs.YtamlgjmboljcdaaGreat
