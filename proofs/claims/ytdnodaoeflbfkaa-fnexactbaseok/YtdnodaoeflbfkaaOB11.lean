/- Objects: the program's look at a list of them. -/
import Derived.Test.YtdnodaoeflbfkaaOB7
import Derived.Test.YtdnodaoeflbfkaaOB10
import Derived.Test.YtdnodaoeflbfkaaIRw
import Derived.Test.YtdnodaoeflbfkaaShelf
import Derived.WideShapes
import Derived.Lib.OwnBridge
namespace Go.Proofs.Ytdnodaoeflbfkaa
open Go.RowKit Go.BigFrame
set_option linter.unusedVariables false
set_option linter.unusedSimpArgs false
theorem IR.shp {w : World} {base : Nat} {v : Value} {l : List Int} (h : IR w base v l) : ∃ g cap, v = .slice (some ⟨g, 0, none⟩) l.length cap ∧ base ≤ g ∧ g < w.heap.size := by
  obtain ⟨h1, g, h2, h3, h4⟩ := h
  rcases h1.2 with ⟨e, _⟩ | ⟨g', cap, cur, e, hb, hh, _⟩
  · rw [e] at h2; cases h2
  · subst e
    have : g' = g := by simpa [Value.ownBlock] using h2
    subst this
    exact ⟨g', cap, rfl, h3, h4⟩
theorem cell_newI {w wx : World} {x : Value} {t : TypeId} (hb : Below (w.heap.size + 1) (w.alloc (.cells #[x] t)) wx) : ∀ j u, [x][j]? = some u → wx.cell? ((⟨w.heap.size, 0, none⟩ : Addr).add j) = some u := fun j u h =>
  (hb.cell (p := (⟨w.heap.size, 0, none⟩ : Addr).add j) (by rw [Go.WideShapes.add_plain]; show w.heap.size < _; omega)).trans (cell_one_new w x t j u h)
def uidsI (cs : UD) (q : Nat) : List Int := (List.range q).map fun j => uidU (rowU cs 17 j)
theorem uidsI_len (cs : UD) (q : Nat) : (uidsI cs q).length = q := by unfold uidsI; simp
theorem uidsI_succ (cs : UD) (q : Nat) : uidsI cs (q + 1) = uidsI cs q ++ [uidU (rowU cs 17 q)] := by unfold uidsI; rw [List.range_succ, List.map_append]; rfl
def okF (cs : UD) (i : Nat) : Prop := 0 < i → lessO (kindU (rowU cs 17 (i - 1))) (kindU (rowU cs 17 i)) (nameU (rowU cs 17 (i - 1))) (nameU (rowU cs 17 i)) = true
def fitI (cs : UD) (n : Nat) : Prop := n ≤ 60 ∧ (∀ i, i < n → okF cs i) ∧ (uidsI cs n).Nodup
theorem uidsI_nodup (cs : UD) (n : Nat) : (uidsI cs n).Nodup ↔ ∀ i, i < n → ∀ k, k < i → uidU (rowU cs 17 k) ≠ uidU (rowU cs 17 i) := by
  unfold List.Nodup
  rw [List.pairwise_iff_getElem]
  constructor
  · intro h i hi k hk
    have := h k i (by rw [uidsI_len]; omega) (by rw [uidsI_len]; exact hi) hk
    simpa [uidsI] using this
  · intro h k i hk hi hki
    rw [uidsI_len] at hi
    have := h i hi k hki
    simpa [uidsI] using this
theorem objsB_iff (cs : UD) (n : Nat) (rev next : Int) : objsB cs n rev next = true ↔ fitI cs n ∧ ∀ i, i < n → objB (rowU cs 17 i) rev next = true ∧ endsB (rowU cs 17 i) = false := by
  by_cases h : ∀ i, i < n → okO cs rev next i
  · rw [objsB_end h]
    constructor
    · intro h60
      exact ⟨⟨by simpa using h60, fun i hi => (h i hi).2.1, (uidsI_nodup cs n).2 (fun i hi => (h i hi).2.2)⟩, fun i hi => (h i hi).1⟩
    · rintro ⟨⟨h60, _⟩, _⟩
      exact decide_eq_true h60
  · constructor
    · intro hb
      exfalso
      apply h
      intro i hi
      apply Classical.byContradiction
      intro hc
      rw [objsB_bad hi hc] at hb
      cases hb
    · rintro ⟨⟨h60, h1, h2⟩, h3⟩
      exact (h (fun i hi => ⟨h3 i hi, h1 i hi, (uidsI_nodup cs n).1 h2 i hi⟩)).elim
theorem below_growI {B : Nat} {a W : World} (os : Array Obj) (h : Below B a W) (hB : B ≤ W.heap.size) : Below B a (Go.Sort.grow W os) :=
  ⟨h.os, h.tape, h.output, Nat.le_trans h.size (by rw [Go.Sort.size_grow]; omega), fun k hk => (Go.Sort.heap_grow_old W os (by omega)).trans (h.block k hk)⟩
theorem uids_sorted (w0 w : World) (base g q cq : Nat) (zs : List Int) (hl : zs.length = q) (h60 : q ≤ 60) (hV : IR w base (.slice (some ⟨g, 0, none⟩) q cq) zs) (hB : Below base w0 w) :
    Calls Try.prog 211 #[.slice (some ⟨g, 0, none⟩) q cq] w fun e w' => e = .returned (.tuple #[]) ∧ Hid (Below base w0 w') ∧ Hid (Calls Try.prog 212 #[.slice (some ⟨g, 0, none⟩) q cq] w' fun e w'' => ∃ m, e = .returned (.slice (some ⟨g, 0, none⟩) m cq) ∧ Hid (m = q ↔ zs.Nodup) ∧ Hid (Below base w0 w'')) := by
  subst hl
  obtain ⟨g', cap, e, hbg, hgw, hnc, hcm, -, hH⟩ := Go.Lib.holds_of_ownsRow (enc := Value.int .i64) hV.1 (by simp)
  cases e
  refine (Try.slices_Sort_int g 0 cq zs w hH hgw (by omega)).mono ?_
  rintro e w' ⟨rfl, n, os, rfl⟩
  have hcs := compact_sorted zs
  have hs : (zs.mergeSort fun x y => decide (x ≤ y)).length = zs.length := List.length_mergeSort zs
  generalize (zs.mergeSort fun x y => decide (x ≤ y)) = ys at *
  have hz : (Go.Sort.putRow (Value.int .i64) (Go.Sort.ahead w n) g 0 ys.toArray).heap.size = w.heap.size := by simp [Go.Sort.putRow, Go.Sort.mapBlock, Go.Sort.ahead]
  have hb1 : Below base w0 (Go.Sort.grow (Go.Sort.putRow (Value.int .i64) (Go.Sort.ahead w n) g 0 ys.toArray) os) := below_growI os (Go.Lib.below_putRow hB hbg) (by rw [hz]; omega)
  have hH2 : Go.Sort.Holds (Value.int .i64) (Go.Sort.grow (Go.Sort.putRow (Value.int .i64) (Go.Sort.ahead w n) g 0 ys.toArray) os) g 0 ys.toArray := Go.Sort.holds_grow _ _ _ _ _ _ (by rw [hz]; exact hgw) (Go.Sort.holds_putRow _ _ _ _ zs.toArray _ (fun j hj => hH j hj) (by simp [hs]))
  refine ⟨rfl, hb1, ?_⟩
  have hc := Try.slices_Compact_int g 0 cq ys _ hH2 (by omega) (by omega)
  rw [hs] at hc
  refine hc.mono ?_
  rintro e w'' ⟨rfl, k, rfl⟩
  exact ⟨_, rfl, hcs, Go.Lib.below_putRow hb1 hbg⟩
/-- a call of a function value, as a step of a region that draws -/
theorem step_call_v {P : Program} {w : World} {ops : Array Oper} {o : Oper} {a : Act} {K : Act → World → Prop} {Q : Exit → Act → World → Prop} {E : Prop} (hw : Region.wanted o (yielded ops a.tmps) = true) (cal : Operand) (f : FuncId) (args : Array Operand) (ts : Array TypeId)
    (ho : o.op = .call { callee := .value cal, args := args, argTypes := ts }) (hcal : a.eval cal = .func (.func f) #[] #[]) (hcf : ∀ xs w, (callFunc f xs).run P w = .ok (.enter f xs) w) (xs : Array Value) (hx : args.map a.eval = xs) {R : Ending → World → Prop} (hc : Calls P f xs w R) (h : ∀ e w', R e w' → ∃ v, e = .returned v ∧ K (a.put o.dst v) w') :
    if Region.wanted o (yielded ops a.tmps) = true then Oper.wp P o a w K Q else E := by
  subst hx
  rw [if_pos hw]
  unfold Oper.wp execOp
  simp only [ho, resolve, invoke, Sem.run_bind]
  have e : (Deferred.ofValue (a.eval cal) (Array.map a.eval args)).run P w = .ok { target := .fn (.func f) #[], args := args.map a.eval } w := by rw [hcal]; simp [Deferred.ofValue, go_sem]
  rw [e, Result.andThen_ok]
  simp only [Array.append_empty]
  rw [hcf]
  rw [Oper.upon_enter]
  refine hc.mono ?_
  intro e w' hr
  obtain ⟨v, rfl, hk⟩ := h e w' hr
  exact hk
set_option maxRecDepth 40000 in
set_option maxHeartbeats 6400000 in
theorem ascObj_any {lo hi : Nat} (n : Nat) (cs : UD) (c : Value) (gb : Bool) (w : World) (ht : tyS 17 n cs 8) (hx : uS w lo hi 17 n cs c) (h60 : n ≤ 60) (hg : gb = true ↔ ∀ i, i < n → okF cs i) :
    Calls Try.prog 209 #[c, .func (.func 210) #[] #[]] w fun e w' => e = .returned (.bool gb) ∧ Below w.heap.size w w' := by
  obtain ⟨a, cap, rfl, hx2⟩ := hx
  have Hx : Hid (uS w lo hi 17 n cs (.slice a n cap)) := ⟨a, cap, rfl, hx2⟩
  have Ht := uhide ht
  have HG := uhide hg
  clear hx2 ht hg
  go_enter Try.func209, Try.ntmps209
  go_wp2
  go_loopw [5] (fun i wr => ∃ (q : Nat), 0 < q ∧ q ≤ n + 1 ∧ i = .int .i64 (q : Int) ∧ Hid (∀ j, j < q → j < n → okF cs j) ∧ Hid (Below w.heap.size w wr)) (fun i _ => n + 1 - (intOf i).toNat)
  case atStart => exact ⟨1, by omega, by omega, rfl, (fun j hj _ h0 => by omega), Below.refl _ _⟩
  case round =>
    obtain ⟨q, hq0, hq, rfl, Ho, HB⟩ := hrel
    by_cases hlt : q < n
    · obtain ⟨b, off, rfl, hbb, hm⟩ := (Hx.out.below HB.out).cells (by omega)
      obtain ⟨p, hp⟩ : ∃ p, q = p + 1 := ⟨q - 1, by omega⟩
      have htr := Ht.out.row hlt
      have hty := Ht.out.row (show p < n by omega)
      obtain ⟨xs, hh, hcl⟩ := (hm.row 17 q).hand
      obtain ⟨ys, hhy, hcy⟩ := (hm.row 17 p).hand
      have C0 : Hid (wr.rangeAt b (off + q * 17) xs) := hcl
      have C1 : Hid (wr.rangeAt b (off + p * 17) ys) := hcy
      have HI1 : Hid ((Try.prog.info? 136).map (·.size) = some xs.length) := by show _ = _; rw [hh.len, tyL.len htr]; exact Try.zObj_impl_Obj
      have HI2 : Hid ((Try.prog.info? 136).map (·.size) = some ys.length) := by show _ = _; rw [hhy.len, tyL.len hty]; exact Try.zObj_impl_Obj
      have HBAD : Hid (lessO (kindU (rowU cs 17 p)) (kindU (rowU cs 17 q)) (nameU (rowU cs 17 p)) (nameU (rowU cs 17 q)) = false → gb = false) := fun h => by
        cases hgb : gb with
        | false => rfl
        | true =>
          have := HG.out.1 hgb q hlt hq0
          rw [hp, Nat.add_sub_cancel, ← hp, h] at this; cases this
      have HOKK : Hid (lessO (kindU (rowU cs 17 p)) (kindU (rowU cs 17 q)) (nameU (rowU cs 17 p)) (nameU (rowU cs 17 q)) = true → ∀ j, j < q + 1 → j < n → okF cs j) := fun h j hj hjn => by
        by_cases e : j = q
        · subst e
          intro _
          rw [hp, Nat.add_sub_cancel, ← hp]; exact h
        · exact Ho.out j (by omega) hjn
      obtain ⟨ORD, hORD⟩ : ∃ z, z = ordO (kindU (rowU cs 17 p)) (kindU (rowU cs 17 q)) (nameU (rowU cs 17 p)) (nameU (rowU cs 17 q)) := ⟨_, rfl⟩
      have HC3 : Hid (∀ wx, Below wr.heap.size wr wx → Calls Try.prog 210 #[.agg ys.toArray, .agg xs.toArray] wx fun e w' => e = .returned (.int .i64 ORD) ∧ Hid (Below wr.heap.size wr w')) := fun wx hb => (hORD ▸ iorder_any (lo := lo) (hi := hi) (lo' := lo) (hi' := hi) _ _ ys xs wx hty htr (hhy.below hb) (hh.below hb)).mono fun e w' h => ⟨h.1, hb.trans (h.2.mono hb.size)⟩
      have hle := ordO_less (kindU (rowU cs 17 p)) (kindU (rowU cs 17 q)) (nameU (rowU cs 17 p)) (nameU (rowU cs 17 q))
      rw [← hORD] at hle
      have hwq : IntKind.i64.wrap ((q : Int) - 1) = (p : Int) := by rw [IntKind.wrap_i64]; omega
      have hpp0 : (0 : Int) ≤ (p : Int) := Int.natCast_nonneg _
      have hppn : (p : Int) < (n : Int) := by omega
      have hqq0 : (0 : Int) ≤ (q : Int) := Int.natCast_nonneg _
      have hqqn : (q : Int) < (n : Int) := by omega
      have HP := uhide hp
      clear hp hORD hh hhy hcl hcy htr hty hm Ho
      go_wp2
      cases hls : lessO (kindU (rowU cs 17 p)) (kindU (rowU cs 17 q)) (nameU (rowU cs 17 p)) (nameU (rowU cs 17 q)) with
      | false =>
        have Hn := uhide (HBAD.out hls)
        rw [hls] at hle
        have hd : decide (0 ≤ ORD) = true := by simpa using hle
        clear HBAD HOKK hle hls
        refine wp_region_held_drew (S := fun w' => w'.rangeAt b (off + p * 17) ys ∧ w'.rangeAt b (off + q * 17) xs) (by kernel_rfl) ⟨range_below C1.out (Below.drew (Below.refl _ _)), range_below C0.out (Below.drew (Below.refl _ _))⟩ (fun hHeld => ?_)
        refine wpAnyH_take (i := 0) (oi := ⟨some 12, .move (.tmp 1), _, _, _, _⟩) (v := .func (.func 210) #[] #[]) rfl (by kernel_rfl) (by kernel_rfl) (by kernel_rfl) (fun _ _ _ h => h) (Or.inl ⟨by rfl, by intro w hSw; go_simp⟩) hHeld ?_
        simp only [Act.put, List.setIfInBounds_toArray, List.set_cons_zero, List.set_cons_succ]
        refine wpAnyH_take (i := 1) (oi := ⟨some 13, .move (.tmp 0), _, _, _, _⟩) (v := .slice (some ⟨b, off, none⟩) n cap) rfl (by kernel_rfl) (by kernel_rfl) (by kernel_rfl) (fun _ _ _ h => h) (Or.inl ⟨by rfl, by intro w hSw; go_simp⟩) hHeld ?_
        simp only [Act.put, List.setIfInBounds_toArray, List.set_cons_zero, List.set_cons_succ]
        refine wpAnyH_take (i := 2) (oi := ⟨some 14, .move (.tmp 5), _, _, _, _⟩) (v := .int .i64 (q : Int)) rfl (by kernel_rfl) (by kernel_rfl) (by kernel_rfl) (fun _ _ _ h => h) (Or.inl ⟨by rfl, by intro w hSw; go_simp⟩) hHeld ?_
        simp only [Act.put, List.setIfInBounds_toArray, List.set_cons_zero, List.set_cons_succ]
        refine wpAnyH_take (i := 3) (oi := ⟨some 15, .binOp .sub _ (.tmp 14) (.const (.int .i64 1)) _, _, _, _, _⟩) (v := .int .i64 (p : Int)) rfl (by kernel_rfl) (by kernel_rfl) (by kernel_rfl) (fun _ _ _ h => h) (Or.inl ⟨by rfl, by intro w hSw; go_simp⟩) hHeld ?_
        simp only [Act.put, List.setIfInBounds_toArray, List.set_cons_zero, List.set_cons_succ]
        refine wpAnyH_take (i := 4) (oi := ⟨some 16, .indexAddr _ (.tmp 13) (.tmp 15), _, _, _, _⟩) (v := .pointer (some ⟨b, off + p * 17, none⟩)) rfl (by kernel_rfl) (by kernel_rfl) (by kernel_rfl) (fun _ _ _ h => h) (Or.inl ⟨by rfl, by intro w hSw; go_simp⟩) hHeld ?_
        simp only [Act.put, List.setIfInBounds_toArray, List.set_cons_zero, List.set_cons_succ]
        refine wpAnyH_take (i := 5) (oi := ⟨some 17, .load _ (.tmp 16), _, _, _, _⟩) (v := .agg ys.toArray) rfl (by kernel_rfl) (by kernel_rfl) (by kernel_rfl) (fun _ _ _ h => h) (yieldsIf_load_row (by rfl) 136 _ rfl b (off + p * 17) rfl ys (fun w hS => hS.1) Try.rObj_impl_Obj HI2.out) hHeld ?_
        simp only [Act.put, List.setIfInBounds_toArray, List.set_cons_zero, List.set_cons_succ]
        refine wpAnyH_take (i := 6) (oi := ⟨some 18, .move (.tmp 0), _, _, _, _⟩) (v := .slice (some ⟨b, off, none⟩) n cap) rfl (by kernel_rfl) (by kernel_rfl) (by kernel_rfl) (fun _ _ _ h => h) (Or.inl ⟨by rfl, by intro w hSw; go_simp⟩) hHeld ?_
        simp only [Act.put, List.setIfInBounds_toArray, List.set_cons_zero, List.set_cons_succ]
        refine wpAnyH_take (i := 7) (oi := ⟨some 19, .move (.tmp 5), _, _, _, _⟩) (v := .int .i64 (q : Int)) rfl (by kernel_rfl) (by kernel_rfl) (by kernel_rfl) (fun _ _ _ h => h) (Or.inl ⟨by rfl, by intro w hSw; go_simp⟩) hHeld ?_
        simp only [Act.put, List.setIfInBounds_toArray, List.set_cons_zero, List.set_cons_succ]
        refine wpAnyH_take (i := 8) (oi := ⟨some 20, .indexAddr _ (.tmp 18) (.tmp 19), _, _, _, _⟩) (v := .pointer (some ⟨b, off + q * 17, none⟩)) rfl (by kernel_rfl) (by kernel_rfl) (by kernel_rfl) (fun _ _ _ h => h) (Or.inl ⟨by rfl, by intro w hSw; go_simp⟩) hHeld ?_
        simp only [Act.put, List.setIfInBounds_toArray, List.set_cons_zero, List.set_cons_succ]
        refine wpAnyH_take (i := 9) (oi := ⟨some 21, .load _ (.tmp 20), _, _, _, _⟩) (v := .agg xs.toArray) rfl (by kernel_rfl) (by kernel_rfl) (by kernel_rfl) (fun _ _ _ h => h) (yieldsIf_load_row (by rfl) 136 _ rfl b (off + q * 17) rfl xs (fun w hS => hS.2) Try.rObj_impl_Obj HI1.out) hHeld ?_
        simp only [Act.put, List.setIfInBounds_toArray, List.set_cons_zero, List.set_cons_succ]
        refine wpAnyH_ready (rs := [10]) (by kernel_rfl) (by simp) (AllReadyH.cons (o := ⟨some 22, .call { callee := .value (.tmp 12), args := #[.tmp 17, .tmp 21], argTypes := #[136, 136] }, _, _, _, _⟩) rfl (fun K hK => ?_) AllReadyH.nil)
        refine step_call_v (by rfl) (.tmp 12) 210 #[.tmp 17, .tmp 21] #[136, 136] rfl (by simp [Act.eval]) (callFunc_enter Try.func210 (by kernel_rfl) (by kernel_rfl)) #[.agg ys.toArray, .agg xs.toArray] (by simp [Act.eval]) (HC3.out _ (Below.drew (Below.refl _ _))) ?_
        rintro e w4 ⟨rfl, hb4⟩
        refine ⟨.int .i64 ORD, rfl, hK.out _ _ ⟨range_below C1.out hb4.out, range_below C0.out hb4.out⟩ (fun hHeld => ?_)⟩
        clear hK K
        simp only [Act.put, List.setIfInBounds_toArray, List.set_cons_zero, List.set_cons_succ]
        refine wpAnyH_take (i := 11) (oi := ⟨some 23, .binOp .geq _ (.tmp 22) (.const (.int .i64 0)) _, _, _, _, _⟩) (v := .bool true) rfl (by kernel_rfl) (by kernel_rfl) (by kernel_rfl) (fun _ _ _ h => h) (Or.inl ⟨by rfl, by intro w hSw; go_simp⟩) hHeld ?_
        simp only [Act.put, List.setIfInBounds_toArray, List.set_cons_zero, List.set_cons_succ]
        refine wpAnyH_done (by kernel_rfl) ?_ _
        clear hHeld
        go_wp2
        go_ret
        exact ⟨ret_bool Hn.out.symm, HB.out.trans (hb4.out.mono HB.out.size)⟩
      | true =>
        have Hn := uhide (HOKK.out hls)
        rw [hls] at hle
        have hd : decide (0 ≤ ORD) = false := by simpa using hle
        clear HBAD HOKK hle hls
        refine wp_region_held_drew (S := fun w' => w'.rangeAt b (off + p * 17) ys ∧ w'.rangeAt b (off + q * 17) xs) (by kernel_rfl) ⟨range_below C1.out (Below.drew (Below.refl _ _)), range_below C0.out (Below.drew (Below.refl _ _))⟩ (fun hHeld => ?_)
        refine wpAnyH_take (i := 0) (oi := ⟨some 12, .move (.tmp 1), _, _, _, _⟩) (v := .func (.func 210) #[] #[]) rfl (by kernel_rfl) (by kernel_rfl) (by kernel_rfl) (fun _ _ _ h => h) (Or.inl ⟨by rfl, by intro w hSw; go_simp⟩) hHeld ?_
        simp only [Act.put, List.setIfInBounds_toArray, List.set_cons_zero, List.set_cons_succ]
        refine wpAnyH_take (i := 1) (oi := ⟨some 13, .move (.tmp 0), _, _, _, _⟩) (v := .slice (some ⟨b, off, none⟩) n cap) rfl (by kernel_rfl) (by kernel_rfl) (by kernel_rfl) (fun _ _ _ h => h) (Or.inl ⟨by rfl, by intro w hSw; go_simp⟩) hHeld ?_
        simp only [Act.put, List.setIfInBounds_toArray, List.set_cons_zero, List.set_cons_succ]
        refine wpAnyH_take (i := 2) (oi := ⟨some 14, .move (.tmp 5), _, _, _, _⟩) (v := .int .i64 (q : Int)) rfl (by kernel_rfl) (by kernel_rfl) (by kernel_rfl) (fun _ _ _ h => h) (Or.inl ⟨by rfl, by intro w hSw; go_simp⟩) hHeld ?_
        simp only [Act.put, List.setIfInBounds_toArray, List.set_cons_zero, List.set_cons_succ]
        refine wpAnyH_take (i := 3) (oi := ⟨some 15, .binOp .sub _ (.tmp 14) (.const (.int .i64 1)) _, _, _, _, _⟩) (v := .int .i64 (p : Int)) rfl (by kernel_rfl) (by kernel_rfl) (by kernel_rfl) (fun _ _ _ h => h) (Or.inl ⟨by rfl, by intro w hSw; go_simp⟩) hHeld ?_
        simp only [Act.put, List.setIfInBounds_toArray, List.set_cons_zero, List.set_cons_succ]
        refine wpAnyH_take (i := 4) (oi := ⟨some 16, .indexAddr _ (.tmp 13) (.tmp 15), _, _, _, _⟩) (v := .pointer (some ⟨b, off + p * 17, none⟩)) rfl (by kernel_rfl) (by kernel_rfl) (by kernel_rfl) (fun _ _ _ h => h) (Or.inl ⟨by rfl, by intro w hSw; go_simp⟩) hHeld ?_
        simp only [Act.put, List.setIfInBounds_toArray, List.set_cons_zero, List.set_cons_succ]
        refine wpAnyH_take (i := 5) (oi := ⟨some 17, .load _ (.tmp 16), _, _, _, _⟩) (v := .agg ys.toArray) rfl (by kernel_rfl) (by kernel_rfl) (by kernel_rfl) (fun _ _ _ h => h) (yieldsIf_load_row (by rfl) 136 _ rfl b (off + p * 17) rfl ys (fun w hS => hS.1) Try.rObj_impl_Obj HI2.out) hHeld ?_
        simp only [Act.put, List.setIfInBounds_toArray, List.set_cons_zero, List.set_cons_succ]
        refine wpAnyH_take (i := 6) (oi := ⟨some 18, .move (.tmp 0), _, _, _, _⟩) (v := .slice (some ⟨b, off, none⟩) n cap) rfl (by kernel_rfl) (by kernel_rfl) (by kernel_rfl) (fun _ _ _ h => h) (Or.inl ⟨by rfl, by intro w hSw; go_simp⟩) hHeld ?_
        simp only [Act.put, List.setIfInBounds_toArray, List.set_cons_zero, List.set_cons_succ]
        refine wpAnyH_take (i := 7) (oi := ⟨some 19, .move (.tmp 5), _, _, _, _⟩) (v := .int .i64 (q : Int)) rfl (by kernel_rfl) (by kernel_rfl) (by kernel_rfl) (fun _ _ _ h => h) (Or.inl ⟨by rfl, by intro w hSw; go_simp⟩) hHeld ?_
        simp only [Act.put, List.setIfInBounds_toArray, List.set_cons_zero, List.set_cons_succ]
        refine wpAnyH_take (i := 8) (oi := ⟨some 20, .indexAddr _ (.tmp 18) (.tmp 19), _, _, _, _⟩) (v := .pointer (some ⟨b, off + q * 17, none⟩)) rfl (by kernel_rfl) (by kernel_rfl) (by kernel_rfl) (fun _ _ _ h => h) (Or.inl ⟨by rfl, by intro w hSw; go_simp⟩) hHeld ?_
        simp only [Act.put, List.setIfInBounds_toArray, List.set_cons_zero, List.set_cons_succ]
        refine wpAnyH_take (i := 9) (oi := ⟨some 21, .load _ (.tmp 20), _, _, _, _⟩) (v := .agg xs.toArray) rfl (by kernel_rfl) (by kernel_rfl) (by kernel_rfl) (fun _ _ _ h => h) (yieldsIf_load_row (by rfl) 136 _ rfl b (off + q * 17) rfl xs (fun w hS => hS.2) Try.rObj_impl_Obj HI1.out) hHeld ?_
        simp only [Act.put, List.setIfInBounds_toArray, List.set_cons_zero, List.set_cons_succ]
        refine wpAnyH_ready (rs := [10]) (by kernel_rfl) (by simp) (AllReadyH.cons (o := ⟨some 22, .call { callee := .value (.tmp 12), args := #[.tmp 17, .tmp 21], argTypes := #[136, 136] }, _, _, _, _⟩) rfl (fun K hK => ?_) AllReadyH.nil)
        refine step_call_v (by rfl) (.tmp 12) 210 #[.tmp 17, .tmp 21] #[136, 136] rfl (by simp [Act.eval]) (callFunc_enter Try.func210 (by kernel_rfl) (by kernel_rfl)) #[.agg ys.toArray, .agg xs.toArray] (by simp [Act.eval]) (HC3.out _ (Below.drew (Below.refl _ _))) ?_
        rintro e w4 ⟨rfl, hb4⟩
        refine ⟨.int .i64 ORD, rfl, hK.out _ _ ⟨range_below C1.out hb4.out, range_below C0.out hb4.out⟩ (fun hHeld => ?_)⟩
        clear hK K
        simp only [Act.put, List.setIfInBounds_toArray, List.set_cons_zero, List.set_cons_succ]
        refine wpAnyH_take (i := 11) (oi := ⟨some 23, .binOp .geq _ (.tmp 22) (.const (.int .i64 0)) _, _, _, _, _⟩) (v := .bool false) rfl (by kernel_rfl) (by kernel_rfl) (by kernel_rfl) (fun _ _ _ h => h) (Or.inl ⟨by rfl, by intro w hSw; go_simp⟩) hHeld ?_
        simp only [Act.put, List.setIfInBounds_toArray, List.set_cons_zero, List.set_cons_succ]
        refine wpAnyH_done (by kernel_rfl) ?_ _
        clear hHeld
        go_wp2
        go_roundw
        case rel => exact ⟨q + 1, by omega, by omega, by go_num, Hn, HB.out.trans (hb4.out.mono HB.out.size)⟩
        case measure => (simp [intOf] <;> omega)
    · have Hn : Hid (gb = true) := HG.out.2 (fun i hi => Ho.out i (by omega) hi)
      have hlt' : ¬ (q : Int) < (n : Int) := by omega
      clear Ho Hx Ht HG
      go_wp2
      go_ret
      exact ⟨ret_bool Hn.out.symm, HB.out⟩
set_option maxRecDepth 40000 in
set_option maxHeartbeats 6400000 in
theorem objsFit_any {lo hi : Nat} (n : Nat) (cs : UD) (c : Value) (f : Bool) (w : World) (ht : tyS 17 n cs 8) (hx : uS w lo hi 17 n cs c) (hf : f = true ↔ fitI cs n) :
    Calls Try.prog 166 #[c] w fun e w' => e = .returned (.bool f) ∧ Below w.heap.size w w' := by
  obtain ⟨a, cap, rfl, hx2⟩ := hx
  have Hx : Hid (uS w lo hi 17 n cs (.slice a n cap)) := ⟨a, cap, rfl, hx2⟩
  have Ht := uhide ht
  have HFI := uhide hf
  have no : ¬ fitI cs n → f = false := fun h => by
    cases hff : f with
    | false => rfl
    | true => exact (h (hf.1 hff)).elim
  by_cases h60 : n ≤ 60
  rotate_left
  · have hff := no (fun h => h60 h.1)
    subst hff
    have c60 : decide ((60 : Int) < (n : Int)) = true := by simp; omega
    have hmx := ht.2.2.1
    unfold maxLen at hmx
    clear hx2 ht hf no h60 Hx HFI Ht
    go_enter Try.func166, Try.ntmps166
    go_wp2
    go_ret
    exact ⟨rfl, Below.refl _ _⟩
  have c60 : decide ((60 : Int) < (n : Int)) = false := by simp; omega
  have NO := uhide no
  obtain ⟨i0, hi0, hz0, hz1, hz2⟩ := infoD Try.infoDInt
  obtain ⟨gb, hgb⟩ : ∃ gb : Bool, gb = true ↔ ∀ i, i < n → okF cs i := by
    by_cases h : ∀ i, i < n → okF cs i
    · exact ⟨true, ⟨fun _ => h, fun _ => rfl⟩⟩
    · exact ⟨false, ⟨fun g => (by cases g), fun g => (h g).elim⟩⟩
  have HAS : Hid (Calls Try.prog 209 #[.slice a n cap, .func (.func 210) #[] #[]] w fun e w' => e = .returned (.bool gb) ∧ Below w.heap.size w w') := ascObj_any n cs (.slice a n cap) gb w ht Hx.out h60 hgb
  have HGB := uhide hgb
  clear hx2 ht hf no hgb
  go_enter Try.func166, Try.ntmps166
  go_wp2_with fail
  refine HAS.out.mono ?_
  rintro e w1 ⟨rfl, hb1⟩
  have HB1 := uhide hb1
  clear hb1 HAS
  cases gb with
  | false =>
    have Hn : Hid (f = false) := NO.out (fun g => by have := HGB.out.2 g.2.1; cases this)
    clear HGB NO HFI Hx Ht
    go_wp2
    go_ret
    exact ⟨ret_bool Hn.out.symm, HB1.out⟩
  | true =>
  have HO : Hid (∀ i, i < n → okF cs i) := HGB.out.1 rfl
  have I0 : Hid (IR (w1.alloc (.cells #[] 3)) w.heap.size (.slice (some ⟨w1.heap.size, 0, none⟩) 0 0) (uidsI cs 0)) := IR.lit w1 w.heap.size HB1.out.size
  have B0 : Hid (Below w.heap.size w (w1.alloc (.cells #[] 3))) := HB1.out.alloc HB1.out.size _
  clear HGB HB1 NO
  go_wp2
  go_loopw [3, 17] (fun v i wr => ∃ (q cq g : Nat), q ≤ n ∧ i = .int .i64 q ∧ v = .slice (some ⟨g, 0, none⟩) q cq ∧ Hid (IR wr w.heap.size (.slice (some ⟨g, 0, none⟩) q cq) (uidsI cs q)) ∧ Hid (Below w.heap.size w wr)) (fun _ i _ => n - (intOf i).toNat)
  case atStart => exact ⟨0, 0, w1.heap.size, Nat.zero_le _, rfl, rfl, I0, B0⟩
  case round =>
    clear I0 B0
    obtain ⟨q, cq, g, hq, rfl, rfl, V, HB⟩ := hrel
    by_cases hlt : q < n
    · obtain ⟨b, off, rfl, hbb, hm⟩ := (Hx.out.below HB.out).cells (by omega)
      have htr := Ht.out.row hlt
      obtain ⟨xs, hh, hcl⟩ := (hm.row 17 q).hand
      have hxl : xs.length = 17 := by rw [hh.len, tyL.len htr]; rfl
      have ONE := uhide (one_cell htr hh)
      have HI1 : Hid ((Try.prog.info? 136).map (·.size) = some xs.length) := by show _ = _; rw [hxl]; exact Try.zObj_impl_Obj
      have RX : Hid (wr.rangeAt b (off + q * 17) xs) := hcl
      have TH : Hid ((wr.alloc (.cells ([.int .i64 0, .string ⟨#[]⟩, .int .i64 0, .int .i64 0, .int .i64 0, .bool false, .slice none 0 0, .int .i64 0, .string ⟨#[]⟩, .int .i64 0, .slice none 0 0, .slice none 0 0, .int .i64 0, .string ⟨#[]⟩, .int .i64 0, .slice none 0 0, .slice none 0 0] : List Value).toArray 136)).there wr.heap.size 0 xs.length) := by rw [hxl]; exact (objU.new2 _ _ rfl).there 0 17 (by decide)
      have HOX : Hid (∀ wy, wy = (wr.alloc (.cells ([.int .i64 0, .string ⟨#[]⟩, .int .i64 0, .int .i64 0, .int .i64 0, .bool false, .slice none 0 0, .int .i64 0, .string ⟨#[]⟩, .int .i64 0, .slice none 0 0, .slice none 0 0, .int .i64 0, .string ⟨#[]⟩, .int .i64 0, .slice none 0 0, .slice none 0 0] : List Value).toArray 136)).setCells wr.heap.size 0 xs → objU wy wr.heap.size 136 xs ∧ Below wr.heap.size wr wy) := fun wy e => by
        subst e
        have h1 := objU.setCells (t := 136) xs ([.int .i64 0, .string ⟨#[]⟩, .int .i64 0, .int .i64 0, .int .i64 0, .bool false, .slice none 0 0, .int .i64 0, .string ⟨#[]⟩, .int .i64 0, .slice none 0 0, .slice none 0 0, .int .i64 0, .string ⟨#[]⟩, .int .i64 0, .slice none 0 0, .slice none 0 0]) [] [] _ (objU.new2 (w := wr) _ _ rfl) (by rw [hxl]; rfl)
        refine ⟨by simpa using h1, ?_⟩
        exact ((Below.refl _ _).alloc (Nat.le_refl _) _).trans ((OutS.setCells _ _ _).below (fun t ht => by simp at ht; omega) (by simp))
      have hq0 : (0 : Int) ≤ (q : Int) := Int.natCast_nonneg _
      have hqn : (q : Int) < (n : Int) := by omega
      have hu2 := (obj_cells htr hh).2.2.1
      obtain ⟨U, hU⟩ : ∃ z, z = uidU (rowU cs 17 q) := ⟨_, rfl⟩
      rw [← hU] at hu2
      have X2 := uhide hu2
      have HU := uhide hU
      clear hxl hcl hu2 hU hm htr hh
      go_wp2_with (first
        | ((with_reducible refine wpList_load_row2 ?qqg148 136 ?qqx148 ?qqo148 b (off + q * 17) ?qqh148 xs Try.rObj_impl_Obj HI1.out RX.out ?_); (case qqg148 => rfl); (case qqo148 => rfl); (case qqh148 => simp [Act.eval, Act.put]))
        | ((with_reducible refine wpList_store_cells ?qqg149 136 ?qqx149 ?qqy149 ?qqo149 ?qqd149 wr.heap.size 0 ?qqh149 (.agg xs.toArray) ?qqv149 xs cells_agg ONE.out HI1.out TH.out ?_); (case qqg149 => rfl); (case qqo149 => rfl); (case qqd149 => rfl); (case qqh149 => simp [Act.eval, Act.put]); (case qqv149 => simp [Act.eval, Act.put]); intro wy ey; obtain ⟨hox, hbel⟩ := HOX.out wy ey; clear ey; have cu : wy.cell? ⟨wr.heap.size, 2, none⟩ = some (.int .i64 U) := hox.cell 2 _ X2.out; have HB2 : Hid (Below w.heap.size w wy) := HB.out.trans (hbel.mono HB.out.size); have V2 : Hid (IR wy w.heap.size (.slice (some ⟨g, 0, none⟩) q cq) (uidsI cs q)) := V.out.below hbel; have hws : w.heap.size ≤ wy.heap.size := HB2.out.size; have VN : Hid (∀ wx, Below wy.heap.size wy wx → wx.ownsRow w.heap.size 3 1 (.slice (some ⟨g, 0, none⟩) q cq) q ((uidsI cs q).map (Value.int .i64))) := fun wx hb => (by have := (V2.out.below hb).1; rw [uidsI_len] at this; exact this); clear hox hbel HOX TH ONE X2 V HB)
        | (at_builtin; refine wpList_append_own_at _ rfl _ _ 79 rfl w.heap.size 3 i0 _ 1 8 Try.underlying79 hi0 hz0 hz1 hz2 rfl (by decide) _ _ _ rfl (VN.out _ (by repeat (first | with_reducible exact Below.refl _ _ | with_reducible refine Below.drew ?_ | with_reducible refine below_drewN ?_ _ | with_reducible refine Below.alloc ?_ (by simp) _))) ⟨wy.heap.size, 0, none⟩ 1 1 [.int .i64 U] rfl rfl (cell_newI (t := 3) (by repeat (first | with_reducible exact Below.refl _ _ | with_reducible refine Below.drew ?_ | with_reducible refine below_drewN ?_ _))) (fun x hx => by simp at hx; rcases hx with rfl; rfl) (by unfold maxLen; omega) (by omega) (by simp; omega) ?_; intro v3 w5 hown hgrow hnil hat))
      have I3 : Hid (IR w5 w.heap.size v3 (uidsI cs (q + 1))) := by
        have h0 : IR (wy.alloc (.cells #[.int .i64 U] 3)) w.heap.size (.slice (some ⟨g, 0, none⟩) q cq) (uidsI cs q) := V2.out.below (by repeat (first | with_reducible exact Below.refl _ _ | with_reducible refine Below.drew ?_ | with_reducible refine Below.alloc ?_ (by simp) _))
        rw [uidsI_succ, ← HU.out]
        exact h0.snoc (by rw [uidsI_len]; exact hown) hat
      have HB3 : Hid (Below w.heap.size w w5) := Below.grown (HB2.out.alloc hws _) hgrow (by simp; omega) (fun j hj => V2.out.row j hj)
      obtain ⟨g3, cap3, e3, -, -⟩ := I3.out.shp
      rw [uidsI_len] at e3
      subst e3
      clear hown hgrow hnil hat VN V2 HB2
      go_roundw
      case rel => exact ⟨q + 1, cap3, g3, by omega, by go_num, rfl, I3, HB3⟩
      case measure => (simp [intOf] <;> omega)
    · have e : q = n := by omega
      subst e
      have HV : Hid (f = decide ((uidsI cs q).Nodup)) := by
        show f = _
        cases hff : f with
        | true => exact (decide_eq_true ((HFI.out.1 hff).2.2)).symm
        | false => exact (decide_eq_false (fun hn => by rw [HFI.out.2 ⟨h60, HO.out, hn⟩] at hff; cases hff)).symm
      have HS := uhide (uids_sorted w wr w.heap.size g q cq (uidsI cs q) (uidsI_len cs q) h60 V.out HB.out)
      clear HO V HB Hx Ht
      go_wp2_with (go_at_call 211; refine HS.out.mono ?_; rintro e w7 ⟨rfl, hb7, hc7⟩)
      go_wp2_with (go_at_call 212; refine hc7.out.mono ?_; rintro e w8 ⟨m, rfl, hm8, hb8⟩)
      go_ret
      have he : decide ((uidsI cs q).Nodup) = decide (m = q) := by rw [decide_eq_decide]; exact hm8.out.symm
      exact ⟨ret_bool (by rw [HV.out, he]; by_cases e : m = q <;> simp [e] <;> omega), hb8.out⟩
end Go.Proofs.Ytdnodaoeflbfkaa
