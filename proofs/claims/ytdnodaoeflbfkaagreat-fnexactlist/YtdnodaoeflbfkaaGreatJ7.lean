/- Texts of one claim, joined: each in its own section, in build order. -/
import Derived.Test.YtdnodaoeflbfkaaGreatJ6
import Derived.Test.YtdnodaoeflbfkaaGreatChecked
import Derived.Test.YtdnodaoeflbfkaaGreatJ2
import Derived.Deep.RegionHeld3
/- Objects: the specification's look at a list of them. -/
namespace Go.Proofs.YtdnodaoeflbfkaaGreat
open Go.RowKit Go.BigFrame
set_option linter.unusedVariables false

/-- a call of a Go function, guarded or not, as a step of a region that draws -/
theorem step_call_w {P : Program} {w : World} {ops : Array Oper} {o : Oper} {a : Act} {K : Act → World → Prop} {Q : Exit → Act → World → Prop} {E : Prop} (hw : Region.wanted o (yielded ops a.tmps) = true) (f : FuncId) (args : Array Operand) (ts : Array TypeId)
    (ho : o.op = .call { callee := .value (.func f), args := args, argTypes := ts }) (hcf : ∀ xs w, (callFunc f xs).run P w = .ok (.enter f xs) w) (xs : Array Value) (hx : args.map a.eval = xs) {R : Ending → World → Prop} (hc : Calls P f xs w R) (h : ∀ e w', R e w' → ∃ v, e = .returned v ∧ K (a.put o.dst v) w') :
    if Region.wanted o (yielded ops a.tmps) = true then Oper.wp P o a w K Q else E := by
  subst hx
  rw [if_pos hw]
  unfold Oper.wp execOp
  simp only [ho, resolve, invoke, Sem.run_bind]
  have e : (Deferred.ofValue (a.eval (Operand.func f)) (Array.map a.eval args)).run P w = .ok { target := .fn (.func f) #[], args := args.map a.eval } w := by simp [Act.eval, Deferred.ofValue, go_sem]
  rw [e, Result.andThen_ok]
  simp only [Array.append_empty]
  rw [hcf]
  rw [Oper.upon_enter]
  refine hc.mono ?_
  intro e w' hr
  obtain ⟨v, rfl, hk⟩ := h e w' hr
  exact hk
def okO (cs : UD) (rev next : Int) (i : Nat) : Prop := (objB (rowU cs 17 i) rev next = true ∧ endsB (rowU cs 17 i) = false) ∧ (0 < i → lessO (kindU (rowU cs 17 (i - 1))) (kindU (rowU cs 17 i)) (nameU (rowU cs 17 (i - 1))) (nameU (rowU cs 17 i)) = true) ∧ ∀ k, k < i → uidU (rowU cs 17 k) ≠ uidU (rowU cs 17 i)
noncomputable def objsB (cs : UD) (n : Nat) (rev next : Int) : Bool := @decide ((∀ i, i < n → okO cs rev next i) ∧ n ≤ 60) (Classical.propDecidable _)
theorem objsB_bad {cs : UD} {n : Nat} {rev next : Int} {i : Nat} (hi : i < n) (h : ¬ okO cs rev next i) : objsB cs n rev next = false := by
  unfold objsB; exact @decide_eq_false _ (Classical.propDecidable _) (fun g => h (g.1 i hi))
theorem objsB_end {cs : UD} {n : Nat} {rev next : Int} (h : ∀ i, i < n → okO cs rev next i) : objsB cs n rev next = decide (n ≤ 60) := by
  unfold objsB
  by_cases g : n ≤ 60
  · rw [@decide_eq_true _ (Classical.propDecidable _) ⟨h, g⟩, decide_eq_true g]
  · rw [@decide_eq_false _ (Classical.propDecidable _) (fun x => g x.2), decide_eq_false g]
set_option maxRecDepth 40000 in
set_option maxHeartbeats 3200000 in
theorem l7Objs_any {lo hi : Nat} (n : Nat) (cs : UD) (c : Value) (rev next : Int) (w : World) (ht : tyS 17 n cs 8) (hx : uS w lo hi 17 n cs c) (hn0 : -9223372036854775807 ≤ next) (hn1 : next ≤ 9223372036854775807) :
    Calls Tryz.prog 167 #[c, .int .i64 rev, .int .i64 next] w fun e w' => e = .returned (.bool (objsB cs n rev next)) ∧ Below w.heap.size w w' := by
  obtain ⟨a, cap, rfl, hx2⟩ := hx
  have Hx : Hid (uS w lo hi 17 n cs (.slice a n cap)) := ⟨a, cap, rfl, hx2⟩
  have hmx := ht.2.2.1
  unfold maxLen at hmx
  have Ht := uhide ht
  have HN := uhide (And.intro hn0 hn1)
  clear hx2 ht hn0 hn1
  go_enter Tryz.func167, Tryz.ntmps167
  go_wp2
  go_loopw [7] (fun i wr => ∃ (q : Nat), q ≤ n ∧ i = .int .i64 q ∧ Hid (∀ j, j < q → okO cs rev next j) ∧ Hid (Below w.heap.size w wr)) (fun i _ => n - (intOf i).toNat)
  case atStart => exact ⟨0, Nat.zero_le _, rfl, fun j hj => by omega, Below.refl _ _⟩
  case round =>
    obtain ⟨q, hq, rfl, Ho, hbw⟩ := hrel
    by_cases hlt : q < n
    · have Hxr := uhide (Hx.out.below hbw.out)
      obtain ⟨b, off, rfl, hbb, hm⟩ := Hxr.out.cells (by omega)
      have htr := Ht.out.row hlt
      obtain ⟨xs, hh, hcl⟩ := (hm.row 17 q).hand
      have HI1 : Hid ((Tryz.prog.info? 138).map (·.size) = some xs.length) := by show _ = _; rw [hh.len, tyL.len htr]; exact Tryz.zObj_impl_Obj
      obtain ⟨bo, hbo⟩ : ∃ bo, bo = (objB (rowU cs 17 q) rev next && (false || !(endsB (rowU cs 17 q)))) := ⟨_, rfl⟩
      have Hcon : Hid (∀ wx, Below wr.heap.size wr wx → Calls Tryz.prog 168 #[.agg xs.toArray, .int .i64 rev, .int .i64 next, .bool false] wx fun e w' => e = .returned (.bool bo) ∧ Hid (Below wr.heap.size wr w')) := fun wx hb => (hbo ▸ l7Obj_any (lo := lo) (hi := hi) _ xs rev next false wx htr (hh.below hb) HN.out.1 HN.out.2).mono fun e w' h => ⟨h.1, hb.trans (h.2.mono hb.size)⟩
      have R1 : Hid (wr.rangeAt b (off + q * 17) xs) := hcl
      have Hbo := uhide hbo
      have hq0 : (0 : Int) ≤ (q : Int) := Int.natCast_nonneg _
      have hqn : (q : Int) < (n : Int) := by omega
      clear hcl hbo
      cases bo with
      | false =>
        have Hn : Hid (objsB cs n rev next = false) := objsB_bad hlt (fun h => by have := Hbo.out; rw [h.1.1, h.1.2] at this; simp at this)
        clear Hbo Ho Hx Hxr Ht hm htr hh
        go_wp2
        refine wp_region_held_drew (S := fun w' => w'.rangeAt b (off + q * 17) xs ∧ True) (by kernel_rfl) ⟨(World.rangeAt_drew _ _ _ _).2 R1.out, trivial⟩ (fun hHeld => ?_)
        refine wpAnyH_take (i := 0) (oi := ⟨some 15, .move (.tmp 0), _, _, _, _⟩) (v := .slice (some ⟨b, off, none⟩) n cap) rfl (by kernel_rfl) (by kernel_rfl) (by kernel_rfl) (fun _ _ _ h => h) (Or.inl ⟨by rfl, by intro w hSw; go_simp⟩) hHeld ?_
        simp only [Act.put, List.setIfInBounds_toArray, List.set_cons_zero, List.set_cons_succ]
        refine wpAnyH_take (i := 1) (oi := ⟨some 16, .move (.tmp 7), _, _, _, _⟩) (v := .int .i64 q) rfl (by kernel_rfl) (by kernel_rfl) (by kernel_rfl) (fun _ _ _ h => h) (Or.inl ⟨by rfl, by intro w hSw; go_simp⟩) hHeld ?_
        simp only [Act.put, List.setIfInBounds_toArray, List.set_cons_zero, List.set_cons_succ]
        refine wpAnyH_take (i := 2) (oi := ⟨some 17, .indexAddr _ (.tmp 15) (.tmp 16), _, _, _, _⟩) (v := .pointer (some ⟨b, off + q * 17, none⟩)) rfl (by kernel_rfl) (by kernel_rfl) (by kernel_rfl) (fun _ _ _ h => h) (Or.inl ⟨by rfl, by intro w hSw; go_simp⟩) hHeld ?_
        simp only [Act.put, List.setIfInBounds_toArray, List.set_cons_zero, List.set_cons_succ]
        refine wpAnyH_take (i := 3) (oi := ⟨some 18, .load _ (.tmp 17), _, _, _, _⟩) (v := .agg xs.toArray) rfl (by kernel_rfl) (by kernel_rfl) (by kernel_rfl) (fun _ _ _ h => h) (yieldsIf_load_row (by rfl) 138 _ rfl b (off + q * 17) rfl xs (fun w hS => hS.1) Tryz.rObj_impl_Obj HI1.out) hHeld ?_
        simp only [Act.put, List.setIfInBounds_toArray, List.set_cons_zero, List.set_cons_succ]
        refine wpAnyH_take (i := 4) (oi := ⟨some 19, .move (.tmp 1), _, _, _, _⟩) (v := .int .i64 rev) rfl (by kernel_rfl) (by kernel_rfl) (by kernel_rfl) (fun _ _ _ h => h) (Or.inl ⟨by rfl, by intro w hSw; go_simp⟩) hHeld ?_
        simp only [Act.put, List.setIfInBounds_toArray, List.set_cons_zero, List.set_cons_succ]
        refine wpAnyH_take (i := 5) (oi := ⟨some 20, .move (.tmp 2), _, _, _, _⟩) (v := .int .i64 next) rfl (by kernel_rfl) (by kernel_rfl) (by kernel_rfl) (fun _ _ _ h => h) (Or.inl ⟨by rfl, by intro w hSw; go_simp⟩) hHeld ?_
        simp only [Act.put, List.setIfInBounds_toArray, List.set_cons_zero, List.set_cons_succ]
        refine wpAnyH_ready (rs := [6]) (by kernel_rfl) (by simp) (AllReadyH.cons (o := ⟨some 21, .call { callee := .value (.func 168), args := #[.tmp 18, .tmp 19, .tmp 20, .const (.bool false)], argTypes := #[138, 3, 3, 4] }, _, _, _, _⟩) rfl (fun K hK => ?_) AllReadyH.nil)
        refine step_call_w (by rfl) 168 #[.tmp 18, .tmp 19, .tmp 20, .const (.bool false)] #[138, 3, 3, 4] rfl (callFunc_enter Tryz.func168 (by kernel_rfl) (by kernel_rfl)) #[.agg xs.toArray, .int .i64 rev, .int .i64 next, .bool false] (by simp [Act.eval]) (Hcon.out _ (Below.drew (Below.refl _ _))) ?_
        rintro e w2 ⟨rfl, hb2⟩
        refine ⟨.bool false, rfl, hK.out _ _ ⟨range_below R1.out hb2.out, trivial⟩ (fun hHeld => ?_)⟩
        clear hK K
        simp only [Act.put, List.setIfInBounds_toArray, List.set_cons_zero, List.set_cons_succ]
        refine wpAnyH_take (i := 7) (oi := ⟨some 22, .unOp .not _ (.tmp 21), _, _, _, _⟩) (v := .bool true) rfl (by kernel_rfl) (by kernel_rfl) (by kernel_rfl) (fun _ _ _ h => h) (Or.inl ⟨by rfl, by intro w hSw; go_simp⟩) hHeld ?_
        simp only [Act.put, List.setIfInBounds_toArray, List.set_cons_zero, List.set_cons_succ]
        refine wpAnyH_take (i := 8) (oi := ⟨some 23, .move (.tmp 22), _, _, _, _⟩) (v := .bool true) rfl (by kernel_rfl) (by kernel_rfl) (by kernel_rfl) (fun _ _ _ h => h) (Or.inl ⟨by rfl, by intro w hSw; go_simp⟩) hHeld ?_
        simp only [Act.put, List.setIfInBounds_toArray, List.set_cons_zero, List.set_cons_succ]
        refine wpAnyH_take (i := 9) (oi := ⟨some 24, .move (.tmp 7), _, _, _, _⟩) (v := undef) rfl (by kernel_rfl) (by kernel_rfl) (by kernel_rfl) (fun _ _ _ h => h) (Or.inr ⟨by rfl, rfl⟩) hHeld ?_
        simp only [Act.put, List.setIfInBounds_toArray, List.set_cons_zero, List.set_cons_succ]
        refine wpAnyH_take (i := 10) (oi := ⟨some 25, .binOp .gtr _ (.tmp 24) (.const (.int .i64 0)) _, _, _, _, _⟩) (v := undef) rfl (by kernel_rfl) (by kernel_rfl) (by kernel_rfl) (fun _ _ _ h => h) (Or.inr ⟨by rfl, rfl⟩) hHeld ?_
        simp only [Act.put, List.setIfInBounds_toArray, List.set_cons_zero, List.set_cons_succ]
        refine wpAnyH_take (i := 11) (oi := ⟨some 26, .move (.tmp 25), _, _, _, _⟩) (v := undef) rfl (by kernel_rfl) (by kernel_rfl) (by kernel_rfl) (fun _ _ _ h => h) (Or.inr ⟨by rfl, rfl⟩) hHeld ?_
        simp only [Act.put, List.setIfInBounds_toArray, List.set_cons_zero, List.set_cons_succ]
        refine wpAnyH_take (i := 12) (oi := ⟨some 27, .move (.tmp 0), _, _, _, _⟩) (v := undef) rfl (by kernel_rfl) (by kernel_rfl) (by kernel_rfl) (fun _ _ _ h => h) (Or.inr ⟨by rfl, rfl⟩) hHeld ?_
        simp only [Act.put, List.setIfInBounds_toArray, List.set_cons_zero, List.set_cons_succ]
        refine wpAnyH_take (i := 13) (oi := ⟨some 28, .move (.tmp 7), _, _, _, _⟩) (v := undef) rfl (by kernel_rfl) (by kernel_rfl) (by kernel_rfl) (fun _ _ _ h => h) (Or.inr ⟨by rfl, rfl⟩) hHeld ?_
        simp only [Act.put, List.setIfInBounds_toArray, List.set_cons_zero, List.set_cons_succ]
        refine wpAnyH_take (i := 14) (oi := ⟨some 29, .binOp .sub _ (.tmp 28) (.const (.int .i64 1)) _, _, _, _, _⟩) (v := undef) rfl (by kernel_rfl) (by kernel_rfl) (by kernel_rfl) (fun _ _ _ h => h) (Or.inr ⟨by rfl, rfl⟩) hHeld ?_
        simp only [Act.put, List.setIfInBounds_toArray, List.set_cons_zero, List.set_cons_succ]
        refine wpAnyH_take (i := 15) (oi := ⟨some 30, .indexAddr _ (.tmp 27) (.tmp 29), _, _, _, _⟩) (v := undef) rfl (by kernel_rfl) (by kernel_rfl) (by kernel_rfl) (fun _ _ _ h => h) (Or.inr ⟨by rfl, rfl⟩) hHeld ?_
        simp only [Act.put, List.setIfInBounds_toArray, List.set_cons_zero, List.set_cons_succ]
        refine wpAnyH_take (i := 16) (oi := ⟨some 31, .load _ (.tmp 30), _, _, _, _⟩) (v := undef) rfl (by kernel_rfl) (by kernel_rfl) (by kernel_rfl) (fun _ _ _ h => h) (Or.inr ⟨by rfl, rfl⟩) hHeld ?_
        simp only [Act.put, List.setIfInBounds_toArray, List.set_cons_zero, List.set_cons_succ]
        refine wpAnyH_take (i := 17) (oi := ⟨some 32, .move (.tmp 0), _, _, _, _⟩) (v := undef) rfl (by kernel_rfl) (by kernel_rfl) (by kernel_rfl) (fun _ _ _ h => h) (Or.inr ⟨by rfl, rfl⟩) hHeld ?_
        simp only [Act.put, List.setIfInBounds_toArray, List.set_cons_zero, List.set_cons_succ]
        refine wpAnyH_take (i := 18) (oi := ⟨some 33, .move (.tmp 7), _, _, _, _⟩) (v := undef) rfl (by kernel_rfl) (by kernel_rfl) (by kernel_rfl) (fun _ _ _ h => h) (Or.inr ⟨by rfl, rfl⟩) hHeld ?_
        simp only [Act.put, List.setIfInBounds_toArray, List.set_cons_zero, List.set_cons_succ]
        refine wpAnyH_take (i := 19) (oi := ⟨some 34, .indexAddr _ (.tmp 32) (.tmp 33), _, _, _, _⟩) (v := undef) rfl (by kernel_rfl) (by kernel_rfl) (by kernel_rfl) (fun _ _ _ h => h) (Or.inr ⟨by rfl, rfl⟩) hHeld ?_
        simp only [Act.put, List.setIfInBounds_toArray, List.set_cons_zero, List.set_cons_succ]
        refine wpAnyH_take (i := 20) (oi := ⟨some 35, .load _ (.tmp 34), _, _, _, _⟩) (v := undef) rfl (by kernel_rfl) (by kernel_rfl) (by kernel_rfl) (fun _ _ _ h => h) (Or.inr ⟨by rfl, rfl⟩) hHeld ?_
        simp only [Act.put, List.setIfInBounds_toArray, List.set_cons_zero, List.set_cons_succ]
        refine wpAnyH_take (i := 21) (oi := ⟨some 36, _, _, _, _, _⟩) (v := undef) rfl (by kernel_rfl) (by kernel_rfl) (by kernel_rfl) (fun _ _ _ h => h) (Or.inr ⟨by rfl, rfl⟩) hHeld ?_
        simp only [Act.put, List.setIfInBounds_toArray, List.set_cons_zero, List.set_cons_succ]
        refine wpAnyH_take (i := 22) (oi := ⟨some 37, .unOp .not _ (.tmp 36), _, _, _, _⟩) (v := undef) rfl (by kernel_rfl) (by kernel_rfl) (by kernel_rfl) (fun _ _ _ h => h) (Or.inr ⟨by rfl, rfl⟩) hHeld ?_
        simp only [Act.put, List.setIfInBounds_toArray, List.set_cons_zero, List.set_cons_succ]
        refine wpAnyH_take (i := 23) (oi := ⟨some 38, .pick (.tmp 26) (.tmp 37) (.const (.bool false)), _, _, _, _⟩) (v := undef) rfl (by kernel_rfl) (by kernel_rfl) (by kernel_rfl) (fun _ _ _ h => h) (Or.inr ⟨by rfl, rfl⟩) hHeld ?_
        simp only [Act.put, List.setIfInBounds_toArray, List.set_cons_zero, List.set_cons_succ]
        refine wpAnyH_take (i := 24) (oi := ⟨some 39, .pick (.tmp 23) (.const (.bool true)) (.tmp 38), _, _, _, _⟩) (v := .bool true) rfl (by kernel_rfl) (by kernel_rfl) (by kernel_rfl) (fun _ _ _ h => h) (Or.inl ⟨by rfl, by intro w hSw; go_simp⟩) hHeld ?_
        simp only [Act.put, List.setIfInBounds_toArray, List.set_cons_zero, List.set_cons_succ]
        refine wpAnyH_done (by kernel_rfl) ?_ _
        clear hHeld
        go_wp2
        go_ret
        exact ⟨ret_bool Hn.out.symm, hbw.out.trans (hb2.out.mono hbw.out.size)⟩
      | true =>
        have Hob : Hid (objB (rowU cs 17 q) rev next = true ∧ endsB (rowU cs 17 q) = false) := by
          have := Hbo.out
          show _ ∧ _
          simp at this
          exact this.symm.imp id id |>.symm
        clear Hbo
        rcases Nat.eq_zero_or_pos q with hz | hz
        · subst hz
          have Hok : Hid ((∀ j, j < 0 → uidU (rowU cs 17 j) ≠ uidU (rowU cs 17 0)) → ∀ j, j < 0 + 1 → okO cs rev next j) := fun h j hj => by
            obtain rfl : j = 0 := by omega
            exact ⟨Hob.out, fun h => by omega, h⟩
          clear hm htr hh Hob Ho
          go_wp2
          refine wp_region_held_drew (S := fun w' => w'.rangeAt b (off + 0 * 17) xs ∧ True) (by kernel_rfl) ⟨(World.rangeAt_drew _ _ _ _).2 R1.out, trivial⟩ (fun hHeld => ?_)
          refine wpAnyH_take (i := 0) (oi := ⟨some 15, .move (.tmp 0), _, _, _, _⟩) (v := .slice (some ⟨b, off, none⟩) n cap) rfl (by kernel_rfl) (by kernel_rfl) (by kernel_rfl) (fun _ _ _ h => h) (Or.inl ⟨by rfl, by intro w hSw; go_simp⟩) hHeld ?_
          simp only [Act.put, List.setIfInBounds_toArray, List.set_cons_zero, List.set_cons_succ]
          refine wpAnyH_take (i := 1) (oi := ⟨some 16, .move (.tmp 7), _, _, _, _⟩) (v := .int .i64 0) rfl (by kernel_rfl) (by kernel_rfl) (by kernel_rfl) (fun _ _ _ h => h) (Or.inl ⟨by rfl, by intro w hSw; go_simp⟩) hHeld ?_
          simp only [Act.put, List.setIfInBounds_toArray, List.set_cons_zero, List.set_cons_succ]
          refine wpAnyH_take (i := 2) (oi := ⟨some 17, .indexAddr _ (.tmp 15) (.tmp 16), _, _, _, _⟩) (v := .pointer (some ⟨b, off + 0 * 17, none⟩)) rfl (by kernel_rfl) (by kernel_rfl) (by kernel_rfl) (fun _ _ _ h => h) (Or.inl ⟨by rfl, by intro w hSw; go_simp⟩) hHeld ?_
          simp only [Act.put, List.setIfInBounds_toArray, List.set_cons_zero, List.set_cons_succ]
          refine wpAnyH_take (i := 3) (oi := ⟨some 18, .load _ (.tmp 17), _, _, _, _⟩) (v := .agg xs.toArray) rfl (by kernel_rfl) (by kernel_rfl) (by kernel_rfl) (fun _ _ _ h => h) (yieldsIf_load_row (by rfl) 138 _ rfl b (off + 0 * 17) rfl xs (fun w hS => hS.1) Tryz.rObj_impl_Obj HI1.out) hHeld ?_
          simp only [Act.put, List.setIfInBounds_toArray, List.set_cons_zero, List.set_cons_succ]
          refine wpAnyH_take (i := 4) (oi := ⟨some 19, .move (.tmp 1), _, _, _, _⟩) (v := .int .i64 rev) rfl (by kernel_rfl) (by kernel_rfl) (by kernel_rfl) (fun _ _ _ h => h) (Or.inl ⟨by rfl, by intro w hSw; go_simp⟩) hHeld ?_
          simp only [Act.put, List.setIfInBounds_toArray, List.set_cons_zero, List.set_cons_succ]
          refine wpAnyH_take (i := 5) (oi := ⟨some 20, .move (.tmp 2), _, _, _, _⟩) (v := .int .i64 next) rfl (by kernel_rfl) (by kernel_rfl) (by kernel_rfl) (fun _ _ _ h => h) (Or.inl ⟨by rfl, by intro w hSw; go_simp⟩) hHeld ?_
          simp only [Act.put, List.setIfInBounds_toArray, List.set_cons_zero, List.set_cons_succ]
          refine wpAnyH_ready (rs := [6]) (by kernel_rfl) (by simp) (AllReadyH.cons (o := ⟨some 21, .call { callee := .value (.func 168), args := #[.tmp 18, .tmp 19, .tmp 20, .const (.bool false)], argTypes := #[138, 3, 3, 4] }, _, _, _, _⟩) rfl (fun K hK => ?_) AllReadyH.nil)
          refine step_call_w (by rfl) 168 #[.tmp 18, .tmp 19, .tmp 20, .const (.bool false)] #[138, 3, 3, 4] rfl (callFunc_enter Tryz.func168 (by kernel_rfl) (by kernel_rfl)) #[.agg xs.toArray, .int .i64 rev, .int .i64 next, .bool false] (by simp [Act.eval]) (Hcon.out _ (Below.drew (Below.refl _ _))) ?_
          rintro e w2 ⟨rfl, hb2⟩
          refine ⟨.bool true, rfl, hK.out _ _ ⟨range_below R1.out hb2.out, trivial⟩ (fun hHeld => ?_)⟩
          clear hK K
          simp only [Act.put, List.setIfInBounds_toArray, List.set_cons_zero, List.set_cons_succ]
          refine wpAnyH_take (i := 7) (oi := ⟨some 22, .unOp .not _ (.tmp 21), _, _, _, _⟩) (v := .bool false) rfl (by kernel_rfl) (by kernel_rfl) (by kernel_rfl) (fun _ _ _ h => h) (Or.inl ⟨by rfl, by intro w hSw; go_simp⟩) hHeld ?_
          simp only [Act.put, List.setIfInBounds_toArray, List.set_cons_zero, List.set_cons_succ]
          refine wpAnyH_take (i := 8) (oi := ⟨some 23, .move (.tmp 22), _, _, _, _⟩) (v := .bool false) rfl (by kernel_rfl) (by kernel_rfl) (by kernel_rfl) (fun _ _ _ h => h) (Or.inl ⟨by rfl, by intro w hSw; go_simp⟩) hHeld ?_
          simp only [Act.put, List.setIfInBounds_toArray, List.set_cons_zero, List.set_cons_succ]
          refine wpAnyH_take (i := 9) (oi := ⟨some 24, .move (.tmp 7), _, _, _, _⟩) (v := .int .i64 0) rfl (by kernel_rfl) (by kernel_rfl) (by kernel_rfl) (fun _ _ _ h => h) (Or.inl ⟨by rfl, by intro w hSw; go_simp⟩) hHeld ?_
          simp only [Act.put, List.setIfInBounds_toArray, List.set_cons_zero, List.set_cons_succ]
          refine wpAnyH_take (i := 10) (oi := ⟨some 25, .binOp .gtr _ (.tmp 24) (.const (.int .i64 0)) _, _, _, _, _⟩) (v := .bool false) rfl (by kernel_rfl) (by kernel_rfl) (by kernel_rfl) (fun _ _ _ h => h) (Or.inl ⟨by rfl, by intro w hSw; go_simp⟩) hHeld ?_
          simp only [Act.put, List.setIfInBounds_toArray, List.set_cons_zero, List.set_cons_succ]
          refine wpAnyH_take (i := 11) (oi := ⟨some 26, .move (.tmp 25), _, _, _, _⟩) (v := .bool false) rfl (by kernel_rfl) (by kernel_rfl) (by kernel_rfl) (fun _ _ _ h => h) (Or.inl ⟨by rfl, by intro w hSw; go_simp⟩) hHeld ?_
          simp only [Act.put, List.setIfInBounds_toArray, List.set_cons_zero, List.set_cons_succ]
          refine wpAnyH_take (i := 12) (oi := ⟨some 27, .move (.tmp 0), _, _, _, _⟩) (v := undef) rfl (by kernel_rfl) (by kernel_rfl) (by kernel_rfl) (fun _ _ _ h => h) (Or.inr ⟨by rfl, rfl⟩) hHeld ?_
          simp only [Act.put, List.setIfInBounds_toArray, List.set_cons_zero, List.set_cons_succ]
          refine wpAnyH_take (i := 13) (oi := ⟨some 28, .move (.tmp 7), _, _, _, _⟩) (v := undef) rfl (by kernel_rfl) (by kernel_rfl) (by kernel_rfl) (fun _ _ _ h => h) (Or.inr ⟨by rfl, rfl⟩) hHeld ?_
          simp only [Act.put, List.setIfInBounds_toArray, List.set_cons_zero, List.set_cons_succ]
          refine wpAnyH_take (i := 14) (oi := ⟨some 29, .binOp .sub _ (.tmp 28) (.const (.int .i64 1)) _, _, _, _, _⟩) (v := undef) rfl (by kernel_rfl) (by kernel_rfl) (by kernel_rfl) (fun _ _ _ h => h) (Or.inr ⟨by rfl, rfl⟩) hHeld ?_
          simp only [Act.put, List.setIfInBounds_toArray, List.set_cons_zero, List.set_cons_succ]
          refine wpAnyH_take (i := 15) (oi := ⟨some 30, .indexAddr _ (.tmp 27) (.tmp 29), _, _, _, _⟩) (v := undef) rfl (by kernel_rfl) (by kernel_rfl) (by kernel_rfl) (fun _ _ _ h => h) (Or.inr ⟨by rfl, rfl⟩) hHeld ?_
          simp only [Act.put, List.setIfInBounds_toArray, List.set_cons_zero, List.set_cons_succ]
          refine wpAnyH_take (i := 16) (oi := ⟨some 31, .load _ (.tmp 30), _, _, _, _⟩) (v := undef) rfl (by kernel_rfl) (by kernel_rfl) (by kernel_rfl) (fun _ _ _ h => h) (Or.inr ⟨by rfl, rfl⟩) hHeld ?_
          simp only [Act.put, List.setIfInBounds_toArray, List.set_cons_zero, List.set_cons_succ]
          refine wpAnyH_take (i := 17) (oi := ⟨some 32, .move (.tmp 0), _, _, _, _⟩) (v := undef) rfl (by kernel_rfl) (by kernel_rfl) (by kernel_rfl) (fun _ _ _ h => h) (Or.inr ⟨by rfl, rfl⟩) hHeld ?_
          simp only [Act.put, List.setIfInBounds_toArray, List.set_cons_zero, List.set_cons_succ]
          refine wpAnyH_take (i := 18) (oi := ⟨some 33, .move (.tmp 7), _, _, _, _⟩) (v := undef) rfl (by kernel_rfl) (by kernel_rfl) (by kernel_rfl) (fun _ _ _ h => h) (Or.inr ⟨by rfl, rfl⟩) hHeld ?_
          simp only [Act.put, List.setIfInBounds_toArray, List.set_cons_zero, List.set_cons_succ]
          refine wpAnyH_take (i := 19) (oi := ⟨some 34, .indexAddr _ (.tmp 32) (.tmp 33), _, _, _, _⟩) (v := undef) rfl (by kernel_rfl) (by kernel_rfl) (by kernel_rfl) (fun _ _ _ h => h) (Or.inr ⟨by rfl, rfl⟩) hHeld ?_
          simp only [Act.put, List.setIfInBounds_toArray, List.set_cons_zero, List.set_cons_succ]
          refine wpAnyH_take (i := 20) (oi := ⟨some 35, .load _ (.tmp 34), _, _, _, _⟩) (v := undef) rfl (by kernel_rfl) (by kernel_rfl) (by kernel_rfl) (fun _ _ _ h => h) (Or.inr ⟨by rfl, rfl⟩) hHeld ?_
          simp only [Act.put, List.setIfInBounds_toArray, List.set_cons_zero, List.set_cons_succ]
          refine wpAnyH_take (i := 21) (oi := ⟨some 36, _, _, _, _, _⟩) (v := undef) rfl (by kernel_rfl) (by kernel_rfl) (by kernel_rfl) (fun _ _ _ h => h) (Or.inr ⟨by rfl, rfl⟩) hHeld ?_
          simp only [Act.put, List.setIfInBounds_toArray, List.set_cons_zero, List.set_cons_succ]
          refine wpAnyH_take (i := 22) (oi := ⟨some 37, .unOp .not _ (.tmp 36), _, _, _, _⟩) (v := undef) rfl (by kernel_rfl) (by kernel_rfl) (by kernel_rfl) (fun _ _ _ h => h) (Or.inr ⟨by rfl, rfl⟩) hHeld ?_
          simp only [Act.put, List.setIfInBounds_toArray, List.set_cons_zero, List.set_cons_succ]
          refine wpAnyH_take (i := 23) (oi := ⟨some 38, .pick (.tmp 26) (.tmp 37) (.const (.bool false)), _, _, _, _⟩) (v := .bool false) rfl (by kernel_rfl) (by kernel_rfl) (by kernel_rfl) (fun _ _ _ h => h) (Or.inl ⟨by rfl, by intro w hSw; go_simp⟩) hHeld ?_
          simp only [Act.put, List.setIfInBounds_toArray, List.set_cons_zero, List.set_cons_succ]
          refine wpAnyH_take (i := 24) (oi := ⟨some 39, .pick (.tmp 23) (.const (.bool true)) (.tmp 38), _, _, _, _⟩) (v := .bool false) rfl (by kernel_rfl) (by kernel_rfl) (by kernel_rfl) (fun _ _ _ h => h) (Or.inl ⟨by rfl, by intro w hSw; go_simp⟩) hHeld ?_
          simp only [Act.put, List.setIfInBounds_toArray, List.set_cons_zero, List.set_cons_succ]
          refine wpAnyH_done (by kernel_rfl) ?_ _
          clear hHeld
          have HBk : Hid (Below w.heap.size w w2) := hbw.out.trans (hb2.out.mono hbw.out.size)
          go_wp2
          go_loopw [8] (fun kv wk => ∃ (k : Nat), k ≤ 0 ∧ kv = .int .i64 k ∧ Hid (∀ j, j < k → uidU (rowU cs 17 j) ≠ uidU (rowU cs 17 (0))) ∧ Hid (Below w.heap.size w wk)) (fun kv _ => 0 - (intOf kv).toNat)
          case atStart => exact ⟨0, Nat.zero_le _, rfl, fun j hj => by omega, HBk.out⟩
          case round =>
            obtain ⟨k, hk, rfl, Hu, hbk⟩ := hrel
            by_cases hkq : k < 0
            · exact absurd hkq (Nat.not_lt_zero _)
            · have e : k = 0 := by omega
              have Hq := uhide (Hok.out (e ▸ Hu.out))
              have hk' : ¬ ((k : Int) < ((0 : Nat) : Int)) := by omega
              clear Hu
              go_wp2
              go_roundw
              case rel => exact ⟨0 + 1, by omega, by go_num, Hq, hbk⟩
              case measure => (simp [intOf] <;> omega)

        · obtain ⟨p, rfl⟩ : ∃ p, q = p + 1 := ⟨q - 1, by omega⟩
          obtain ⟨ys, hh', hcl'⟩ := (hm.row 17 p).hand
          have htr' := Ht.out.row (show p < n by omega)
          have HI2 : Hid ((Tryz.prog.info? 138).map (·.size) = some ys.length) := by show _ = _; rw [hh'.len, tyL.len htr']; exact Tryz.zObj_impl_Obj
          have R2 : Hid (wr.rangeAt b (off + p * 17) ys) := hcl'
          obtain ⟨bl, hbl⟩ : ∃ bl, bl = lessO (kindU (rowU cs 17 p)) (kindU (rowU cs 17 (p + 1))) (nameU (rowU cs 17 p)) (nameU (rowU cs 17 (p + 1))) := ⟨_, rfl⟩
          have Hles : Hid (∀ wx, Below wr.heap.size wr wx → Calls Tryz.prog 213 #[.agg ys.toArray, .agg xs.toArray] wx fun e w' => e = .returned (.bool bl) ∧ Hid (Below wr.heap.size wr w')) := fun wx hb => (hbl ▸ sless_any (lo := lo) (hi := hi) (lo' := lo) (hi' := hi) _ _ ys xs wx htr' htr (hh'.below hb) (hh.below hb)).mono fun e w' h => ⟨h.1, hb.trans (h.2.mono hb.size)⟩
          have Hbl := uhide hbl
          have hp0 : (0 : Int) ≤ (p : Int) := Int.natCast_nonneg _
          have hpn : (p : Int) < (n : Int) := by omega
          have hp1 : (0 : Int) ≤ (p : Int) + 1 := by omega
          have hpn1 : (p : Int) + 1 < (n : Int) := by omega
          have hwp : IntKind.i64.wrap (p : Int) = (p : Int) := by rw [IntKind.wrap_i64]; omega
          have hw1 : IntKind.i64.wrap ((p : Int) + 1 - 1) = (p : Int) := by rw [IntKind.wrap_i64]; omega
          clear hcl' hbl
          cases bl with
          | false =>
            have Hn : Hid (objsB cs n rev next = false) := objsB_bad hlt (fun h => by have h1 := h.2.1 (by omega); have h2 := Hbl.out; rw [Nat.add_sub_cancel] at h1; rw [h1] at h2; cases h2)
            clear Hbl Ho Hx Hxr Ht hm htr hh htr' hh' Hob
            go_wp2
            refine wp_region_held_drew (S := fun w' => w'.rangeAt b (off + (p + 1) * 17) xs ∧ w'.rangeAt b (off + p * 17) ys) (by kernel_rfl) ⟨(World.rangeAt_drew _ _ _ _).2 R1.out, (World.rangeAt_drew _ _ _ _).2 R2.out⟩ (fun hHeld => ?_)
            refine wpAnyH_take (i := 0) (oi := ⟨some 15, .move (.tmp 0), _, _, _, _⟩) (v := .slice (some ⟨b, off, none⟩) n cap) rfl (by kernel_rfl) (by kernel_rfl) (by kernel_rfl) (fun _ _ _ h => h) (Or.inl ⟨by rfl, by intro w hSw; go_simp⟩) hHeld ?_
            simp only [Act.put, List.setIfInBounds_toArray, List.set_cons_zero, List.set_cons_succ]
            refine wpAnyH_take (i := 1) (oi := ⟨some 16, .move (.tmp 7), _, _, _, _⟩) (v := .int .i64 ((p + 1 : Nat) : Int)) rfl (by kernel_rfl) (by kernel_rfl) (by kernel_rfl) (fun _ _ _ h => h) (Or.inl ⟨by rfl, by intro w hSw; go_simp⟩) hHeld ?_
            simp only [Act.put, List.setIfInBounds_toArray, List.set_cons_zero, List.set_cons_succ]
            refine wpAnyH_take (i := 2) (oi := ⟨some 17, .indexAddr _ (.tmp 15) (.tmp 16), _, _, _, _⟩) (v := .pointer (some ⟨b, off + (p + 1) * 17, none⟩)) rfl (by kernel_rfl) (by kernel_rfl) (by kernel_rfl) (fun _ _ _ h => h) (Or.inl ⟨by rfl, by intro w hSw; go_simp⟩) hHeld ?_
            simp only [Act.put, List.setIfInBounds_toArray, List.set_cons_zero, List.set_cons_succ]
            refine wpAnyH_take (i := 3) (oi := ⟨some 18, .load _ (.tmp 17), _, _, _, _⟩) (v := .agg xs.toArray) rfl (by kernel_rfl) (by kernel_rfl) (by kernel_rfl) (fun _ _ _ h => h) (yieldsIf_load_row (by rfl) 138 _ rfl b (off + (p + 1) * 17) rfl xs (fun w hS => hS.1) Tryz.rObj_impl_Obj HI1.out) hHeld ?_
            simp only [Act.put, List.setIfInBounds_toArray, List.set_cons_zero, List.set_cons_succ]
            refine wpAnyH_take (i := 4) (oi := ⟨some 19, .move (.tmp 1), _, _, _, _⟩) (v := .int .i64 rev) rfl (by kernel_rfl) (by kernel_rfl) (by kernel_rfl) (fun _ _ _ h => h) (Or.inl ⟨by rfl, by intro w hSw; go_simp⟩) hHeld ?_
            simp only [Act.put, List.setIfInBounds_toArray, List.set_cons_zero, List.set_cons_succ]
            refine wpAnyH_take (i := 5) (oi := ⟨some 20, .move (.tmp 2), _, _, _, _⟩) (v := .int .i64 next) rfl (by kernel_rfl) (by kernel_rfl) (by kernel_rfl) (fun _ _ _ h => h) (Or.inl ⟨by rfl, by intro w hSw; go_simp⟩) hHeld ?_
            simp only [Act.put, List.setIfInBounds_toArray, List.set_cons_zero, List.set_cons_succ]
            refine wpAnyH_ready (rs := [6]) (by kernel_rfl) (by simp) (AllReadyH.cons (o := ⟨some 21, .call { callee := .value (.func 168), args := #[.tmp 18, .tmp 19, .tmp 20, .const (.bool false)], argTypes := #[138, 3, 3, 4] }, _, _, _, _⟩) rfl (fun K hK => ?_) AllReadyH.nil)
            refine step_call_w (by rfl) 168 #[.tmp 18, .tmp 19, .tmp 20, .const (.bool false)] #[138, 3, 3, 4] rfl (callFunc_enter Tryz.func168 (by kernel_rfl) (by kernel_rfl)) #[.agg xs.toArray, .int .i64 rev, .int .i64 next, .bool false] (by simp [Act.eval]) (Hcon.out _ (Below.drew (Below.refl _ _))) ?_
            rintro e w2 ⟨rfl, hb2⟩
            refine ⟨.bool true, rfl, hK.out _ _ ⟨range_below R1.out hb2.out, range_below R2.out hb2.out⟩ (fun hHeld => ?_)⟩
            clear hK K
            simp only [Act.put, List.setIfInBounds_toArray, List.set_cons_zero, List.set_cons_succ]
            refine wpAnyH_take (i := 7) (oi := ⟨some 22, .unOp .not _ (.tmp 21), _, _, _, _⟩) (v := .bool false) rfl (by kernel_rfl) (by kernel_rfl) (by kernel_rfl) (fun _ _ _ h => h) (Or.inl ⟨by rfl, by intro w hSw; go_simp⟩) hHeld ?_
            simp only [Act.put, List.setIfInBounds_toArray, List.set_cons_zero, List.set_cons_succ]
            refine wpAnyH_take (i := 8) (oi := ⟨some 23, .move (.tmp 22), _, _, _, _⟩) (v := .bool false) rfl (by kernel_rfl) (by kernel_rfl) (by kernel_rfl) (fun _ _ _ h => h) (Or.inl ⟨by rfl, by intro w hSw; go_simp⟩) hHeld ?_
            simp only [Act.put, List.setIfInBounds_toArray, List.set_cons_zero, List.set_cons_succ]
            refine wpAnyH_take (i := 9) (oi := ⟨some 24, .move (.tmp 7), _, _, _, _⟩) (v := .int .i64 ((p + 1 : Nat) : Int)) rfl (by kernel_rfl) (by kernel_rfl) (by kernel_rfl) (fun _ _ _ h => h) (Or.inl ⟨by rfl, by intro w hSw; go_simp⟩) hHeld ?_
            simp only [Act.put, List.setIfInBounds_toArray, List.set_cons_zero, List.set_cons_succ]
            refine wpAnyH_take (i := 10) (oi := ⟨some 25, .binOp .gtr _ (.tmp 24) (.const (.int .i64 0)) _, _, _, _, _⟩) (v := .bool true) rfl (by kernel_rfl) (by kernel_rfl) (by kernel_rfl) (fun _ _ _ h => h) (Or.inl ⟨by rfl, by intro w hSw; go_simp⟩) hHeld ?_
            simp only [Act.put, List.setIfInBounds_toArray, List.set_cons_zero, List.set_cons_succ]
            refine wpAnyH_take (i := 11) (oi := ⟨some 26, .move (.tmp 25), _, _, _, _⟩) (v := .bool true) rfl (by kernel_rfl) (by kernel_rfl) (by kernel_rfl) (fun _ _ _ h => h) (Or.inl ⟨by rfl, by intro w hSw; go_simp⟩) hHeld ?_
            simp only [Act.put, List.setIfInBounds_toArray, List.set_cons_zero, List.set_cons_succ]
            refine wpAnyH_take (i := 12) (oi := ⟨some 27, .move (.tmp 0), _, _, _, _⟩) (v := .slice (some ⟨b, off, none⟩) n cap) rfl (by kernel_rfl) (by kernel_rfl) (by kernel_rfl) (fun _ _ _ h => h) (Or.inl ⟨by rfl, by intro w hSw; go_simp⟩) hHeld ?_
            simp only [Act.put, List.setIfInBounds_toArray, List.set_cons_zero, List.set_cons_succ]
            refine wpAnyH_take (i := 13) (oi := ⟨some 28, .move (.tmp 7), _, _, _, _⟩) (v := .int .i64 ((p + 1 : Nat) : Int)) rfl (by kernel_rfl) (by kernel_rfl) (by kernel_rfl) (fun _ _ _ h => h) (Or.inl ⟨by rfl, by intro w hSw; go_simp⟩) hHeld ?_
            simp only [Act.put, List.setIfInBounds_toArray, List.set_cons_zero, List.set_cons_succ]
            refine wpAnyH_take (i := 14) (oi := ⟨some 29, .binOp .sub _ (.tmp 28) (.const (.int .i64 1)) _, _, _, _, _⟩) (v := .int .i64 (p : Int)) rfl (by kernel_rfl) (by kernel_rfl) (by kernel_rfl) (fun _ _ _ h => h) (Or.inl ⟨by rfl, by intro w hSw; go_simp⟩) hHeld ?_
            simp only [Act.put, List.setIfInBounds_toArray, List.set_cons_zero, List.set_cons_succ]
            refine wpAnyH_take (i := 15) (oi := ⟨some 30, .indexAddr _ (.tmp 27) (.tmp 29), _, _, _, _⟩) (v := .pointer (some ⟨b, off + p * 17, none⟩)) rfl (by kernel_rfl) (by kernel_rfl) (by kernel_rfl) (fun _ _ _ h => h) (Or.inl ⟨by rfl, by intro w hSw; go_simp⟩) hHeld ?_
            simp only [Act.put, List.setIfInBounds_toArray, List.set_cons_zero, List.set_cons_succ]
            refine wpAnyH_take (i := 16) (oi := ⟨some 31, .load _ (.tmp 30), _, _, _, _⟩) (v := .agg ys.toArray) rfl (by kernel_rfl) (by kernel_rfl) (by kernel_rfl) (fun _ _ _ h => h) (yieldsIf_load_row (by rfl) 138 _ rfl b (off + p * 17) rfl ys (fun w hS => hS.2) Tryz.rObj_impl_Obj HI2.out) hHeld ?_
            simp only [Act.put, List.setIfInBounds_toArray, List.set_cons_zero, List.set_cons_succ]
            refine wpAnyH_take (i := 17) (oi := ⟨some 32, .move (.tmp 0), _, _, _, _⟩) (v := .slice (some ⟨b, off, none⟩) n cap) rfl (by kernel_rfl) (by kernel_rfl) (by kernel_rfl) (fun _ _ _ h => h) (Or.inl ⟨by rfl, by intro w hSw; go_simp⟩) hHeld ?_
            simp only [Act.put, List.setIfInBounds_toArray, List.set_cons_zero, List.set_cons_succ]
            refine wpAnyH_take (i := 18) (oi := ⟨some 33, .move (.tmp 7), _, _, _, _⟩) (v := .int .i64 ((p + 1 : Nat) : Int)) rfl (by kernel_rfl) (by kernel_rfl) (by kernel_rfl) (fun _ _ _ h => h) (Or.inl ⟨by rfl, by intro w hSw; go_simp⟩) hHeld ?_
            simp only [Act.put, List.setIfInBounds_toArray, List.set_cons_zero, List.set_cons_succ]
            refine wpAnyH_take (i := 19) (oi := ⟨some 34, .indexAddr _ (.tmp 32) (.tmp 33), _, _, _, _⟩) (v := .pointer (some ⟨b, off + (p + 1) * 17, none⟩)) rfl (by kernel_rfl) (by kernel_rfl) (by kernel_rfl) (fun _ _ _ h => h) (Or.inl ⟨by rfl, by intro w hSw; go_simp⟩) hHeld ?_
            simp only [Act.put, List.setIfInBounds_toArray, List.set_cons_zero, List.set_cons_succ]
            refine wpAnyH_take (i := 20) (oi := ⟨some 35, .load _ (.tmp 34), _, _, _, _⟩) (v := .agg xs.toArray) rfl (by kernel_rfl) (by kernel_rfl) (by kernel_rfl) (fun _ _ _ h => h) (yieldsIf_load_row (by rfl) 138 _ rfl b (off + (p + 1) * 17) rfl xs (fun w hS => hS.1) Tryz.rObj_impl_Obj HI1.out) hHeld ?_
            simp only [Act.put, List.setIfInBounds_toArray, List.set_cons_zero, List.set_cons_succ]
            refine wpAnyH_ready (rs := [21]) (by kernel_rfl) (by simp) (AllReadyH.cons (o := ⟨some 36, .call { callee := .value (.func 213), args := #[.tmp 31, .tmp 35], argTypes := #[138, 138] }, _, _, _, _⟩) rfl (fun K hK => ?_) AllReadyH.nil)
            refine step_call_w (by rfl) 213 #[.tmp 31, .tmp 35] #[138, 138] rfl (callFunc_enter Tryz.func213 (by kernel_rfl) (by kernel_rfl)) #[.agg ys.toArray, .agg xs.toArray] (by simp [Act.eval]) (Hles.out _ hb2.out) ?_
            rintro e w3 ⟨rfl, hb3⟩
            refine ⟨.bool false, rfl, hK.out _ _ ⟨range_below R1.out hb3.out, range_below R2.out hb3.out⟩ (fun hHeld => ?_)⟩
            clear hK K
            simp only [Act.put, List.setIfInBounds_toArray, List.set_cons_zero, List.set_cons_succ]
            refine wpAnyH_take (i := 22) (oi := ⟨some 37, .unOp .not _ (.tmp 36), _, _, _, _⟩) (v := .bool true) rfl (by kernel_rfl) (by kernel_rfl) (by kernel_rfl) (fun _ _ _ h => h) (Or.inl ⟨by rfl, by intro w hSw; go_simp⟩) hHeld ?_
            simp only [Act.put, List.setIfInBounds_toArray, List.set_cons_zero, List.set_cons_succ]
            refine wpAnyH_take (i := 23) (oi := ⟨some 38, .pick (.tmp 26) (.tmp 37) (.const (.bool false)), _, _, _, _⟩) (v := .bool true) rfl (by kernel_rfl) (by kernel_rfl) (by kernel_rfl) (fun _ _ _ h => h) (Or.inl ⟨by rfl, by intro w hSw; go_simp⟩) hHeld ?_
            simp only [Act.put, List.setIfInBounds_toArray, List.set_cons_zero, List.set_cons_succ]
            refine wpAnyH_take (i := 24) (oi := ⟨some 39, .pick (.tmp 23) (.const (.bool true)) (.tmp 38), _, _, _, _⟩) (v := .bool true) rfl (by kernel_rfl) (by kernel_rfl) (by kernel_rfl) (fun _ _ _ h => h) (Or.inl ⟨by rfl, by intro w hSw; go_simp⟩) hHeld ?_
            simp only [Act.put, List.setIfInBounds_toArray, List.set_cons_zero, List.set_cons_succ]
            refine wpAnyH_done (by kernel_rfl) ?_ _
            clear hHeld
            go_wp2
            go_ret
            exact ⟨ret_bool Hn.out.symm, hbw.out.trans (hb3.out.mono hbw.out.size)⟩
          | true =>
            have Hok : Hid ((∀ j, j < p + 1 → uidU (rowU cs 17 j) ≠ uidU (rowU cs 17 (p + 1))) → ∀ j, j < p + 1 + 1 → okO cs rev next j) := fun h j hj => by
              by_cases e : j = p + 1
              · subst e; exact ⟨Hob.out, fun _ => by rw [Nat.add_sub_cancel]; exact Hbl.out.symm, h⟩
              · exact Ho.out j (by omega)
            clear hm htr hh htr' hh' Hob Hbl Ho
            go_wp2
            refine wp_region_held_drew (S := fun w' => w'.rangeAt b (off + (p + 1) * 17) xs ∧ w'.rangeAt b (off + p * 17) ys) (by kernel_rfl) ⟨(World.rangeAt_drew _ _ _ _).2 R1.out, (World.rangeAt_drew _ _ _ _).2 R2.out⟩ (fun hHeld => ?_)
            refine wpAnyH_take (i := 0) (oi := ⟨some 15, .move (.tmp 0), _, _, _, _⟩) (v := .slice (some ⟨b, off, none⟩) n cap) rfl (by kernel_rfl) (by kernel_rfl) (by kernel_rfl) (fun _ _ _ h => h) (Or.inl ⟨by rfl, by intro w hSw; go_simp⟩) hHeld ?_
            simp only [Act.put, List.setIfInBounds_toArray, List.set_cons_zero, List.set_cons_succ]
            refine wpAnyH_take (i := 1) (oi := ⟨some 16, .move (.tmp 7), _, _, _, _⟩) (v := .int .i64 ((p + 1 : Nat) : Int)) rfl (by kernel_rfl) (by kernel_rfl) (by kernel_rfl) (fun _ _ _ h => h) (Or.inl ⟨by rfl, by intro w hSw; go_simp⟩) hHeld ?_
            simp only [Act.put, List.setIfInBounds_toArray, List.set_cons_zero, List.set_cons_succ]
            refine wpAnyH_take (i := 2) (oi := ⟨some 17, .indexAddr _ (.tmp 15) (.tmp 16), _, _, _, _⟩) (v := .pointer (some ⟨b, off + (p + 1) * 17, none⟩)) rfl (by kernel_rfl) (by kernel_rfl) (by kernel_rfl) (fun _ _ _ h => h) (Or.inl ⟨by rfl, by intro w hSw; go_simp⟩) hHeld ?_
            simp only [Act.put, List.setIfInBounds_toArray, List.set_cons_zero, List.set_cons_succ]
            refine wpAnyH_take (i := 3) (oi := ⟨some 18, .load _ (.tmp 17), _, _, _, _⟩) (v := .agg xs.toArray) rfl (by kernel_rfl) (by kernel_rfl) (by kernel_rfl) (fun _ _ _ h => h) (yieldsIf_load_row (by rfl) 138 _ rfl b (off + (p + 1) * 17) rfl xs (fun w hS => hS.1) Tryz.rObj_impl_Obj HI1.out) hHeld ?_
            simp only [Act.put, List.setIfInBounds_toArray, List.set_cons_zero, List.set_cons_succ]
            refine wpAnyH_take (i := 4) (oi := ⟨some 19, .move (.tmp 1), _, _, _, _⟩) (v := .int .i64 rev) rfl (by kernel_rfl) (by kernel_rfl) (by kernel_rfl) (fun _ _ _ h => h) (Or.inl ⟨by rfl, by intro w hSw; go_simp⟩) hHeld ?_
            simp only [Act.put, List.setIfInBounds_toArray, List.set_cons_zero, List.set_cons_succ]
            refine wpAnyH_take (i := 5) (oi := ⟨some 20, .move (.tmp 2), _, _, _, _⟩) (v := .int .i64 next) rfl (by kernel_rfl) (by kernel_rfl) (by kernel_rfl) (fun _ _ _ h => h) (Or.inl ⟨by rfl, by intro w hSw; go_simp⟩) hHeld ?_
            simp only [Act.put, List.setIfInBounds_toArray, List.set_cons_zero, List.set_cons_succ]
            refine wpAnyH_ready (rs := [6]) (by kernel_rfl) (by simp) (AllReadyH.cons (o := ⟨some 21, .call { callee := .value (.func 168), args := #[.tmp 18, .tmp 19, .tmp 20, .const (.bool false)], argTypes := #[138, 3, 3, 4] }, _, _, _, _⟩) rfl (fun K hK => ?_) AllReadyH.nil)
            refine step_call_w (by rfl) 168 #[.tmp 18, .tmp 19, .tmp 20, .const (.bool false)] #[138, 3, 3, 4] rfl (callFunc_enter Tryz.func168 (by kernel_rfl) (by kernel_rfl)) #[.agg xs.toArray, .int .i64 rev, .int .i64 next, .bool false] (by simp [Act.eval]) (Hcon.out _ (Below.drew (Below.refl _ _))) ?_
            rintro e w2 ⟨rfl, hb2⟩
            refine ⟨.bool true, rfl, hK.out _ _ ⟨range_below R1.out hb2.out, range_below R2.out hb2.out⟩ (fun hHeld => ?_)⟩
            clear hK K
            simp only [Act.put, List.setIfInBounds_toArray, List.set_cons_zero, List.set_cons_succ]
            refine wpAnyH_take (i := 7) (oi := ⟨some 22, .unOp .not _ (.tmp 21), _, _, _, _⟩) (v := .bool false) rfl (by kernel_rfl) (by kernel_rfl) (by kernel_rfl) (fun _ _ _ h => h) (Or.inl ⟨by rfl, by intro w hSw; go_simp⟩) hHeld ?_
            simp only [Act.put, List.setIfInBounds_toArray, List.set_cons_zero, List.set_cons_succ]
            refine wpAnyH_take (i := 8) (oi := ⟨some 23, .move (.tmp 22), _, _, _, _⟩) (v := .bool false) rfl (by kernel_rfl) (by kernel_rfl) (by kernel_rfl) (fun _ _ _ h => h) (Or.inl ⟨by rfl, by intro w hSw; go_simp⟩) hHeld ?_
            simp only [Act.put, List.setIfInBounds_toArray, List.set_cons_zero, List.set_cons_succ]
            refine wpAnyH_take (i := 9) (oi := ⟨some 24, .move (.tmp 7), _, _, _, _⟩) (v := .int .i64 ((p + 1 : Nat) : Int)) rfl (by kernel_rfl) (by kernel_rfl) (by kernel_rfl) (fun _ _ _ h => h) (Or.inl ⟨by rfl, by intro w hSw; go_simp⟩) hHeld ?_
            simp only [Act.put, List.setIfInBounds_toArray, List.set_cons_zero, List.set_cons_succ]
            refine wpAnyH_take (i := 10) (oi := ⟨some 25, .binOp .gtr _ (.tmp 24) (.const (.int .i64 0)) _, _, _, _, _⟩) (v := .bool true) rfl (by kernel_rfl) (by kernel_rfl) (by kernel_rfl) (fun _ _ _ h => h) (Or.inl ⟨by rfl, by intro w hSw; go_simp⟩) hHeld ?_
            simp only [Act.put, List.setIfInBounds_toArray, List.set_cons_zero, List.set_cons_succ]
            refine wpAnyH_take (i := 11) (oi := ⟨some 26, .move (.tmp 25), _, _, _, _⟩) (v := .bool true) rfl (by kernel_rfl) (by kernel_rfl) (by kernel_rfl) (fun _ _ _ h => h) (Or.inl ⟨by rfl, by intro w hSw; go_simp⟩) hHeld ?_
            simp only [Act.put, List.setIfInBounds_toArray, List.set_cons_zero, List.set_cons_succ]
            refine wpAnyH_take (i := 12) (oi := ⟨some 27, .move (.tmp 0), _, _, _, _⟩) (v := .slice (some ⟨b, off, none⟩) n cap) rfl (by kernel_rfl) (by kernel_rfl) (by kernel_rfl) (fun _ _ _ h => h) (Or.inl ⟨by rfl, by intro w hSw; go_simp⟩) hHeld ?_
            simp only [Act.put, List.setIfInBounds_toArray, List.set_cons_zero, List.set_cons_succ]
            refine wpAnyH_take (i := 13) (oi := ⟨some 28, .move (.tmp 7), _, _, _, _⟩) (v := .int .i64 ((p + 1 : Nat) : Int)) rfl (by kernel_rfl) (by kernel_rfl) (by kernel_rfl) (fun _ _ _ h => h) (Or.inl ⟨by rfl, by intro w hSw; go_simp⟩) hHeld ?_
            simp only [Act.put, List.setIfInBounds_toArray, List.set_cons_zero, List.set_cons_succ]
            refine wpAnyH_take (i := 14) (oi := ⟨some 29, .binOp .sub _ (.tmp 28) (.const (.int .i64 1)) _, _, _, _, _⟩) (v := .int .i64 (p : Int)) rfl (by kernel_rfl) (by kernel_rfl) (by kernel_rfl) (fun _ _ _ h => h) (Or.inl ⟨by rfl, by intro w hSw; go_simp⟩) hHeld ?_
            simp only [Act.put, List.setIfInBounds_toArray, List.set_cons_zero, List.set_cons_succ]
            refine wpAnyH_take (i := 15) (oi := ⟨some 30, .indexAddr _ (.tmp 27) (.tmp 29), _, _, _, _⟩) (v := .pointer (some ⟨b, off + p * 17, none⟩)) rfl (by kernel_rfl) (by kernel_rfl) (by kernel_rfl) (fun _ _ _ h => h) (Or.inl ⟨by rfl, by intro w hSw; go_simp⟩) hHeld ?_
            simp only [Act.put, List.setIfInBounds_toArray, List.set_cons_zero, List.set_cons_succ]
            refine wpAnyH_take (i := 16) (oi := ⟨some 31, .load _ (.tmp 30), _, _, _, _⟩) (v := .agg ys.toArray) rfl (by kernel_rfl) (by kernel_rfl) (by kernel_rfl) (fun _ _ _ h => h) (yieldsIf_load_row (by rfl) 138 _ rfl b (off + p * 17) rfl ys (fun w hS => hS.2) Tryz.rObj_impl_Obj HI2.out) hHeld ?_
            simp only [Act.put, List.setIfInBounds_toArray, List.set_cons_zero, List.set_cons_succ]
            refine wpAnyH_take (i := 17) (oi := ⟨some 32, .move (.tmp 0), _, _, _, _⟩) (v := .slice (some ⟨b, off, none⟩) n cap) rfl (by kernel_rfl) (by kernel_rfl) (by kernel_rfl) (fun _ _ _ h => h) (Or.inl ⟨by rfl, by intro w hSw; go_simp⟩) hHeld ?_
            simp only [Act.put, List.setIfInBounds_toArray, List.set_cons_zero, List.set_cons_succ]
            refine wpAnyH_take (i := 18) (oi := ⟨some 33, .move (.tmp 7), _, _, _, _⟩) (v := .int .i64 ((p + 1 : Nat) : Int)) rfl (by kernel_rfl) (by kernel_rfl) (by kernel_rfl) (fun _ _ _ h => h) (Or.inl ⟨by rfl, by intro w hSw; go_simp⟩) hHeld ?_
            simp only [Act.put, List.setIfInBounds_toArray, List.set_cons_zero, List.set_cons_succ]
            refine wpAnyH_take (i := 19) (oi := ⟨some 34, .indexAddr _ (.tmp 32) (.tmp 33), _, _, _, _⟩) (v := .pointer (some ⟨b, off + (p + 1) * 17, none⟩)) rfl (by kernel_rfl) (by kernel_rfl) (by kernel_rfl) (fun _ _ _ h => h) (Or.inl ⟨by rfl, by intro w hSw; go_simp⟩) hHeld ?_
            simp only [Act.put, List.setIfInBounds_toArray, List.set_cons_zero, List.set_cons_succ]
            refine wpAnyH_take (i := 20) (oi := ⟨some 35, .load _ (.tmp 34), _, _, _, _⟩) (v := .agg xs.toArray) rfl (by kernel_rfl) (by kernel_rfl) (by kernel_rfl) (fun _ _ _ h => h) (yieldsIf_load_row (by rfl) 138 _ rfl b (off + (p + 1) * 17) rfl xs (fun w hS => hS.1) Tryz.rObj_impl_Obj HI1.out) hHeld ?_
            simp only [Act.put, List.setIfInBounds_toArray, List.set_cons_zero, List.set_cons_succ]
            refine wpAnyH_ready (rs := [21]) (by kernel_rfl) (by simp) (AllReadyH.cons (o := ⟨some 36, .call { callee := .value (.func 213), args := #[.tmp 31, .tmp 35], argTypes := #[138, 138] }, _, _, _, _⟩) rfl (fun K hK => ?_) AllReadyH.nil)
            refine step_call_w (by rfl) 213 #[.tmp 31, .tmp 35] #[138, 138] rfl (callFunc_enter Tryz.func213 (by kernel_rfl) (by kernel_rfl)) #[.agg ys.toArray, .agg xs.toArray] (by simp [Act.eval]) (Hles.out _ hb2.out) ?_
            rintro e w3 ⟨rfl, hb3⟩
            refine ⟨.bool true, rfl, hK.out _ _ ⟨range_below R1.out hb3.out, range_below R2.out hb3.out⟩ (fun hHeld => ?_)⟩
            clear hK K
            simp only [Act.put, List.setIfInBounds_toArray, List.set_cons_zero, List.set_cons_succ]
            refine wpAnyH_take (i := 22) (oi := ⟨some 37, .unOp .not _ (.tmp 36), _, _, _, _⟩) (v := .bool false) rfl (by kernel_rfl) (by kernel_rfl) (by kernel_rfl) (fun _ _ _ h => h) (Or.inl ⟨by rfl, by intro w hSw; go_simp⟩) hHeld ?_
            simp only [Act.put, List.setIfInBounds_toArray, List.set_cons_zero, List.set_cons_succ]
            refine wpAnyH_take (i := 23) (oi := ⟨some 38, .pick (.tmp 26) (.tmp 37) (.const (.bool false)), _, _, _, _⟩) (v := .bool false) rfl (by kernel_rfl) (by kernel_rfl) (by kernel_rfl) (fun _ _ _ h => h) (Or.inl ⟨by rfl, by intro w hSw; go_simp⟩) hHeld ?_
            simp only [Act.put, List.setIfInBounds_toArray, List.set_cons_zero, List.set_cons_succ]
            refine wpAnyH_take (i := 24) (oi := ⟨some 39, .pick (.tmp 23) (.const (.bool true)) (.tmp 38), _, _, _, _⟩) (v := .bool false) rfl (by kernel_rfl) (by kernel_rfl) (by kernel_rfl) (fun _ _ _ h => h) (Or.inl ⟨by rfl, by intro w hSw; go_simp⟩) hHeld ?_
            simp only [Act.put, List.setIfInBounds_toArray, List.set_cons_zero, List.set_cons_succ]
            refine wpAnyH_done (by kernel_rfl) ?_ _
            clear hHeld
            have HBk : Hid (Below w.heap.size w w3) := hbw.out.trans (hb3.out.mono hbw.out.size)
            go_wp2
            go_loopw [8] (fun kv wk => ∃ (k : Nat), k ≤ (p + 1) ∧ kv = .int .i64 k ∧ Hid (∀ j, j < k → uidU (rowU cs 17 j) ≠ uidU (rowU cs 17 ((p + 1)))) ∧ Hid (Below w.heap.size w wk)) (fun kv _ => (p + 1) - (intOf kv).toNat)
            case atStart => exact ⟨0, Nat.zero_le _, rfl, fun j hj => by omega, HBk.out⟩
            case round =>
              obtain ⟨k, hk, rfl, Hu, hbk⟩ := hrel
              by_cases hkq : k < (p + 1)
              · obtain ⟨b', off', eb, hbb', hm'⟩ := (Hx.out.below hbk.out).cells (by omega)
                cases eb
                obtain ⟨xk, hhk, hck⟩ := (hm'.row 17 k).hand
                obtain ⟨xq, hhq, hcq⟩ := (hm'.row 17 ((p + 1))).hand
                have ck := hck 2 _ (obj_cells (Ht.out.row (show k < n by omega)) hhk).2.2.1
                have cq := hcq 2 _ (obj_cells (Ht.out.row hlt) hhq).2.2.1
                have hk0 : (0 : Int) ≤ (k : Int) := Int.natCast_nonneg _
                have hkn : (k : Int) < (n : Int) := by omega
                have Hne : Hid (uidU (rowU cs 17 k) = uidU (rowU cs 17 ((p + 1))) → objsB cs n rev next = false) := fun h => objsB_bad hlt (fun g => g.2.2 k hkq h)
                have Hs : Hid (uidU (rowU cs 17 k) ≠ uidU (rowU cs 17 ((p + 1))) → ∀ j, j < k + 1 → uidU (rowU cs 17 j) ≠ uidU (rowU cs 17 ((p + 1)))) := fun h j hj => by
                  by_cases e : j = k
                  · rw [e]; exact h
                  · exact Hu.out j (by omega)
                clear hck hcq hhk hhq hm' Hu
                generalize uidU (rowU cs 17 k) = U1 at *
                generalize uidU (rowU cs 17 ((p + 1))) = U2 at *
                by_cases he : U1 = U2
                · have Hn := uhide (Hne.out he)
                  have he' : (U1 == U2) = true := by simpa using he
                  clear he Hne Hs
                  go_wp2
                  go_quiet (fail)
                  go_wp2
                  go_ret
                  exact ⟨ret_bool Hn.out.symm, below_drewN hbk.out _⟩
                · have Hn := uhide (Hs.out he)
                  have he' : (U1 == U2) = false := by simpa using he
                  have he2 := uhide he
                  clear he Hne Hs
                  go_wp2
                  go_quiet (fail)
                  go_wp2
                  go_roundw
                  case rel => exact ⟨k + 1, by omega, by go_num, Hn, below_drewN hbk.out _⟩
                  case measure => simp [intOf]; omega
              · have e : k = (p + 1) := by omega
                have Hq := uhide (Hok.out (e ▸ Hu.out))
                have hk' : ¬ ((k : Int) < (((p + 1) : Nat) : Int)) := by omega
                clear Hu
                go_wp2
                go_roundw
                case rel => exact ⟨(p + 1) + 1, by omega, by go_num, Hq, hbk⟩
                case measure => simp [intOf]; omega

    · have e : q = n := by omega
      subst e
      have Hv : Hid (objsB cs q rev next = decide (q ≤ 60)) := objsB_end Ho.out
      clear Ho Hx Ht
      go_wp2
      go_ret
      exact ⟨ret_bool (by rw [Hv.out, Bool.eq_iff_iff]; simp; omega), hbw.out⟩
end Go.Proofs.YtdnodaoeflbfkaaGreat
/- Data as cells: the helpers of the laws over Change. -/
namespace Go.Proofs.YtdnodaoeflbfkaaGreat
open Go.RowKit Go.BigFrame
set_option linter.unusedVariables false

theorem Tryz.rChange_int : (Tryz.prog.underlying 3).map TypeDesc.isRow = some false := by kernel_rfl
theorem Tryz.zChange_int : (Tryz.prog.info? 3).map (·.size) = some 1 := by kernel_rfl
theorem Tryz.rChange_bool : (Tryz.prog.underlying 4).map TypeDesc.isRow = some false := by kernel_rfl
theorem Tryz.zChange_bool : (Tryz.prog.info? 4).map (·.size) = some 1 := by kernel_rfl
theorem Tryz.rChange_laws_Obj : (Tryz.prog.underlying 214).map TypeDesc.isRow = some true := by kernel_rfl
theorem Tryz.zChange_laws_Obj : (Tryz.prog.info? 214).map (·.size) = some 17 := by kernel_rfl
theorem Tryz.rChange_impl_Obj : (Tryz.prog.underlying 138).map TypeDesc.isRow = some true := by kernel_rfl
theorem Tryz.zChange_impl_Obj : (Tryz.prog.info? 138).map (·.size) = some 17 := by kernel_rfl
theorem Tryz.rChange_string : (Tryz.prog.underlying 9).map TypeDesc.isRow = some false := by kernel_rfl
theorem Tryz.zChange_string : (Tryz.prog.info? 9).map (·.size) = some 1 := by kernel_rfl
theorem Tryz.rChange_Lstring : (Tryz.prog.underlying 23).map TypeDesc.isRow = some false := by kernel_rfl
theorem Tryz.zChange_Lstring : (Tryz.prog.info? 23).map (·.size) = some 1 := by kernel_rfl
theorem Tryz.rChange_Limpl_Value : (Tryz.prog.underlying 88).map TypeDesc.isRow = some false := by kernel_rfl
theorem Tryz.zChange_Limpl_Value : (Tryz.prog.info? 88).map (·.size) = some 1 := by kernel_rfl
theorem Tryz.rChange_laws_Change : (Tryz.prog.underlying 217).map TypeDesc.isRow = some true := by kernel_rfl
theorem Tryz.zChange_laws_Change : (Tryz.prog.info? 217).map (·.size) = some 19 := by kernel_rfl
theorem Tryz.rChange_impl_Change : (Tryz.prog.underlying 140).map TypeDesc.isRow = some true := by kernel_rfl
theorem Tryz.zChange_impl_Change : (Tryz.prog.info? 140).map (·.size) = some 19 := by kernel_rfl
end Go.Proofs.YtdnodaoeflbfkaaGreat
/- Data as cells: the helpers of the laws over Change. -/
namespace Go.Proofs.YtdnodaoeflbfkaaGreat
open Go.RowKit Go.BigFrame
set_option linter.unusedVariables false
set_option linter.unusedSimpArgs false

set_option maxRecDepth 20000 in
set_option maxHeartbeats 1600000 in
theorem ueqChange_any {lo hi lo' hi' : Nat} (d : UD) (xs ys : List Value) (w : World) (ht : tyL d (uE 9)) (hx : uH w lo hi d xs) (hy : uH w lo' hi' d ys) :
    Calls Tryz.prog 103 #[.agg xs.toArray, .agg ys.toArray] w fun e w' => e = .returned (.bool true) ∧ Below w.heap.size w w' := by
  replace ht : tyL d [.i .i64, .b, .i .i64, .s, .i .i64, .i .i64, .i .i64, .b, .l 1 0, .i .i64, .s, .i .i64, .l 1 0, .l 5 6, .i .i64, .s, .i .i64, .l 1 0, .l 5 6] := ht
  obtain ⟨z0, _, rfl, g0, h0⟩ := tyL.i ht
  obtain ⟨z1, _, rfl, h1⟩ := tyL.b h0
  clear h0
  obtain ⟨d2, _, rfl, g2, h2⟩ := tyL.split (f1 := uE 8) (f2 := []) h1
  clear h1
  obtain rfl := tyL.nil h2
  clear h2
  obtain ⟨_, rfl, h0⟩ := hx
  obtain ⟨_, rfl, h1⟩ := h0
  obtain ⟨y2, _, rfl, l2, s2, h2⟩ := uH.split h1
  replace l2 : y2.length = 17 := l2.trans (tyL.len g2)
  clear h1
  obtain rfl := h2
  obtain ⟨_, rfl, h0r⟩ := hy
  obtain ⟨_, rfl, h1r⟩ := h0r
  obtain ⟨y2r, _, rfl, l2r, s2r, h2r⟩ := uH.split h1r
  replace l2r : y2r.length = 17 := l2r.trans (tyL.len g2)
  clear h1r
  obtain rfl := h2r
  have HC0 : Hid (∀ wx : World, Below w.heap.size w wx → Calls Tryz.prog 177 #[.agg y2.toArray, .agg y2r.toArray] wx fun e w' => e = .returned (.bool true) ∧ Below wx.heap.size wx w') := fun wx hb => ueqObj_any (lo := lo) (hi := hi) (lo' := lo') (hi' := hi') d2 _ _ wx g2 (s2.below hb) (s2r.below hb)
  have q0 : (z0 != z0) = false := by simp
  have q1 : (z1 != z1) = false := by simp
  have HB : Hid (∀ o o', Below w.heap.size w ((w.alloc o).alloc o')) := fun o o' => ((Below.refl _ _).alloc (Nat.le_refl _) _).alloc (by simp) _
  obtain ⟨AX, hAX⟩ : ∃ AX : List Value, AX = (Value.int .i64 z0 :: (Value.bool z1 :: ((y2 ++ [])))) := ⟨_, rfl⟩
  rw [← hAX]
  have hlen : AX.length = 19 := by rw [hAX]; simp [l2]
  have e0 : AX[0]? = some (.int .i64 z0) := at_mid (i := 0) (pre := (([] : List Value))) (ys := [.int .i64 z0]) (post := (Value.bool z1 :: ((y2 ++ [])))) (by rw [hAX]; simp) (by simp) rfl
  have e1 : AX[1]? = some (.bool z1) := at_mid (i := 0) (pre := ([Value.int .i64 z0])) (ys := [.bool z1]) (post := ((y2 ++ []))) (by rw [hAX]; simp) (by simp) rfl
  have e2 : ∀ i v, y2[i]? = some v → AX[2 + i]? = some v := fun i v h => at_mid (pre := ([Value.int .i64 z0, Value.bool z1])) (ys := y2) (post := []) (by rw [hAX]; simp) (by simp) h
  clear hAX
  have E0 := uhide e0
  clear e0
  have E1 := uhide e1
  clear e1
  have YZ2 : Hid ((Tryz.prog.info? 138).map (·.size) = some y2.length) := by show _ = _; rw [l2]; exact Tryz.zChange_impl_Obj
  have E2 := uhide e2
  clear e2
  obtain ⟨AY, hAY⟩ : ∃ AY : List Value, AY = (Value.int .i64 z0 :: (Value.bool z1 :: ((y2r ++ [])))) := ⟨_, rfl⟩
  rw [← hAY]
  have hlenr : AY.length = 19 := by rw [hAY]; simp [l2r]
  have e0r : AY[0]? = some (.int .i64 z0) := at_mid (i := 0) (pre := (([] : List Value))) (ys := [.int .i64 z0]) (post := (Value.bool z1 :: ((y2r ++ [])))) (by rw [hAY]; simp) (by simp) rfl
  have e1r : AY[1]? = some (.bool z1) := at_mid (i := 0) (pre := ([Value.int .i64 z0])) (ys := [.bool z1]) (post := ((y2r ++ []))) (by rw [hAY]; simp) (by simp) rfl
  have e2r : ∀ i v, y2r[i]? = some v → AY[2 + i]? = some v := fun i v h => at_mid (pre := ([Value.int .i64 z0, Value.bool z1])) (ys := y2r) (post := []) (by rw [hAY]; simp) (by simp) h
  clear hAY
  have Er0 := uhide e0r
  clear e0r
  have Er1 := uhide e1r
  clear e1r
  have YrZ2 : Hid ((Tryz.prog.info? 138).map (·.size) = some y2r.length) := by show _ = _; rw [l2r]; exact Tryz.zChange_impl_Obj
  clear l2 l2r
  have Er2 := uhide e2r
  clear e2r
  have OA0 : Hid (objU ((w.alloc (.cells AX.toArray 140)).alloc (.cells AY.toArray 140)) w.heap.size 140 AX) := (objU.new2 _ _ rfl).old _
  have OB0 : Hid (objU ((w.alloc (.cells AX.toArray 140)).alloc (.cells AY.toArray 140)) (w.heap.size + 1) 140 AY) := objU.new2 _ _ (by simp)
  clear ht g0 g2 s2 s2r
  go_enter Tryz.func103, Tryz.ntmps103
  go_wp2_with (first
    | ((with_reducible refine wpList_load_one ?qqg72 3 ?qqx72 ?qqo72 w.heap.size 0 ?qqh72 (.int .i64 z0) Tryz.rChange_int (OA0.out.cell 0 _ E0.out) ?_); (case qqg72 => rfl); (case qqo72 => rfl); (case qqh72 => simp [Act.eval, Act.put]))
    | ((with_reducible refine wpList_load_one ?qqg73 4 ?qqx73 ?qqo73 w.heap.size 1 ?qqh73 (.bool z1) Tryz.rChange_bool (OA0.out.cell 1 _ E1.out) ?_); (case qqg73 => rfl); (case qqo73 => rfl); (case qqh73 => simp [Act.eval, Act.put]))
    | ((with_reducible refine wpList_load_row2 ?qqg74 138 ?qqx74 ?qqo74 w.heap.size 2 ?qqh74 y2 Tryz.rChange_impl_Obj YZ2.out (OA0.out.range 2 _ E2.out) ?_); (case qqg74 => rfl); (case qqo74 => rfl); (case qqh74 => simp [Act.eval, Act.put]))
    | ((with_reducible refine wpList_load_one ?qqg75 3 ?qqx75 ?qqo75 (w.heap.size + 1) 0 ?qqh75 (.int .i64 z0) Tryz.rChange_int (OB0.out.cell 0 _ Er0.out) ?_); (case qqg75 => rfl); (case qqo75 => rfl); (case qqh75 => simp [Act.eval, Act.put]))
    | ((with_reducible refine wpList_load_one ?qqg76 4 ?qqx76 ?qqo76 (w.heap.size + 1) 1 ?qqh76 (.bool z1) Tryz.rChange_bool (OB0.out.cell 1 _ Er1.out) ?_); (case qqg76 => rfl); (case qqo76 => rfl); (case qqh76 => simp [Act.eval, Act.put]))
    | ((with_reducible refine wpList_load_row2 ?qqg77 138 ?qqx77 ?qqo77 (w.heap.size + 1) 2 ?qqh77 y2r Tryz.rChange_impl_Obj YrZ2.out (OB0.out.range 2 _ Er2.out) ?_); (case qqg77 => rfl); (case qqo77 => rfl); (case qqh77 => simp [Act.eval, Act.put]))
    )
  refine (HC0.out _ (HB.out _ _)).mono ?_
  rintro e w1 ⟨rfl, hb1⟩
  have OA1 := uhide (OA0.out.below hb1)
  have OB1 := uhide (OB0.out.below hb1)
  have B1 : Hid (Below w.heap.size w w1) := (HB.out _ _).trans (hb1.mono (by simp; omega))
  clear hb1 OA0 OB0
  go_wp2
  go_ret
  exact ⟨rfl, B1.out⟩
set_option maxRecDepth 20000 in
set_option maxHeartbeats 1600000 in
theorem ueqChangeS_any {lo hi lo' hi' : Nat} (n : Nat) (cs : UD) (c c' : Value) (w : World) (ht : tyS 19 n cs 9) (hx : uS w lo hi 19 n cs c) (hy : uS w lo' hi' 19 n cs c') :
    Calls Tryz.prog 44 #[c, c'] w fun e w' => e = .returned (.bool true) ∧ Below w.heap.size w w' := by
  obtain ⟨a, cap, rfl, hx2⟩ := hx
  obtain ⟨a', cap', rfl, hy2⟩ := hy
  have Hx : Hid (uS w lo hi 19 n cs (.slice a n cap)) := ⟨a, cap, rfl, hx2⟩
  have Hy : Hid (uS w lo' hi' 19 n cs (.slice a' n cap')) := ⟨a', cap', rfl, hy2⟩
  have hmx := ht.2.2.1
  unfold maxLen at hmx
  have Ht := uhide ht
  have hb0 : ((n : Int) != (n : Int)) = false := by simp
  clear hx2 hy2 ht
  go_enter Tryz.func44, Tryz.ntmps44
  go_wp2
  go_loopw [5] (fun i wr => ∃ (q : Nat), q ≤ n ∧ i = .int .i64 q ∧ Hid (Below w.heap.size w wr)) (fun i _ => n - (intOf i).toNat)
  case atStart => exact ⟨0, Nat.zero_le _, rfl, Below.refl _ _⟩
  case round =>
    obtain ⟨q, hq, rfl, hbw⟩ := hrel
    by_cases hlt : q < n
    · obtain ⟨b, off, rfl, hbb, hm⟩ := (Hx.out.below hbw.out).cells (by omega)
      obtain ⟨b', off', rfl, hbb', hm'⟩ := (Hy.out.below hbw.out).cells (by omega)
      have htr := Ht.out.row hlt
      obtain ⟨xs, hh, hcl⟩ := (hm.row 19 q).hand
      obtain ⟨ys, hh', hcl'⟩ := (hm'.row 19 q).hand
      have hi1 : (Tryz.prog.info? 140).map (·.size) = some xs.length := by rw [hh.len, tyL.len htr]; exact Tryz.zChange_impl_Change
      have hi2 : (Tryz.prog.info? 140).map (·.size) = some ys.length := by rw [hh'.len, tyL.len htr]; exact Tryz.zChange_impl_Change
      have Hcon : Hid (∀ wx, Below wr.heap.size wr wx → Calls Tryz.prog 103 #[.agg xs.toArray, .agg ys.toArray] wx fun e w' => e = .returned (.bool true) ∧ Hid (Below wr.heap.size wr w')) := fun wx hb => (ueqChange_any (lo := lo) (hi := hi) (lo' := lo') (hi' := hi') _ _ _ wx htr (hh.below hb) (hh'.below hb)).mono fun e w' h => ⟨h.1, hb.trans (h.2.mono hb.size)⟩
      have r1 : wr.rangeAt b (off + q * 19) xs := hcl
      have r2 : wr.rangeAt b' (off' + q * 19) ys := hcl'
      have R1 := uhide r1
      have R2 := uhide r2
      clear hcl hcl' hm hm' htr hh hh' Hx Hy Ht
      go_wp2
      refine wp_region_held_drew (S := fun w' => w'.rangeAt b (off + q * 19) xs ∧ w'.rangeAt b' (off' + q * 19) ys) (by kernel_rfl) ⟨(World.rangeAt_drew _ _ _ _).2 R1.out, (World.rangeAt_drew _ _ _ _).2 R2.out⟩ (fun hHeld => ?_)
      refine wpAnyH_take (i := 0) (oi := ⟨some 17, .move (.tmp 0), _, _, _, _⟩) (v := .slice (some ⟨b, off, none⟩) n cap) rfl (by kernel_rfl) (by kernel_rfl) (by kernel_rfl) (fun _ _ _ h => h) (Or.inl ⟨by rfl, by intro w hSw; go_simp⟩) hHeld ?_
      simp only [Act.put, List.setIfInBounds_toArray, List.set_cons_zero, List.set_cons_succ]
      refine wpAnyH_take (i := 1) (oi := ⟨some 18, .move (.tmp 5), _, _, _, _⟩) (v := .int .i64 q) rfl (by kernel_rfl) (by kernel_rfl) (by kernel_rfl) (fun _ _ _ h => h) (Or.inl ⟨by rfl, by intro w hSw; go_simp⟩) hHeld ?_
      simp only [Act.put, List.setIfInBounds_toArray, List.set_cons_zero, List.set_cons_succ]
      refine wpAnyH_take (i := 2) (oi := ⟨some 19, .indexAddr 67 (.tmp 17) (.tmp 18), _, _, _, _⟩) (v := .pointer (some ⟨b, off + q * 19, none⟩)) rfl (by kernel_rfl) (by kernel_rfl) (by kernel_rfl) (fun _ _ _ h => h) (Or.inl ⟨by rfl, by intro w hSw; go_simp⟩) hHeld ?_
      simp only [Act.put, List.setIfInBounds_toArray, List.set_cons_zero, List.set_cons_succ]
      refine wpAnyH_take (i := 3) (oi := ⟨some 20, .load 140 (.tmp 19), _, _, _, _⟩) (v := .agg xs.toArray) rfl (by kernel_rfl) (by kernel_rfl) (by kernel_rfl) (fun _ _ _ h => h) (yieldsIf_load_row (by rfl) 140 _ rfl b (off + q * 19) rfl xs (fun w hS => hS.1) Tryz.rChange_impl_Change hi1) hHeld ?_
      simp only [Act.put, List.setIfInBounds_toArray, List.set_cons_zero, List.set_cons_succ]
      refine wpAnyH_take (i := 4) (oi := ⟨some 21, .move (.tmp 1), _, _, _, _⟩) (v := .slice (some ⟨b', off', none⟩) n cap') rfl (by kernel_rfl) (by kernel_rfl) (by kernel_rfl) (fun _ _ _ h => h) (Or.inl ⟨by rfl, by intro w hSw; go_simp⟩) hHeld ?_
      simp only [Act.put, List.setIfInBounds_toArray, List.set_cons_zero, List.set_cons_succ]
      refine wpAnyH_take (i := 5) (oi := ⟨some 22, .move (.tmp 5), _, _, _, _⟩) (v := .int .i64 q) rfl (by kernel_rfl) (by kernel_rfl) (by kernel_rfl) (fun _ _ _ h => h) (Or.inl ⟨by rfl, by intro w hSw; go_simp⟩) hHeld ?_
      simp only [Act.put, List.setIfInBounds_toArray, List.set_cons_zero, List.set_cons_succ]
      refine wpAnyH_take (i := 6) (oi := ⟨some 23, .indexAddr 67 (.tmp 21) (.tmp 22), _, _, _, _⟩) (v := .pointer (some ⟨b', off' + q * 19, none⟩)) rfl (by kernel_rfl) (by kernel_rfl) (by kernel_rfl) (fun _ _ _ h => h) (Or.inl ⟨by rfl, by intro w hSw; go_simp⟩) hHeld ?_
      simp only [Act.put, List.setIfInBounds_toArray, List.set_cons_zero, List.set_cons_succ]
      refine wpAnyH_take (i := 7) (oi := ⟨some 24, .load 140 (.tmp 23), _, _, _, _⟩) (v := .agg ys.toArray) rfl (by kernel_rfl) (by kernel_rfl) (by kernel_rfl) (fun _ _ _ h => h) (yieldsIf_load_row (by rfl) 140 _ rfl b' (off' + q * 19) rfl ys (fun w hS => hS.2) Tryz.rChange_impl_Change hi2) hHeld ?_
      simp only [Act.put, List.setIfInBounds_toArray, List.set_cons_zero, List.set_cons_succ]
      refine wpAnyH_ready (rs := [8]) (by kernel_rfl) (by simp) (AllReadyH.cons (o := ⟨some 25, .call { callee := .value (.func 103), args := #[.tmp 20, .tmp 24], argTypes := #[140, 140] }, _, _, _, _⟩) rfl (fun K hK => ?_) AllReadyH.nil)
      refine step_call_of rfl 103 #[.tmp 20, .tmp 24] #[140, 140] rfl (callFunc_enter Tryz.func103 (by kernel_rfl) (by kernel_rfl)) #[.agg xs.toArray, .agg ys.toArray] (by simp [Act.eval]) (Hcon.out _ (Below.drew (Below.refl _ _))) ?_
      rintro e w2 ⟨rfl, hb2⟩
      refine ⟨.bool true, rfl, hK.out _ _ ⟨range_below R1.out hb2.out, range_below R2.out hb2.out⟩ (fun hHeld => ?_)⟩
      clear hK K
      simp only [Act.put, List.setIfInBounds_toArray, List.set_cons_zero, List.set_cons_succ]
      refine wpAnyH_take (i := 9) (oi := ⟨some 26, .unOp .not 4 (.tmp 25), _, _, _, _⟩) (v := .bool false) rfl (by kernel_rfl) (by kernel_rfl) (by kernel_rfl) (fun _ _ _ h => h) (Or.inl ⟨by rfl, by intro w hSw; go_simp⟩) hHeld ?_
      simp only [Act.put, List.setIfInBounds_toArray, List.set_cons_zero, List.set_cons_succ]
      refine wpAnyH_done (by kernel_rfl) ?_ _
      clear hHeld
      go_wp2
      go_roundw
      case rel => exact ⟨q + 1, by omega, by go_num, hbw.out.trans (hb2.out.mono hbw.out.size)⟩
      case measure => simp [intOf]; omega
    · have e : q = n := by omega
      subst e
      go_wp2
      go_ret
      exact ⟨rfl, hbw.out⟩
end Go.Proofs.YtdnodaoeflbfkaaGreat
/- Data as cells: the helpers of the laws over Base. -/
namespace Go.Proofs.YtdnodaoeflbfkaaGreat
open Go.RowKit Go.BigFrame
set_option linter.unusedVariables false

theorem Tryz.rBase_Llaws_Obj : (Tryz.prog.underlying 58).map TypeDesc.isRow = some false := by kernel_rfl
theorem Tryz.zBase_Llaws_Obj : (Tryz.prog.info? 58).map (·.size) = some 1 := by kernel_rfl
theorem Tryz.rBase_Limpl_Obj : (Tryz.prog.underlying 63).map TypeDesc.isRow = some false := by kernel_rfl
theorem Tryz.zBase_Limpl_Obj : (Tryz.prog.info? 63).map (·.size) = some 1 := by kernel_rfl
theorem Tryz.rBase_int : (Tryz.prog.underlying 3).map TypeDesc.isRow = some false := by kernel_rfl
theorem Tryz.zBase_int : (Tryz.prog.info? 3).map (·.size) = some 1 := by kernel_rfl
theorem Tryz.rBase_Llaws_Change : (Tryz.prog.underlying 59).map TypeDesc.isRow = some false := by kernel_rfl
theorem Tryz.zBase_Llaws_Change : (Tryz.prog.info? 59).map (·.size) = some 1 := by kernel_rfl
theorem Tryz.rBase_Limpl_Change : (Tryz.prog.underlying 67).map TypeDesc.isRow = some false := by kernel_rfl
theorem Tryz.zBase_Limpl_Change : (Tryz.prog.info? 67).map (·.size) = some 1 := by kernel_rfl
theorem Tryz.rBase_laws_Base : (Tryz.prog.underlying 61).map TypeDesc.isRow = some true := by kernel_rfl
theorem Tryz.zBase_laws_Base : (Tryz.prog.info? 61).map (·.size) = some 4 := by kernel_rfl
theorem Tryz.rBase_impl_Base : (Tryz.prog.underlying 69).map TypeDesc.isRow = some true := by kernel_rfl
theorem Tryz.zBase_impl_Base : (Tryz.prog.info? 69).map (·.size) = some 4 := by kernel_rfl
end Go.Proofs.YtdnodaoeflbfkaaGreat
