/- Queues: the program's QueueOk. -/
import Derived.Test.YtpmhmcekkppbhaaQfG
namespace Go.Proofs.Ytpmhmcekkppbhaa
open Go.RowKit Go.BigFrame Go.Maps
set_option linter.unusedVariables false

theorem qOkP_impl {Q : Qu} : qOkP Q ↔ inB Q.now 0 1000000 = true ∧ isP Q.I 1000064 ∧ isP Q.D 0 ∧ (nmsI Q.I ++ nmsI Q.D).Nodup ∧ Q.A.Nodup ∧ ∀ s ∈ Q.A, s ∈ nmsI Q.D := by
  unfold qOkP isP itOk inB nmsI
  rw [List.map_append]
  simp only [decide_eq_true_eq]
  constructor
  · rintro ⟨h1, h2, h3, h4, h5, h6, h7, h8⟩
    refine ⟨h3, ⟨h1, fun x hx => ?_⟩, ⟨h2, fun x hx => ?_⟩, h6, h7, h8⟩
    · exact h4 x (List.mem_append_left _ hx)
    · have := h4 x (List.mem_append_right _ hx)
      have := h5 x hx
      exact ⟨(h4 x (List.mem_append_right _ hx)).1, by omega, (h4 x (List.mem_append_right _ hx)).2.2⟩
  · rintro ⟨h1, ⟨h2, h3⟩, ⟨h4, h5⟩, h6, h7, h8⟩
    have hz : ∀ x ∈ Q.D, x.2.1 = 0 := fun x hx => by have := (h5 x hx).2.1; omega
    refine ⟨h2, h4, h1, fun x hx => ?_, hz, h6, h7, h8⟩
    · rcases List.mem_append.1 hx with hx | hx
      · exact h3 x hx
      · have := h5 x hx
        exact ⟨this.1, by omega, this.2.2⟩
theorem wp_call {P : Program} {o : Oper} {a : Act} {w : World} {K : Act → World → Prop} {Q : Exit → Act → World → Prop} (f : FuncId) (args : Array Operand) (ts : Array TypeId)
    (ho : o.op = .call { callee := .value (.func f), args := args, argTypes := ts }) (hcf : ∀ xs w, (callFunc f xs).run P w = .ok (.enter f xs) w) (xs : Array Value) (hx : args.map a.eval = xs) {R : Ending → World → Prop} (hc : Calls P f xs w R) (h : ∀ e w', R e w' → ∃ v, e = .returned v ∧ K (a.put o.dst v) w') : Oper.wp P o a w K Q := by
  subst hx
  unfold Oper.wp execOp
  simp only [ho, resolve, invoke, Sem.run_bind]
  have e : (Deferred.ofValue (a.eval (Operand.func f)) (Array.map a.eval args)).run P w = .ok { target := .fn (.func f) #[], args := args.map a.eval } w := by simp [Act.eval, Deferred.ofValue, go_sem]
  rw [e, Result.andThen_ok]
  simp only [Array.append_empty]
  rw [hcf]
  rw [Oper.upon_enter]
  refine hc.mono ?_
  intro e w' hr
  obtain ⟨v, rfl, hk⟩ := h e w' hr
  exact hk
theorem objU.rd1 {w : World} {g : Nat} {t : TypeId} {xs : List Value} (h : objU w g t xs) : rdR w 1 (.slice (some ⟨g, 0, none⟩) xs.length xs.length) (xs.map (fun v => [v])) := by
  refine ⟨_, xs.length, by rw [List.length_map], by rw [List.length_map]; exact Nat.le_refl _, (fun h => by cases h), fun _ => ⟨g, 0, rfl, fun q r j v hq hj => ?_⟩⟩
  rw [List.getElem?_map] at hq
  cases hx : xs[q]? with
  | none => rw [hx] at hq; cases hq
  | some x =>
    rw [hx] at hq
    cases hq
    cases j with
    | zero =>
      cases hj
      have := h.cell q _ hx
      rw [← this]; congr 2; omega
    | succ j => simp at hj
def FH (w0 : World) (Q : Qu) (cI cD : Value) : Nat → (Nat → Nat) → Value → World → Prop
  | 0, γ, v, w => v = .pointer (some ⟨w0.heap.size, 0, none⟩)
  | 1, γ, v, w => v = cI
  | 2, γ, v, w => v = .pointer (some ⟨w0.heap.size, 1, none⟩)
  | 3, γ, v, w => v = cD
  | 4, γ, v, w => ∃ g t, v = .slice (some ⟨g, 0, none⟩) 2 2 ∧ objU w g t [cI, cD]
  | 5, γ, v, w => ∃ b, v = .map (some b) ∧ MS9 w b (nmsI Q.I ++ nmsI Q.D)
  | 6, γ, v, w => ∃ m : Nat, v = .int .i64 m ∧ (m = Q.I.length + Q.D.length ↔ (nmsI Q.I ++ nmsI Q.D).Nodup) ∧ m ≤ 3000000
  | 7, γ, v, w => v = .pointer (some ⟨w0.heap.size, 0, none⟩)
  | 8, γ, v, w => v = cI
  | 9, γ, v, w => v = .int .i64 Q.I.length
  | 10, γ, v, w => v = .pointer (some ⟨w0.heap.size, 1, none⟩)
  | 11, γ, v, w => v = cD
  | 12, γ, v, w => v = .int .i64 Q.D.length
  | 13, γ, v, w => v = .int .i64 ((Q.I.length + Q.D.length : Nat) : Int)
  | 14, γ, v, w => ∃ r : Bool, v = .bool r ∧ (r = false ↔ (nmsI Q.I ++ nmsI Q.D).Nodup)
  | _, _, _, _ => False
set_option maxRecDepth 20000 in
set_option maxHeartbeats 1600000 in
theorem iQueueOk_any (Q : Qu) (xs : List Value) (w : World) (hq : okQ Q) (hx : rdQ w Q xs) :
    Calls Try.prog 36 #[.agg xs.toArray] w fun e w' => e = .returned (.bool (qOk Q)) ∧ Below w.heap.size w w' := by
  obtain ⟨cI, cD, cA, rfl, hI, hD, hA⟩ := hx
  have l3 := hq.2.2.1.1
  have l1 := hq.1.1
  have l2 := hq.2.1.1
  obtain ⟨aI, pI, rfl, -, -⟩ := hI.itS
  obtain ⟨aD, pD, rfl, -, -⟩ := hD.itS
  obtain ⟨aA, pA, rfl, -, -⟩ := hA.stS
  have HI := hide hI
  have HD := hide hD
  have HA := hide hA
  have HK := hide hq
  have HIFF : Hid (qOkP Q ↔ inB Q.now 0 1000000 = true ∧ isP Q.I 1000064 ∧ isP Q.D 0 ∧ (nmsI Q.I ++ nmsI Q.D).Nodup ∧ Q.A.Nodup ∧ ∀ s ∈ Q.A, s ∈ nmsI Q.D) := qOkP_impl
  have Hno0 : Hid (inB Q.now 0 1000000 = false → qOk Q = false) := fun h => qOk_false (fun g => by have := (HIFF.out.1 g).1; rw [h] at this; cases this)
  have HnoI : Hid (isB Q.I 1000064 = false → qOk Q = false) := fun h => qOk_false (fun g => by have := isB_true (HIFF.out.1 g).2.1; rw [h] at this; cases this)
  have HnoD : Hid (isB Q.D 0 = false → qOk Q = false) := fun h => qOk_false (fun g => by have := isB_true (HIFF.out.1 g).2.2.1; rw [h] at this; cases this)
  have HyI : Hid (isB Q.I 1000064 = true → isP Q.I 1000064) := fun h => isB_iff.1 h
  have HyD : Hid (isB Q.D 0 = true → isP Q.D 0) := fun h => isB_iff.1 h
  have HC1 : Hid (∀ wx, Calls Try.prog 61 #[.int .i64 Q.now, .int .i64 1000000] wx fun e w' => e = .returned (.bool (inB Q.now 0 1000000)) ∧ w' = wx) := fun wx => within_any _ _ wx
  have HC2 : Hid (∀ wx, Below w.heap.size w wx → Calls Try.prog 94 #[.slice aI Q.I.length pI, .int .i64 1000064] wx fun e w' => e = .returned (.bool (isB Q.I 1000064)) ∧ Below wx.heap.size wx w') := fun wx hb => itemsOk_any _ _ _ wx (HI.out.below hb) HK.out.1
  have HC3 : Hid (∀ wx, Below w.heap.size w wx → Calls Try.prog 94 #[.slice aD Q.D.length pD, .int .i64 0] wx fun e w' => e = .returned (.bool (isB Q.D 0)) ∧ Below wx.heap.size wx w') := fun wx hb => itemsOk_any _ _ _ wx (HD.out.below hb) HK.out.2.1
  clear hI hD hA hq
  have OX : Hid (objU (w.alloc (.cells #[.slice aI Q.I.length pI, .slice aD Q.D.length pD, .slice aA Q.A.length pA, .int .i64 Q.now] 66)) w.heap.size 66 [.slice aI Q.I.length pI, .slice aD Q.D.length pD, .slice aA Q.A.length pA, .int .i64 Q.now]) := objU.new _ _ _
  have BX : Hid (Below w.heap.size w (w.alloc (.cells #[.slice aI Q.I.length pI, .slice aD Q.D.length pD, .slice aA Q.A.length pA, .int .i64 Q.now] 66))) := below_alloc _ _
  generalize hb0 : inB Q.now 0 1000000 = b0 at *
  generalize hbI : isB Q.I 1000064 = bI at *
  generalize hbD : isB Q.D 0 = bD at *
  have HB0 := hide hb0
  clear hb0 hbI hbD
  go_enter Try.func36, Try.ntmps36
  cases b0 with
  | false =>
    have Hn := hide (Hno0.out rfl)
    clear Hno0 HnoI HnoD HyI HyD HIFF HB0 OX
    go_wp2_with (go_at_call 61; refine (HC1.out _).mono ?_; rintro e w' ⟨rfl, rfl⟩)
    go_ret
    exact ⟨ret_bool Hn.out.symm, BX.out⟩
  | true =>
    go_wp2_with (go_at_call 61; refine (HC1.out _).mono ?_; rintro e w' ⟨rfl, rfl⟩)
    refine (HC2.out _ BX.out).mono ?_
    rintro e w1 ⟨rfl, hb1⟩
    have OX1 := hide (OX.out.below hb1)
    have BX1 : Hid (Below w.heap.size w w1) := BX.out.trans (hb1.mono BX.out.size)
    have x1 := OX1.out.cell 1 _ rfl
    clear OX BX hb1
    cases bI with
    | false =>
      have Hn := hide (HnoI.out rfl)
      clear Hno0 HnoI HnoD HyI HyD HIFF HB0
      go_wp2
      go_ret
      exact ⟨ret_bool Hn.out.symm, BX1.out⟩
    | true =>
      go_wp2_with fail
      refine (HC3.out _ BX1.out).mono ?_
      rintro e w2 ⟨rfl, hb2⟩
      have OX2 := hide (OX1.out.below hb2)
      have BX2 : Hid (Below w.heap.size w w2) := BX1.out.trans (hb2.mono BX1.out.size)
      clear OX1 BX1 hb2 x1
      cases bD with
      | false =>
        have Hn := hide (HnoD.out rfl)
        clear Hno0 HnoI HnoD HyI HyD HIFF HB0
        go_wp2
        go_ret
        exact ⟨ret_bool Hn.out.symm, BX2.out⟩
      | true =>
        have HPI := hide (HyI.out (by first | rfl | trivial))
        have HPD := hide (HyD.out (by first | rfl | trivial))
        clear Hno0 HnoI HnoD HyI HyD HC1 HC2 HC3
        go_wp2
        refine wp_region_inv (fun i a b => Below a.heap.size a b) (fun _ => none) (fun w' => Below w.heap.size w w' ∧ objU w' w.heap.size 66 [.slice aI Q.I.length pI, .slice aD Q.D.length pD, .slice aA Q.A.length pA, .int .i64 Q.now])
          (FH w Q (.slice aI Q.I.length pI) (.slice aD Q.D.length pD)) (by kernel_rfl) (by kernel_rfl) (by kernel_rfl) ?hF ?hU ?hG ?hstep ?hend
        case hF =>
          intro i j γ γ' v w1 w2 hij hsp hnd hsd h hfr
          have ho := hfr.out
          match j, h with
          | 0, h => exact h
          | 1, h => exact h
          | 2, h => exact h
          | 3, h => exact h
          | 7, h => exact h
          | 8, h => exact h
          | 9, h => exact h
          | 10, h => exact h
          | 11, h => exact h
          | 12, h => exact h
          | 13, h => exact h
          | 4, ⟨g, t, h1, h2⟩ => exact ⟨g, t, h1, h2.below ho⟩
          | 5, ⟨b, h1, h2⟩ => exact ⟨b, h1, h2.below ho⟩
          | 6, ⟨m, h1, h2⟩ => exact ⟨m, h1, h2⟩
          | 14, ⟨m, h1, h2⟩ => exact ⟨m, h1, h2⟩
          | j + 15, h => exact h.elim
        case hU =>
          intro i o hi hd γ v w1 h
          match i, hi with
          | 0, hi => (injection hi with hi; subst hi; cases hd)
          | 1, hi => (injection hi with hi; subst hi; cases hd)
          | 2, hi => (injection hi with hi; subst hi; cases hd)
          | 3, hi => (injection hi with hi; subst hi; cases hd)
          | 4, hi => (injection hi with hi; subst hi; cases hd)
          | 5, hi => (injection hi with hi; subst hi; cases hd)
          | 6, hi => (injection hi with hi; subst hi; cases hd)
          | 7, hi => (injection hi with hi; subst hi; cases hd)
          | 8, hi => (injection hi with hi; subst hi; cases hd)
          | 9, hi => (injection hi with hi; subst hi; cases hd)
          | 10, hi => (injection hi with hi; subst hi; cases hd)
          | 11, hi => (injection hi with hi; subst hi; cases hd)
          | 12, hi => (injection hi with hi; subst hi; cases hd)
          | 13, hi => (injection hi with hi; subst hi; cases hd)
          | 14, hi => (injection hi with hi; subst hi; cases hd)
          | i + 15, hi => cases hi
        case hG => exact ⟨Below.drew BX2.out, objU.dr9 OX2.out⟩
        case hstep =>
          intro i o hi
          match i, hi with
          | 0, hi =>
            injection hi with hi; subst hi
            intro a w1 γ hG hK hD K hk
            have e1 := hK.at 1 (by kernel_rfl)
            refine wp_pure (.pointer (some ⟨w.heap.size, 0, none⟩)) ?_ (hk _ _ γ hG (Fr.same (Below.refl _ _)) rfl)
            simp [execOp, Act.eval, e1, go_sem]
          | 1, hi =>
            injection hi with hi; subst hi
            intro a w1 γ hG hK hD K hk
            have d := hD 0 (by decide) (by kernel_rfl) (.inl rfl)
            change a.tmps.getD 22 undef = .pointer (some ⟨w.heap.size, 0, none⟩) at d
            have x0 := hG.2.cell 0 _ rfl
            refine wp_pure _ ?_ (hk _ _ γ hG (Fr.same (Below.refl _ _)) rfl)
            simp [execOp, Act.eval, d, x0, go_sem]
          | 2, hi =>
            injection hi with hi; subst hi
            intro a w1 γ hG hK hD K hk
            have e1 := hK.at 1 (by kernel_rfl)
            refine wp_pure (.pointer (some ⟨w.heap.size, 1, none⟩)) ?_ (hk _ _ γ hG (Fr.same (Below.refl _ _)) rfl)
            simp [execOp, Act.eval, e1, go_sem]
          | 3, hi =>
            injection hi with hi; subst hi
            intro a w1 γ hG hK hD K hk
            have d := hD 0 (by decide) (by kernel_rfl) (.inl rfl)
            change a.tmps.getD 24 undef = .pointer (some ⟨w.heap.size, 1, none⟩) at d
            have x0 := hG.2.cell 1 _ rfl
            refine wp_pure _ ?_ (hk _ _ γ hG (Fr.same (Below.refl _ _)) rfl)
            simp [execOp, Act.eval, d, x0, go_sem]
          | 4, hi =>
            injection hi with hi; subst hi
            intro a w1 γ hG hK hD K hk
            have d0 := hD 0 (by decide) (by kernel_rfl) (.inl rfl)
            have d1 := hD 1 (by decide) (by kernel_rfl) (.inl rfl)
            change a.tmps.getD 23 undef = _ at d0
            change a.tmps.getD 25 undef = _ at d1
            refine wp_val (w' := w1.alloc (.cells #[.slice aI Q.I.length pI, .slice aD Q.D.length pD] 64)) (.slice (some ⟨w1.heap.size, 0, none⟩) 2 2) ?_ (hk _ _ γ ⟨hG.1.alloc hG.1.size _, hG.2.old _⟩ ⟨below_alloc _ _, fun _ _ => rfl⟩ ⟨_, _, rfl, objU.new _ _ _⟩)
            rw [Array.getD_eq_getD_getElem?] at d0 d1
            simp [execOp, Act.eval, d0, d1, go_sem]
          | 5, hi =>
            injection hi with hi; subst hi
            intro a w1 γ hG hK hD K hk
            have d0 := hD 0 (by decide) (by kernel_rfl) (.inl rfl)
            change ∃ g t, a.tmps.getD 26 undef = .slice (some ⟨g, 0, none⟩) 2 2 ∧ objU w1 g t _ at d0
            obtain ⟨g, t, g1, g2⟩ := d0
            refine wp_call 95 #[.tmp 26] _ rfl (callFunc_enter Try.func95 (by kernel_rfl) (by kernel_rfl)) #[.slice (some ⟨g, 0, none⟩) 2 2] (by simp only [List.map_toArray, List.map_cons, List.map_nil]; exact congrArg (fun v => #[v]) g1) (namesOf_any [(.slice aI Q.I.length pI, Q.I), (.slice aD Q.D.length pD, Q.D)] _ w1 (by simp) g2.rd1 (fun p hp => by
              rcases List.mem_cons.1 hp with rfl | hp
              · exact ⟨HI.out.below hG.1, HK.out.1⟩
              · obtain rfl := List.mem_singleton.1 hp
                exact ⟨HD.out.below hG.1, HK.out.2.1⟩)) ?_
            rintro e w' ⟨b, rfl, hm, hle, hb⟩
            refine ⟨_, rfl, hk _ _ γ ⟨hG.1.trans (hb.mono hG.1.size), hG.2.below hb⟩ ⟨hb, fun _ _ => rfl⟩ ⟨b, rfl, ?_⟩⟩
            simpa [nmsV] using hm
          | 6, hi =>
            injection hi with hi; subst hi
            intro a w1 γ hG hK hD K hk
            have d0 := hD 0 (by decide) (by kernel_rfl) (.inl rfl)
            change ∃ b, a.tmps.getD 27 undef = .map (some b) ∧ MS9 w1 b _ at d0
            obtain ⟨b, g1, n, D, hown, hn, h1, h2, h3⟩ := d0
            have hlen : (nmsI Q.I ++ nmsI Q.D).length = Q.I.length + Q.D.length := by rw [List.length_append]; unfold nmsI; rw [List.length_map, List.length_map]
            rw [hlen] at h2 h3
            refine wp_pure (.int .i64 (Maps.size D)) ?_ (hk _ _ γ hG (Fr.same (Below.refl _ _)) ⟨_, rfl, h2, by omega⟩)
            rw [Array.getD_eq_getD_getElem?] at g1
            have hr := fun ty => hown.len undM ty
            simp [execOp, Act.eval, g1, resolve, invoke, builtin, hr, Result.andThen]
          | 7, hi =>
            injection hi with hi; subst hi
            intro a w1 γ hG hK hD K hk
            have e1 := hK.at 1 (by kernel_rfl)
            refine wp_pure (.pointer (some ⟨w.heap.size, 0, none⟩)) ?_ (hk _ _ γ hG (Fr.same (Below.refl _ _)) rfl)
            simp [execOp, Act.eval, e1, go_sem]
          | 8, hi =>
            injection hi with hi; subst hi
            intro a w1 γ hG hK hD K hk
            have d := hD 0 (by decide) (by kernel_rfl) (.inl rfl)
            change a.tmps.getD 29 undef = .pointer (some ⟨w.heap.size, 0, none⟩) at d
            have x0 := hG.2.cell 0 _ rfl
            refine wp_pure _ ?_ (hk _ _ γ hG (Fr.same (Below.refl _ _)) rfl)
            simp [execOp, Act.eval, d, x0, go_sem]
          | 9, hi =>
            injection hi with hi; subst hi
            intro a w1 γ hG hK hD K hk
            have d := hD 0 (by decide) (by kernel_rfl) (.inl rfl)
            change a.tmps.getD 30 undef = _ at d
            refine wp_pure _ ?_ (hk _ _ γ hG (Fr.same (Below.refl _ _)) rfl)
            simp [execOp, Act.eval, d, go_sem]
          | 10, hi =>
            injection hi with hi; subst hi
            intro a w1 γ hG hK hD K hk
            have e1 := hK.at 1 (by kernel_rfl)
            refine wp_pure (.pointer (some ⟨w.heap.size, 1, none⟩)) ?_ (hk _ _ γ hG (Fr.same (Below.refl _ _)) rfl)
            simp [execOp, Act.eval, e1, go_sem]
          | 11, hi =>
            injection hi with hi; subst hi
            intro a w1 γ hG hK hD K hk
            have d := hD 0 (by decide) (by kernel_rfl) (.inl rfl)
            change a.tmps.getD 32 undef = .pointer (some ⟨w.heap.size, 1, none⟩) at d
            have x0 := hG.2.cell 1 _ rfl
            refine wp_pure _ ?_ (hk _ _ γ hG (Fr.same (Below.refl _ _)) rfl)
            simp [execOp, Act.eval, d, x0, go_sem]
          | 12, hi =>
            injection hi with hi; subst hi
            intro a w1 γ hG hK hD K hk
            have d := hD 0 (by decide) (by kernel_rfl) (.inl rfl)
            change a.tmps.getD 33 undef = _ at d
            refine wp_pure _ ?_ (hk _ _ γ hG (Fr.same (Below.refl _ _)) rfl)
            simp [execOp, Act.eval, d, go_sem]
          | 13, hi =>
            injection hi with hi; subst hi
            intro a w1 γ hG hK hD K hk
            have d0 := hD 0 (by decide) (by kernel_rfl) (.inl rfl)
            have d1 := hD 1 (by decide) (by kernel_rfl) (.inl rfl)
            change a.tmps.getD 31 undef = _ at d0
            change a.tmps.getD 34 undef = _ at d1
            have hw : IntKind.i64.wrap ((Q.I.length : Int) + (Q.D.length : Int)) = (Q.I.length : Int) + (Q.D.length : Int) := uwrap64 _ (by omega) (by omega)
            refine wp_pure _ ?_ (hk _ _ γ hG (Fr.same (Below.refl _ _)) rfl)
            rw [Array.getD_eq_getD_getElem?] at d0 d1
            simp [execOp, Act.eval, d0, d1, hw, go_sem]
          | 14, hi =>
            injection hi with hi; subst hi
            intro a w1 γ hG hK hD K hk
            have d0 := hD 0 (by decide) (by kernel_rfl) (.inl rfl)
            have d1 := hD 1 (by decide) (by kernel_rfl) (.inl rfl)
            change ∃ m : Nat, a.tmps.getD 28 undef = .int .i64 m ∧ _ at d0
            change a.tmps.getD 35 undef = _ at d1
            obtain ⟨m, g1, g2, g3⟩ := d0
            refine wp_pure (.bool (((m : Int)) != ((Q.I.length + Q.D.length : Nat) : Int))) ?_ (hk _ _ γ hG (Fr.same (Below.refl _ _)) ⟨_, rfl, ?_⟩)
            · rw [Array.getD_eq_getD_getElem?] at g1 d1
              simp [execOp, Act.eval, g1, d1, go_sem]
            · rw [← g2, bne_eq_false_iff_eq]
              omega
          | i + 15, hi => cases hi
        case hend =>
          intro x w3 γ hG hx
          obtain ⟨r, hr, hnd⟩ : ∃ r : Bool, x 14 = .bool r ∧ (r = false ↔ (nmsI Q.I ++ nmsI Q.D).Nodup) := hx 14 (by decide) rfl
          simp only [putAll, Act.put, List.setIfInBounds_toArray, List.set_cons_zero, List.set_cons_succ, Nat.zero_add, Nat.reduceAdd]
          rw [hr]
          have HB := hide hG.1
          have OB := hide hG.2
          have HND := hide hnd
          clear hG hx hr hnd OX2 BX2
          cases r with
          | true =>
            have Hn : Hid (qOk Q = false) := qOk_false (fun g => by have := HND.out.2 (HIFF.out.1 g).2.2.2.1; cases this)
            clear HIFF HND
            go_wp2
            go_ret
            exact ⟨ret_bool Hn.out.symm, HB.out⟩
          | false =>
            have HN := hide (HND.out.1 rfl)
            clear HND
            have x1 := OB.out.cell 1 _ rfl
            have BXx : Hid (Below w.heap.size w (w3.alloc (.cells #[.slice aD Q.D.length pD] 64))) := HB.out.alloc HB.out.size _
            have OBx : Hid (objU (w3.alloc (.cells #[.slice aD Q.D.length pD] 64)) w.heap.size 66 [.slice aI Q.I.length pI, .slice aD Q.D.length pD, .slice aA Q.A.length pA, .int .i64 Q.now]) := OB.out.old _
            have OGx : Hid (objU (w3.alloc (.cells #[.slice aD Q.D.length pD] 64)) w3.heap.size 64 [.slice aD Q.D.length pD]) := objU.new _ _ _
            go_wp2_with (go_at_call 95; refine (namesOf_any [(.slice aD Q.D.length pD, Q.D)] _ _ (by simp) OGx.out.rd1 (fun p hp => by
              obtain rfl := List.mem_singleton.1 hp
              exact ⟨HD.out.below BXx.out, HK.out.2.1⟩)).mono ?_; rintro e w4 ⟨b, rfl, hm, hle, hb⟩; have OB4 := hide (OBx.out.below hb); have BX4 : Hid (Below w.heap.size w w4) := BXx.out.trans (hb.mono BXx.out.size); have HM : Hid (MS9 w4 b (nmsI Q.D)) := (by simpa [nmsV, Hid] using hm); have HLE : Hid (w.heap.size + 1 ≤ b) := Nat.le_trans OBx.out.lt hle; have z2 := OB4.out.cell 2 _ rfl; clear hm hle hb OBx BXx OGx OB HB)
            have hle := HLE.out
            go_loopw [44] (fun i wr => ∃ (k : Nat), k ≤ Q.A.length ∧ i = .int .i64 k ∧ Hid (DS9 wr b (fun s => s ∈ nmsI Q.D ∧ s ∉ Q.A.take k)) ∧ Hid ((Q.A.take k).Nodup ∧ ∀ s ∈ Q.A.take k, s ∈ nmsI Q.D) ∧ Hid (Below w.heap.size w wr)) (fun i _ => Q.A.length - (intOf i).toNat)
            case atStart => exact ⟨0, Nat.zero_le _, rfl, HM.out.ds.congr (fun s => by simp), by simp [Hid], BX4⟩
            case round =>
              obtain ⟨k, hk, rfl, Hd, Hg, Hb⟩ := hrel
              by_cases hlt : k < Q.A.length
              · obtain ⟨bA, oA, rfl, hbA, ca⟩ := (HA.out.below Hb.out).stAt hlt
                have hsz := HK.out.2.2.1.2 _ (List.getElem_mem hlt)
                have HTk : Hid (Q.A.take (k + 1) = Q.A.take k ++ [Q.A[k]]) := by
                  show _ = _
                  rw [List.take_add_one, List.getElem?_eq_getElem hlt, Option.toList_some]
                have HSp : Hid (Q.A = Q.A.take k ++ (Q.A[k] :: Q.A.drop (k + 1))) := by
                  show _ = _
                  rw [← List.drop_eq_getElem_cons hlt, List.take_append_drop]
                have HDr := hide (drop_any b _ (Q.A[k]) wr hsz Hd.out)
                clear hsz Hd
                generalize Q.A[k] = s at *
                go_wp2_with fail
                refine HDr.out.mono ?_
                rintro e w5 ⟨r, rfl, hr, hd, ho⟩
                have Hr := hide hr
                have HD5 := hide hd
                have Hb5 : Hid (Below w.heap.size w w5) := Hb.out.trans (ho.below (fun t ht => by simp at ht; omega) Hb.out.size)
                clear hr hd ho HDr
                cases r with
                | false =>
                  have Hn : Hid (qOk Q = false) := qOk_false (fun g => by
                    obtain ⟨-, -, -, -, g1, g2⟩ := HIFF.out.1 g
                    have hm : s ∈ Q.A := by rw [HSp.out]; simp
                    have hni : s ∉ Q.A.take k := fun h => by
                      rw [HSp.out] at g1
                      exact (List.nodup_append.1 g1).2.2 s h s (by simp) rfl
                    have := Hr.out.2 ⟨g2 s hm, hni⟩
                    cases this)
                  clear HIFF Hr HD5 HTk HSp Hg
                  go_wp2
                  go_ret
                  exact ⟨ret_bool Hn.out.symm, Hb5.out⟩
                | true =>
                  obtain ⟨g1, g2⟩ := Hr.out.1 (by first | rfl | trivial)
                  have HG2 : Hid ((Q.A.take (k + 1)).Nodup ∧ ∀ s ∈ Q.A.take (k + 1), s ∈ nmsI Q.D) := by
                    show _ ∧ _
                    rw [HTk.out]
                    refine ⟨List.nodup_append.2 ⟨Hg.out.1, by simp, fun a ha b hb e => by simp at hb; exact g2 (by rw [← hb, ← e]; exact ha)⟩, fun t ht => ?_⟩
                    rcases List.mem_append.1 ht with ht | ht
                    · exact Hg.out.2 t ht
                    · simp at ht; rw [ht]; exact g1
                  have HD6 : Hid (DS9 w5 b (fun s => s ∈ nmsI Q.D ∧ s ∉ Q.A.take (k + 1))) := HD5.out.congr (fun t => by
                    rw [HTk.out]
                    simp only [List.mem_append, List.mem_singleton, not_or]
                    exact ⟨fun h => ⟨h.1.1, h.1.2, h.2⟩, fun h => ⟨⟨h.1, h.2.1⟩, h.2.2⟩⟩)
                  clear Hr HD5 HTk HSp Hg g1 g2
                  go_wp2
                  go_roundw
                  case rel => exact ⟨k + 1, by omega, by go_num, HD6, HG2, Hb5⟩
                  case measure => simp [intOf]; omega
              · have e : k = Q.A.length := by omega
                have Hn : Hid (qOk Q = true) := qOk_true (HIFF.out.2 ⟨(by first | exact HB0.out | trivial), HPI.out, HPD.out, HN.out, by have := Hg.out; rw [e, List.take_length] at this; exact this⟩)
                clear Hd Hg HIFF
                subst e
                go_wp2
                go_ret
                exact ⟨ret_bool Hn.out.symm, Hb.out⟩
end Go.Proofs.Ytpmhmcekkppbhaa
