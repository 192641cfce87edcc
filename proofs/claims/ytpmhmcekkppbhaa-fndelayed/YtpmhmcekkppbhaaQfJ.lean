/- Queues: the program's add. -/
import Derived.Test.YtpmhmcekkppbhaaQfI
namespace Go.Proofs.Ytpmhmcekkppbhaa
open Go.RowKit Go.BigFrame
set_option linter.unusedVariables false

/-- a queue in a block of its own, its lists too -/
structure QB (w : World) (b base : Nat) (Q : Qu) (vI vD vA : Value) : Prop where
  o : objU w b 66 [vI, vD, vA, .int .i64 Q.now]
  q : ownQ w base Q vI vD vA
  ni : b ∉ blkOf vI
  nd : b ∉ blkOf vD
  na : b ∉ blkOf vA
theorem QB.below {w w' : World} {b base : Nat} {Q : Qu} {vI vD vA : Value} (h : QB w b base Q vI vD vA) (hb : Below w.heap.size w w') : QB w' b base Q vI vD vA := ⟨h.o.below hb, h.q.below hb, h.ni, h.nd, h.na⟩
theorem QB.lt {w : World} {b base : Nat} {Q : Qu} {vI vD vA : Value} (h : QB w b base Q vI vD vA) : b < w.heap.size := h.o.lt
def FJ (w0 : World) (b base : Nat) (Q : Qu) (x : It) (vI vD vA : Value) : Nat → (Nat → Nat) → Value → World → Prop
  | 0, γ, v, w => v = .pointer (some ⟨b, 0, none⟩)
  | 1, γ, v, w => v = .pointer (some ⟨b, 0, none⟩)
  | 2, γ, v, w => v = .pointer (some ⟨b, 0, none⟩)
  | 3, γ, v, w => v = .pointer (some ⟨b, 0, none⟩)
  | 4, γ, v, w => v = vI
  | 5, γ, v, w => v = .agg #[.string x.1, .int .i64 x.2.1, .int .i64 x.2.2]
  | 6, γ, v, w => ∃ g t, v = .slice (some ⟨g, 0, none⟩) 1 1 ∧ objU w g t (encI x) ∧ g ≠ b
  | 7, γ, v, w => ownR w base 75 3 v ((Q.I ++ [x]).map encI) ∧ b ∉ blkOf v ∧ (∀ g ∈ blkOf v, g ∉ blkOf vD) ∧ ∀ g ∈ blkOf v, g ∉ blkOf vA
  | 8, γ, v, w => v = .pointer (some ⟨b, 0, none⟩)
  | 9, γ, v, w => v = .pointer (some ⟨b, 0, none⟩)
  | 10, γ, v, w => ∃ vI', QB w b base { Q with I := Q.I ++ [x] } vI' vD vA
  | _, _, _, _ => False
structure GJ (w0 : World) (b base : Nat) (Q : Qu) (x : It) (vI vD vA : Value) (c : Bool) (w : World) : Prop where
  bel : Below base w0 w
  size : w0.heap.size < w.heap.size
  box : c = false → objU w b 66 [vI, vD, vA, .int .i64 Q.now] ∧ ownR w base 75 3 vI (Q.I.map encI)
  bx2 : ∃ u, objU w b 66 [u, vD, vA, .int .i64 Q.now]
  d : ownR w base 75 3 vD (Q.D.map encI)
  a : ownR w base 9 1 vA (Q.A.map encS)
  it : objU w w0.heap.size 75 (encI x)
theorem GJ.below {w0 w w' : World} {b base : Nat} {Q : Qu} {x : It} {vI vD vA : Value} {c : Bool} (h : GJ w0 b base Q x vI vD vA c w) (hs : base ≤ w0.heap.size) (hb : Below w.heap.size w w') : GJ w0 b base Q x vI vD vA c w' :=
  ⟨h.bel.trans (hb.mono (by have := h.size; omega)), by have := h.size; have := hb.size; omega, fun e => ⟨(h.box e).1.below hb, (h.box e).2.below hb⟩, by obtain ⟨u, hu⟩ := h.bx2; exact ⟨u, hu.below hb⟩, h.d.below hb, h.a.below hb, h.it.below hb⟩
set_option maxRecDepth 20000 in
set_option maxHeartbeats 1600000 in
theorem add_any (Q : Qu) (x : It) (b base : Nat) (vI vD vA : Value) (w : World) (hq : okIs Q.I) (h : QB w b base Q vI vD vA) (hbase : base ≤ b) :
    Calls Try.prog 135 #[.pointer (some ⟨b, 0, none⟩), .agg #[.string x.1, .int .i64 x.2.1, .int .i64 x.2.2]] w fun e w' => ∃ vI', e = .returned (.bool (!decide (Q.I.length = 60))) ∧ QB w' b base (addQ Q x) vI' vD vA ∧ Below base w w' := by
  obtain ⟨aI, pI, rfl⟩ := h.q.i.itS
  have H := hide h
  have hlq := hq.1
  have hbl := h.lt
  have x0 := h.o.cell 0 _ rfl
  clear h hq
  by_cases h60 : Q.I.length = 60
  · have hi60 : (Q.I.length : Int) = 60 := by omega
    have Hn : Hid (addQ Q x = Q) := if_pos h60
    have Hb : Hid ((!decide (Q.I.length = 60)) = false) := by show _ = _; rw [decide_eq_true h60]; rfl
    go_enter Try.func135, Try.ntmps135
    go_wp2
    go_ret
    exact ⟨_, ret_bool Hb.out.symm, by rw [Hn.out]; exact H.out.below (below_alloc _ _), (below_alloc _ _).mono (by omega)⟩
  · have hi60 : ¬ (Q.I.length : Int) = 60 := by omega
    have Hn : Hid (addQ Q x = { Q with I := Q.I ++ [x] }) := if_neg h60
    have Hb : Hid ((!decide (Q.I.length = 60)) = true) := by show _ = _; rw [decide_eq_false h60]; rfl
    have HE := hide elI
    have hb60 : ((Q.I.length : Int) == 60) = false := by rw [beq_eq_false_iff_ne]; exact hi60
    go_enter Try.func135, Try.ntmps135
    go_wp2
    refine wp_region_inv2 (fun i => if i = 7 then OutS (blkOf (.slice aI Q.I.length pI)) else if i = 10 then OutS [b] else fun u v => Below u.heap.size u v) (fun j => if j = 6 then some 7 else none) 7 (by decide)
      (GJ w b base Q x (.slice aI Q.I.length pI) vD vA) (FJ w b base Q x (.slice aI Q.I.length pI) vD vA) (by kernel_rfl) (by kernel_rfl) (by kernel_rfl) ?hF ?hU ?hG ?hstep ?hend
    case hF =>
      intro i j γ γ' v w1 w2 hij hsp hnd hsd h hfr
      have ho := hfr.out
      match j, h with
      | 0, h => exact h
      | 1, h => exact h
      | 2, h => exact h
      | 3, h => exact h
      | 4, h => exact h
      | 5, h => exact h
      | 6, ⟨g, t, h1, h2, h3⟩ =>
        rw [if_neg (fun e => hsp (by simp [e]))] at ho
        by_cases e10 : i = 10
        · rw [if_pos e10] at ho
          exact ⟨g, t, h1, h2.outS ho (by simpa using h3), h3⟩
        · rw [if_neg e10] at ho
          exact ⟨g, t, h1, h2.below ho, h3⟩
      | 7, ⟨h1, h2⟩ =>
        rw [if_neg hij] at ho
        by_cases e10 : i = 10
        · rw [if_pos e10] at ho
          exact ⟨h1.frame (fun g hg => ho.block g (h1.lt g hg).2 (fun hh => h2.1 (by simp at hh; exact hh ▸ hg))), h2⟩
        · rw [if_neg e10] at ho
          exact ⟨h1.below ho, h2⟩
      | 8, h => exact h
      | 9, h => exact h
      | 10, ⟨v', h⟩ =>
        by_cases e7 : i = 7
        · subst e7; cases (hnd.symm.trans (by kernel_rfl) : false = true)
        · rw [if_neg e7, if_neg hij] at ho
          exact ⟨v', h.below ho⟩
      | j + 11, h => exact h.elim
    case hU =>
      intro i o hi hd γ v w1 h
      match i, hi with
      | 0, hi => (injection hi with hi; subst hi; cases hd)
      | 1, hi => (injection hi with hi; subst hi; cases hd)
      | 2, hi => (injection hi with hi; subst hi; cases hd)
      | 3, hi => (injection hi with hi; subst hi; cases hd)
      | 4, hi => (injection hi with hi; subst hi; cases hd)
      | 5, hi => (injection hi with hi; subst hi; cases hd)
      | 6, hi => (injection hi with hi; subst hi; cases hd)
      | 7, hi => (injection hi with hi; subst hi; cases hd)
      | 8, hi => (injection hi with hi; subst hi; cases hd)
      | 9, hi => (injection hi with hi; subst hi; cases hd)
      | 10, hi => exact h
      | i + 11, hi => cases hi
    case hG =>
      obtain ⟨h1, h2, h3, h4, h5⟩ := H.out
      exact ⟨Below.drew ((Below.refl _ _).alloc (by omega) _), by simp, fun _ => ⟨objU.dr9 (h1.old _), ownR.below h2.i (Below.drew (below_alloc _ _))⟩, ⟨_, objU.dr9 (h1.old _)⟩, ownR.below h2.d (Below.drew (below_alloc _ _)), ownR.below h2.a (Below.drew (below_alloc _ _)), objU.dr9 (objU.new _ _ _)⟩
    case hstep =>
      intro i o hi
      match i, hi with
      | 0, hi =>
        injection hi with hi; subst hi
        intro c a w1 γ hc0 hc1 hG hK hD K hk
        have e1 := hK.at 0 (by kernel_rfl)
        refine wp_pure (.pointer (some ⟨b, 0, none⟩)) ?_ (hk _ _ γ hG (Fr.same (Below.refl _ _)) rfl)
        simp [execOp, Act.eval, e1, go_sem]
      | 1, hi =>
        injection hi with hi; subst hi
        intro c a w1 γ hc0 hc1 hG hK hD K hk
        have e1 := hK.at 0 (by kernel_rfl)
        refine wp_pure (.pointer (some ⟨b, 0, none⟩)) ?_ (hk _ _ γ hG (Fr.same (Below.refl _ _)) rfl)
        simp [execOp, Act.eval, e1, go_sem]
      | 2, hi =>
        injection hi with hi; subst hi
        intro c a w1 γ hc0 hc1 hG hK hD K hk
        have d := hD 0 (by decide) (by kernel_rfl) (.inl rfl)
        change a.tmps.getD 12 undef = .pointer (some ⟨b, 0, none⟩) at d
        refine wp_pure (.pointer (some ⟨b, 0, none⟩)) ?_ (hk _ _ γ hG (Fr.same (Below.refl _ _)) rfl)
        simp [execOp, Act.eval, d, go_sem]
      | 3, hi =>
        injection hi with hi; subst hi
        intro c a w1 γ hc0 hc1 hG hK hD K hk
        have d := hD 0 (by decide) (by kernel_rfl) (.inl rfl)
        change a.tmps.getD 13 undef = .pointer (some ⟨b, 0, none⟩) at d
        refine wp_pure (.pointer (some ⟨b, 0, none⟩)) ?_ (hk _ _ γ hG (Fr.same (Below.refl _ _)) rfl)
        simp [execOp, Act.eval, d, go_sem]
      | 4, hi =>
        injection hi with hi; subst hi
        intro c a w1 γ hc0 hc1 hG hK hD K hk
        have d := hD 0 (by decide) (by kernel_rfl) (.inl rfl)
        change a.tmps.getD 14 undef = .pointer (some ⟨b, 0, none⟩) at d
        have hc := hc0 (.inl (by kernel_rfl))
        have x0 := (hG.box hc).1.cell 0 _ rfl
        refine wp_pure _ ?_ (hk _ _ γ hG (Fr.same (Below.refl _ _)) rfl)
        simp [execOp, Act.eval, d, x0, go_sem]
      | 5, hi =>
        injection hi with hi; subst hi
        intro c a w1 γ hc0 hc1 hG hK hD K hk
        have e1 := hK.at 3 (by kernel_rfl)
        have y0 := hG.it.cell 0 _ rfl
        have y1 := hG.it.cell 1 _ rfl
        have y2 := hG.it.cell 2 _ rfl
        refine wp_pure (.agg #[.string x.1, .int .i64 x.2.1, .int .i64 x.2.2]) ?_ (hk _ _ γ hG (Fr.same (Below.refl _ _)) rfl)
        simp [execOp, Act.eval, e1, y0, y1, y2, go_sem]
      | 6, hi =>
        injection hi with hi; subst hi
        intro c a w1 γ hc0 hc1 hG hK hD K hk
        have d := hD 0 (by decide) (by kernel_rfl) (.inl rfl)
        change a.tmps.getD 16 undef = _ at d
        refine wp_val (w' := w1.alloc (.cells #[.string x.1, .int .i64 x.2.1, .int .i64 x.2.2] 75)) (.slice (some ⟨w1.heap.size, 0, none⟩) 1 1) ?_ (hk _ _ γ (hG.below (by omega) (below_alloc _ _)) ⟨below_alloc _ _, fun _ _ => rfl⟩ ⟨_, _, rfl, objU.new _ _ _, by have := hG.size; omega⟩)
        rw [Array.getD_eq_getD_getElem?] at d
        simp [execOp, Act.eval, d, go_sem]
      | 7, hi =>
        injection hi with hi; subst hi
        intro c a w1 γ hc0 hc1 hG hK hD K hk
        have d0 := hD 0 (by decide) (by kernel_rfl) (.inl rfl)
        change a.tmps.getD 15 undef = _ at d0
        have d1 := hD 1 (by decide) (by kernel_rfl) (.inr (.inl rfl))
        change ∃ g t, a.tmps.getD 17 undef = .slice (some ⟨g, 0, none⟩) 1 1 ∧ objU w1 g t (encI x) ∧ g ≠ b at d1
        obtain ⟨g, t, g1, g2, g3⟩ := d1
        have hc := hc0 (.inr rfl)
        obtain ⟨hbx, hoI⟩ := hG.box hc
        obtain ⟨v', w', r1, r2, r3, r4⟩ := run_append_rd HE.out (by decide) 64 base _ _ hoI _ _ (rdR.one g2) (rowsI [x]) (oneI [x]) (by simp; omega) (by have := hG.size; omega)
        have hO : OutS (blkOf (.slice aI Q.I.length pI)) w1 w' := ⟨r3.os, r3.tape, r3.output, r3.size, fun k hk hn => r3.block k hk (fun e => hn (blk_own.2 e.symm))⟩
        have hne : ∀ (v : Value) (e : TypeId) (k : Nat) (R : List (List Value)), ownR w1 base e k v R → (∀ g ∈ blkOf (.slice aI Q.I.length pI), g ∉ blkOf v) → ∀ g ∈ blkOf v', g ∉ blkOf v := fun v e k R hv hd g hg hh => by
          rw [blk_own] at hg
          rcases r4 with e | e
          · rw [e] at hg; exact hd g (blk_own.2 hg) hh
          · rw [e] at hg; cases hg; have := (hv.lt _ hh).2; omega
        have hbn : b ∉ blkOf v' := fun hg => by
          rw [blk_own] at hg
          rcases r4 with e | e
          · rw [e] at hg; exact H.out.ni (blk_own.2 hg)
          · rw [e] at hg; cases hg; have := hG.size; omega
        have hkd : ∀ (v : Value) (e : TypeId) (k : Nat) (R : List (List Value)), ownR w1 base e k v R → (∀ g ∈ blkOf (.slice aI Q.I.length pI), g ∉ blkOf v) → ownR w' base e k v R := fun v e k R hv hd => hv.frame (fun g hg => hO.block g (hv.lt g hg).2 (fun hh => hd g hh hg))
        have hobj : ∀ (g : Nat) (t : TypeId) (xs : List Value), objU w1 g t xs → g ∉ blkOf (.slice aI Q.I.length pI) → objU w' g t xs := fun g t xs ho hn => ho.outS hO hn
        refine wp_val v' ?_ (hk _ _ γ ⟨hG.bel.trans (hO.below (fun t ht => (hoI.lt t ht).1) (by have := hG.size; omega)), Nat.lt_of_lt_of_le hG.size hO.size, (fun e => by cases e), ⟨_, hobj _ _ _ hbx H.out.ni⟩, hkd _ _ _ _ hG.d H.out.q.id, hkd _ _ _ _ hG.a H.out.q.ia, hobj _ _ _ hG.it (fun hh => by have := H.out.q.i.lt _ hh; omega)⟩ ⟨hO, fun _ _ => rfl⟩ ⟨by rw [List.map_append]; exact r2, hbn, hne _ _ _ _ hG.d H.out.q.id, hne _ _ _ _ hG.a H.out.q.ia⟩)
        exact append_run (.tmp 15) (.tmp 17) 64 rfl d0 g1 r1
      | 8, hi =>
        injection hi with hi; subst hi
        intro c a w1 γ hc0 hc1 hG hK hD K hk
        have d := hD 0 (by decide) (by kernel_rfl) (.inl rfl)
        change a.tmps.getD 11 undef = .pointer (some ⟨b, 0, none⟩) at d
        refine wp_pure (.pointer (some ⟨b, 0, none⟩)) ?_ (hk _ _ γ hG (Fr.same (Below.refl _ _)) rfl)
        simp [execOp, Act.eval, d, go_sem]
      | 9, hi =>
        injection hi with hi; subst hi
        intro c a w1 γ hc0 hc1 hG hK hD K hk
        have d := hD 0 (by decide) (by kernel_rfl) (.inl rfl)
        change a.tmps.getD 19 undef = .pointer (some ⟨b, 0, none⟩) at d
        refine wp_pure (.pointer (some ⟨b, 0, none⟩)) ?_ (hk _ _ γ hG (Fr.same (Below.refl _ _)) rfl)
        simp [execOp, Act.eval, d, go_sem]
      | 10, hi =>
        injection hi with hi; subst hi
        intro c a w1 γ hc0 hc1 hG hK hD K hk
        have d0 := hD 0 (by decide) (by kernel_rfl) (.inl rfl)
        have d1 := hD 1 (by decide) (by kernel_rfl) (.inl rfl)
        change a.tmps.getD 20 undef = .pointer (some ⟨b, 0, none⟩) at d0
        change ownR w1 base _ 3 (a.tmps.getD 18 undef) ((Q.I ++ [x]).map encI) ∧ b ∉ blkOf (a.tmps.getD 18 undef) ∧ (∀ g ∈ blkOf (a.tmps.getD 18 undef), g ∉ blkOf vD) ∧ ∀ g ∈ blkOf (a.tmps.getD 18 undef), g ∉ blkOf vA at d1
        obtain ⟨k1, k2, k3, k4⟩ := d1
        have hc := hc1 (by kernel_rfl)
        obtain ⟨u, hu⟩ := hG.bx2
        obtain ⟨a3, p3, e3⟩ := k1.itS
        have h1c : (a.tmps.getD 18 undef).oneCell' = true := by rw [e3]; rfl
        have hO : OutS [b] w1 (w1.setCells b 0 [a.tmps.getD 18 undef]) := OutS.setCells _ _ _
        have hS := objU.setCells [a.tmps.getD 18 undef] [u] [] [vD, vA, .int .i64 Q.now] w1 hu rfl
        have hfr : ∀ (v : Value) (e : TypeId) (k : Nat) (R : List (List Value)), ownR w1 base e k v R → b ∉ blkOf v → ownR (w1.setCells b 0 [a.tmps.getD 18 undef]) base e k v R := fun v e k R hv hn => hv.frame (fun g hg => hO.block g (hv.lt g hg).2 (fun hh => hn (by simp at hh; exact hh ▸ hg)))
        refine wp_skip ?_ (hk undef _ γ ⟨hG.bel.trans (hO.below (fun t ht => by simp at ht; omega) (by have := hG.size; omega)), Nat.lt_of_lt_of_le hG.size hO.size, (fun e => by rw [hc] at e; cases e), ⟨_, hS⟩, hfr _ _ _ _ hG.d H.out.nd, hfr _ _ _ _ hG.a H.out.na, hG.it.outS hO (by simp; omega)⟩ ⟨hO, fun _ _ => rfl⟩ ⟨_, hS, ⟨hfr _ _ _ _ k1 k2, hfr _ _ _ _ hG.d H.out.nd, hfr _ _ _ _ hG.a H.out.na, k3, k4, H.out.q.da⟩, k2, H.out.nd, H.out.na⟩)
        exact store_run 64 (.tmp 20) (.tmp 18) rfl d0 rfl [a.tmps.getD 18 undef] (cells_one h1c) (one1 h1c) (by kernel_rfl) (hu.there 0 1 (by simp))
      | i + 11, hi => cases hi
    case hend =>
      intro x w3 γ hG hx
      obtain ⟨vI', hQB⟩ := hx 10 (by decide) rfl
      have hbel := hG.bel
      simp only [putAll, Act.put, List.setIfInBounds_toArray, List.set_cons_zero, List.set_cons_succ, Nat.zero_add, Nat.reduceAdd]
      have HQ := hide hQB
      have HB := hide hbel
      clear hQB hbel hx hG
      go_wp2
      go_ret
      exact ⟨vI', ret_bool Hb.out.symm, by rw [Hn.out]; exact HQ.out, HB.out⟩
end Go.Proofs.Ytpmhmcekkppbhaa
