/- A queue copied by the specification: spec.l9Copy. -/
import Derived.Test.YtpmhmcekkppbhaaQfC
import Derived.Test.YtpmhmcekkppbhaaRgA
import Derived.Test.YtpmhmcekkppbhaaUFQueue
namespace Go.Proofs.Ytpmhmcekkppbhaa
open Go.RowKit Go.BigFrame
set_option linter.unusedVariables false

def G9 (w0 : World) (T : TypeId) (XS : List Value) (w : World) : Prop := Below w0.heap.size w0 w ∧ objU w w0.heap.size T XS ∧ ∃ zs : List Value, zs.length = 4 ∧ objU w (w0.heap.size + 1) T zs
def F9 (w0 : World) (T tI tS : TypeId) (Q : Qu) (cI cD cA : Value) : Nat → (Nat → Nat) → Value → World → Prop
  | 0, γ, v, w => ∃ g, v = .slice (some ⟨g, 0, none⟩) 0 0 ∧ ownR w (w0.heap.size + 2) tI 3 v [] ∧ γ g = 0
  | 1, γ, v, w => v = .pointer (some ⟨w0.heap.size, 0, none⟩)
  | 2, γ, v, w => v = cI
  | 3, γ, v, w => ownR w (w0.heap.size + 2) tI 3 v (Q.I.map encI) ∧ ∀ g ∈ blkOf v, γ g = 0
  | 4, γ, v, w => ∃ g, v = .slice (some ⟨g, 0, none⟩) 0 0 ∧ ownR w (w0.heap.size + 2) tI 3 v [] ∧ γ g = 1
  | 5, γ, v, w => v = .pointer (some ⟨w0.heap.size, 1, none⟩)
  | 6, γ, v, w => v = cD
  | 7, γ, v, w => ownR w (w0.heap.size + 2) tI 3 v (Q.D.map encI) ∧ ∀ g ∈ blkOf v, γ g = 1
  | 8, γ, v, w => ∃ g, v = .slice (some ⟨g, 0, none⟩) 0 0 ∧ ownR w (w0.heap.size + 2) tS 1 v [] ∧ γ g = 2
  | 9, γ, v, w => v = .pointer (some ⟨w0.heap.size, 2, none⟩)
  | 10, γ, v, w => v = cA
  | 11, γ, v, w => ownR w (w0.heap.size + 2) tS 1 v (Q.A.map encS) ∧ ∀ g ∈ blkOf v, γ g = 2
  | 12, γ, v, w => v = .pointer (some ⟨w0.heap.size, 3, none⟩)
  | 13, γ, v, w => v = .int .i64 Q.now
  | 14, γ, v, w => ∃ vI vD vA, v = .agg #[vI, vD, vA, .int .i64 Q.now] ∧ QO w (w0.heap.size + 2) tI tS Q vI vD vA
  | 15, γ, v, w => ∃ vI vD vA, objU w (w0.heap.size + 1) T [vI, vD, vA, .int .i64 Q.now] ∧ QO w (w0.heap.size + 2) tI tS Q vI vD vA
  | _, _, _, _ => False
theorem ownR.fr {w w' : World} {base : Nat} {e : TypeId} {k : Nat} {v : Value} {R : List (List Value)} {T : List Nat} (h : ownR w base e k v R) (ho : OutS T w w') (hT : ∀ t ∈ T, t < base) : ownR w' base e k v R :=
  h.frame (fun g hg => ho.block g (h.lt g hg).2 (fun hh => by have := hT g hh; have := (h.lt g hg).1; omega))
theorem objU.dr9 {w : World} {b : Nat} {t : TypeId} {xs : List Value} (h : objU w b t xs) : objU w.drew b t xs := h
theorem ownR.lit (w : World) (base : Nat) (e : TypeId) (k : Nat) (hb : base ≤ w.heap.size) : ownR (w.alloc (.cells #[] e)) base e k (.slice (some ⟨w.heap.size, 0, none⟩) 0 0) [] := ⟨(fun r hr => by cases hr), World.ownsRow_lit w #[] 0 hb (by decide) (by simp)⟩
theorem G9.size {w0 w : World} {T : TypeId} {XS : List Value} (h : G9 w0 T XS w) : w0.heap.size + 2 ≤ w.heap.size := by
  obtain ⟨_, _, zs, _, h⟩ := h; exact h.lt
theorem G9.below {w0 w w' : World} {T : TypeId} {XS : List Value} (h : G9 w0 T XS w) (hb : Below w.heap.size w w') : G9 w0 T XS w' := by
  obtain ⟨h1, h2, zs, h3, h4⟩ := h
  exact ⟨h1.trans (hb.mono h1.size), h2.below hb, zs, h3, h4.below hb⟩
theorem G9.alloc {w0 w : World} {T : TypeId} {XS : List Value} (h : G9 w0 T XS w) (o : Obj) : G9 w0 T XS (w.alloc o) := h.below ((Below.refl _ _).alloc (Nat.le_refl _) _)
theorem own_new {v : Value} {g N c : Nat} {γ : Nat → Nat} (h : v.ownBlock = some g ∨ v.ownBlock = some N) (hlt : g < N) (hc : γ g = c) : ∀ x ∈ blkOf v, (fun x => if x = N then c else γ x) x = c := fun x hx => by
  rw [blk_own] at hx
  show (if x = N then c else γ x) = c
  rcases h with h | h
  · rw [h] at hx; cases hx
    rw [if_neg (by omega)]; exact hc
  · rw [h] at hx; cases hx
    exact if_pos rfl
set_option maxRecDepth 20000 in
set_option maxHeartbeats 1600000 in
theorem l9Copy_N (Q : Qu) (xs : List Value) (w : World) (hq : okQ Q) (hx : rdQ w Q xs) :
    Calls Try.prog 92 #[.agg xs.toArray] w fun e w' => ∃ vI vD vA, e = .returned (.agg #[vI, vD, vA, .int .i64 Q.now]) ∧ ownQ w' w.heap.size Q vI vD vA ∧ Below w.heap.size w w' := by
  obtain ⟨cI, cD, cA, rfl, hI, hD, hA⟩ := hx
  have l1 := hq.1.1
  have l2 := hq.2.1.1
  have l3 := hq.2.2.1.1
  obtain ⟨aI, pI, rfl, -, -⟩ := hI.itS
  obtain ⟨aD, pD, rfl, -, -⟩ := hD.itS
  obtain ⟨aA, pA, rfl, -, -⟩ := hA.stS
  have HI := hide hI
  have HD := hide hD
  have HA := hide hA
  have L1 := hide l1
  have L2 := hide l2
  have L3 := hide l3
  clear hI hD hA hq l1 l2 l3
  have HEI := hide elI
  have HES := hide elS
  go_enter Try.func92, Try.ntmps92
  go_wp2
  refine wp_region_inv (fun i => OutS (if i = 15 then [w.heap.size + 1] else [])) (fun _ => none) (G9 w 66 [.slice aI Q.I.length pI, .slice aD Q.D.length pD, .slice aA Q.A.length pA, .int .i64 Q.now])
    (F9 w 66 75 9 Q (.slice aI Q.I.length pI) (.slice aD Q.D.length pD) (.slice aA Q.A.length pA)) (by kernel_rfl) (by kernel_rfl) (by kernel_rfl) ?hF ?hU ?hG ?hstep ?hend
  case hF =>
    intro i j γ γ' v w1 w2 hij _ _ _ h hfr
    have ho := hfr.out
    have hT : ∀ t ∈ (if i = 15 then [w.heap.size + 1] else []), t < w.heap.size + 2 := fun t ht => by split at ht <;> simp at ht; omega
    have hz : ∀ (vz cs : Value) (g : Nat) (e : TypeId) (k : Nat) (m : Nat), vz = .slice (some ⟨g, 0, none⟩) 0 0 → ownR w1 (w.heap.size + 2) e k vz [] → γ g = m → γ' g = m := fun vz cs g e k m hv h1 h2 => by
      rw [hfr.own g (h1.lt g (by rw [hv]; simp [blkOf, Value.ownBlock])).2]; exact h2
    have hb : ∀ (vz : Value) (R : List (List Value)) (e : TypeId) (k : Nat) (m : Nat), ownR w1 (w.heap.size + 2) e k vz R → (∀ g ∈ blkOf vz, γ g = m) → ∀ g ∈ blkOf vz, γ' g = m := fun vz R e k m h1 h2 g hg => by
      rw [hfr.own g (h1.lt g hg).2]; exact h2 g hg
    match j, h with
    | 0, ⟨g, h1, h2, h3⟩ => exact ⟨g, h1, h2.fr ho hT, hz v v g _ _ _ h1 h2 h3⟩
    | 1, h => exact h
    | 2, h => exact h
    | 3, ⟨h1, h2⟩ => exact ⟨h1.fr ho hT, hb _ _ _ _ _ h1 h2⟩
    | 4, ⟨g, h1, h2, h3⟩ => exact ⟨g, h1, h2.fr ho hT, hz v v g _ _ _ h1 h2 h3⟩
    | 5, h => exact h
    | 6, h => exact h
    | 7, ⟨h1, h2⟩ => exact ⟨h1.fr ho hT, hb _ _ _ _ _ h1 h2⟩
    | 8, ⟨g, h1, h2, h3⟩ => exact ⟨g, h1, h2.fr ho hT, hz v v g _ _ _ h1 h2 h3⟩
    | 9, h => exact h
    | 10, h => exact h
    | 11, ⟨h1, h2⟩ => exact ⟨h1.fr ho hT, hb _ _ _ _ _ h1 h2⟩
    | 12, h => exact h
    | 13, h => exact h
    | 14, ⟨vI, vD, vA, h1, h2⟩ => exact ⟨vI, vD, vA, h1, h2.outS ho hT⟩
    | 15, ⟨vI, vD, vA, h1, h2⟩ =>
      rw [if_neg hij] at ho
      exact ⟨vI, vD, vA, h1.outS ho (by simp), h2.outS ho (fun t ht => by cases ht)⟩
    | j + 16, h => exact h.elim
  case hU =>
    intro i o hi hd γ v w1 h
    match i, hi with
    | 15, hi => exact h
    | 0, hi => (injection hi with hi; subst hi; cases hd)
    | 1, hi => (injection hi with hi; subst hi; cases hd)
    | 2, hi => (injection hi with hi; subst hi; cases hd)
    | 3, hi => (injection hi with hi; subst hi; cases hd)
    | 4, hi => (injection hi with hi; subst hi; cases hd)
    | 5, hi => (injection hi with hi; subst hi; cases hd)
    | 6, hi => (injection hi with hi; subst hi; cases hd)
    | 7, hi => (injection hi with hi; subst hi; cases hd)
    | 8, hi => (injection hi with hi; subst hi; cases hd)
    | 9, hi => (injection hi with hi; subst hi; cases hd)
    | 10, hi => (injection hi with hi; subst hi; cases hd)
    | 11, hi => (injection hi with hi; subst hi; cases hd)
    | 12, hi => (injection hi with hi; subst hi; cases hd)
    | 13, hi => (injection hi with hi; subst hi; cases hd)
    | 14, hi => (injection hi with hi; subst hi; cases hd)
    | i + 16, hi => cases hi
  case hG =>
    refine ⟨?_, ?_, [.slice none 0 0, .slice none 0 0, .slice none 0 0, .int .i64 0], rfl, ?_⟩
    · exact Below.drew (((Below.refl _ _).alloc (Nat.le_refl _) _).alloc (by simp) _)
    · exact objU.dr9 ((objU.new _ _ _).old _)
    · exact objU.dr9 (objU.new2 _ _ (by simp))
  case hstep =>
    intro i o hi
    match i, hi with
    | 0, hi =>
      injection hi with hi; subst hi
      intro a w1 γ hG hK hD K hk
      refine wp_val (.slice (some ⟨w1.heap.size, 0, none⟩) 0 0) ?_ (hk _ _ (fun g => if g = w1.heap.size then 0 else γ g) (hG.alloc _) (Fr.below _ (OutS.of_below (below_alloc _ _)) _) ⟨_, rfl, ownR.lit w1 _ 75 3 (by have := hG.size; omega), if_pos rfl⟩)
      simp [execOp, Act.eval, go_sem]
    | 1, hi =>
      injection hi with hi; subst hi
      intro a w1 γ hG hK hD K hk
      have e1 := hK.at 1 (by kernel_rfl)
      refine wp_pure (.pointer (some ⟨w.heap.size, 0, none⟩)) ?_ (hk _ _ γ hG (Fr.same (OutS.refl _ _)) rfl)
      simp [execOp, Act.eval, e1, go_sem]
    | 2, hi =>
      injection hi with hi; subst hi
      intro a w1 γ hG hK hD K hk
      have d := hD 0 (by decide) (by kernel_rfl) (.inl rfl)
      change a.tmps.getD 4 undef = .pointer (some ⟨w.heap.size, 0, none⟩) at d
      have x0 := hG.2.1.cell 0 _ rfl
      refine wp_pure _ ?_ (hk _ _ γ hG (Fr.same (OutS.refl _ _)) rfl)
      simp [execOp, Act.eval, d, x0, go_sem]
    | 3, hi =>
      injection hi with hi; subst hi
      intro a w1 γ hG hK hD K hk
      have d0 := hD 0 (by decide) (by kernel_rfl) (.inl rfl)
      change ∃ g, a.tmps.getD 3 undef = .slice (some ⟨g, 0, none⟩) 0 0 ∧ ownR w1 (w.heap.size + 2) 75 3 (a.tmps.getD 3 undef) [] ∧ γ g = 0 at d0
      have d2 := hD 1 (by decide) (by kernel_rfl) (.inl rfl)
      change a.tmps.getD 5 undef = _ at d2
      obtain ⟨g, g1, g2, g3⟩ := d0
      rw [g1] at g2
      have hlt := (g2.lt g (by simp [blkOf, Value.ownBlock])).2
      obtain ⟨v', w', r1, r2, r3, r4⟩ := run_append_rd0 HEI.out (by decide) 64 (w.heap.size + 2) g g2 _ _ (HI.out.below hG.1) (rowsI _) (oneI _) (by have := L1.out; simp; omega) hG.size
      refine wp_val v' ?_ (hk _ _ (fun x => if x = w1.heap.size then 0 else γ x) (hG.below r3) (Fr.below _ (OutS.of_below r3) _) ⟨r2, own_new r4 hlt g3⟩)
      exact append_run (.tmp 3) (.tmp 5) 64 rfl g1 d2 r1
    | 4, hi =>
      injection hi with hi; subst hi
      intro a w1 γ hG hK hD K hk
      refine wp_val (.slice (some ⟨w1.heap.size, 0, none⟩) 0 0) ?_ (hk _ _ (fun g => if g = w1.heap.size then 1 else γ g) (hG.alloc _) (Fr.below _ (OutS.of_below (below_alloc _ _)) _) ⟨_, rfl, ownR.lit w1 _ 75 3 (by have := hG.size; omega), if_pos rfl⟩)
      simp [execOp, Act.eval, go_sem]
    | 5, hi =>
      injection hi with hi; subst hi
      intro a w1 γ hG hK hD K hk
      have e1 := hK.at 1 (by kernel_rfl)
      refine wp_pure (.pointer (some ⟨w.heap.size, 1, none⟩)) ?_ (hk _ _ γ hG (Fr.same (OutS.refl _ _)) rfl)
      simp [execOp, Act.eval, e1, go_sem]
    | 6, hi =>
      injection hi with hi; subst hi
      intro a w1 γ hG hK hD K hk
      have d := hD 0 (by decide) (by kernel_rfl) (.inl rfl)
      change a.tmps.getD 8 undef = .pointer (some ⟨w.heap.size, 1, none⟩) at d
      have x0 := hG.2.1.cell 1 _ rfl
      refine wp_pure _ ?_ (hk _ _ γ hG (Fr.same (OutS.refl _ _)) rfl)
      simp [execOp, Act.eval, d, x0, go_sem]
    | 7, hi =>
      injection hi with hi; subst hi
      intro a w1 γ hG hK hD K hk
      have d0 := hD 0 (by decide) (by kernel_rfl) (.inl rfl)
      change ∃ g, a.tmps.getD 7 undef = .slice (some ⟨g, 0, none⟩) 0 0 ∧ ownR w1 (w.heap.size + 2) 75 3 (a.tmps.getD 7 undef) [] ∧ γ g = 1 at d0
      have d2 := hD 1 (by decide) (by kernel_rfl) (.inl rfl)
      change a.tmps.getD 9 undef = _ at d2
      obtain ⟨g, g1, g2, g3⟩ := d0
      rw [g1] at g2
      have hlt := (g2.lt g (by simp [blkOf, Value.ownBlock])).2
      obtain ⟨v', w', r1, r2, r3, r4⟩ := run_append_rd0 HEI.out (by decide) 64 (w.heap.size + 2) g g2 _ _ (HD.out.below hG.1) (rowsI _) (oneI _) (by have := L2.out; simp; omega) hG.size
      refine wp_val v' ?_ (hk _ _ (fun x => if x = w1.heap.size then 1 else γ x) (hG.below r3) (Fr.below _ (OutS.of_below r3) _) ⟨r2, own_new r4 hlt g3⟩)
      exact append_run (.tmp 7) (.tmp 9) 64 rfl g1 d2 r1
    | 8, hi =>
      injection hi with hi; subst hi
      intro a w1 γ hG hK hD K hk
      refine wp_val (.slice (some ⟨w1.heap.size, 0, none⟩) 0 0) ?_ (hk _ _ (fun g => if g = w1.heap.size then 2 else γ g) (hG.alloc _) (Fr.below _ (OutS.of_below (below_alloc _ _)) _) ⟨_, rfl, ownR.lit w1 _ 9 1 (by have := hG.size; omega), if_pos rfl⟩)
      simp [execOp, Act.eval, go_sem]
    | 9, hi =>
      injection hi with hi; subst hi
      intro a w1 γ hG hK hD K hk
      have e1 := hK.at 1 (by kernel_rfl)
      refine wp_pure (.pointer (some ⟨w.heap.size, 2, none⟩)) ?_ (hk _ _ γ hG (Fr.same (OutS.refl _ _)) rfl)
      simp [execOp, Act.eval, e1, go_sem]
    | 10, hi =>
      injection hi with hi; subst hi
      intro a w1 γ hG hK hD K hk
      have d := hD 0 (by decide) (by kernel_rfl) (.inl rfl)
      change a.tmps.getD 12 undef = .pointer (some ⟨w.heap.size, 2, none⟩) at d
      have x0 := hG.2.1.cell 2 _ rfl
      refine wp_pure _ ?_ (hk _ _ γ hG (Fr.same (OutS.refl _ _)) rfl)
      simp [execOp, Act.eval, d, x0, go_sem]
    | 11, hi =>
      injection hi with hi; subst hi
      intro a w1 γ hG hK hD K hk
      have d0 := hD 0 (by decide) (by kernel_rfl) (.inl rfl)
      change ∃ g, a.tmps.getD 11 undef = .slice (some ⟨g, 0, none⟩) 0 0 ∧ ownR w1 (w.heap.size + 2) 9 1 (a.tmps.getD 11 undef) [] ∧ γ g = 2 at d0
      have d2 := hD 1 (by decide) (by kernel_rfl) (.inl rfl)
      change a.tmps.getD 13 undef = _ at d2
      obtain ⟨g, g1, g2, g3⟩ := d0
      rw [g1] at g2
      have hlt := (g2.lt g (by simp [blkOf, Value.ownBlock])).2
      obtain ⟨v', w', r1, r2, r3, r4⟩ := run_append_rd0 HES.out (by decide) 32 (w.heap.size + 2) g g2 _ _ (HA.out.below hG.1) (rowsS _) (oneS _) (by have := L3.out; simp; omega) hG.size
      refine wp_val v' ?_ (hk _ _ (fun x => if x = w1.heap.size then 2 else γ x) (hG.below r3) (Fr.below _ (OutS.of_below r3) _) ⟨r2, own_new r4 hlt g3⟩)
      exact append_run (.tmp 11) (.tmp 13) 32 rfl g1 d2 r1
    | 12, hi =>
      injection hi with hi; subst hi
      intro a w1 γ hG hK hD K hk
      have e1 := hK.at 1 (by kernel_rfl)
      refine wp_pure (.pointer (some ⟨w.heap.size, 3, none⟩)) ?_ (hk _ _ γ hG (Fr.same (OutS.refl _ _)) rfl)
      simp [execOp, Act.eval, e1, go_sem]
    | 13, hi =>
      injection hi with hi; subst hi
      intro a w1 γ hG hK hD K hk
      have d := hD 0 (by decide) (by kernel_rfl) (.inl rfl)
      change a.tmps.getD 15 undef = .pointer (some ⟨w.heap.size, 3, none⟩) at d
      have x0 := hG.2.1.cell 3 _ rfl
      refine wp_pure _ ?_ (hk _ _ γ hG (Fr.same (OutS.refl _ _)) rfl)
      simp [execOp, Act.eval, d, x0, go_sem]
    | 14, hi =>
      injection hi with hi; subst hi
      intro a w1 γ hG hK hD K hk
      have d0 := hD 0 (by decide) (by kernel_rfl) (.inl rfl)
      have d1 := hD 1 (by decide) (by kernel_rfl) (.inl rfl)
      have d2 := hD 2 (by decide) (by kernel_rfl) (.inl rfl)
      have d3 := hD 3 (by decide) (by kernel_rfl) (.inl rfl)
      change ownR w1 (w.heap.size + 2) _ 3 (a.tmps.getD 6 undef) _ ∧ _ at d0
      change ownR w1 (w.heap.size + 2) _ 3 (a.tmps.getD 10 undef) _ ∧ _ at d1
      change ownR w1 (w.heap.size + 2) _ 1 (a.tmps.getD 14 undef) _ ∧ _ at d2
      change a.tmps.getD 16 undef = .int .i64 Q.now at d3
      obtain ⟨h0, k0⟩ := d0
      obtain ⟨h1, k1⟩ := d1
      obtain ⟨h2, k2⟩ := d2
      obtain ⟨b0, c0, s0⟩ := h0.itS
      obtain ⟨b1, c1, s1⟩ := h1.itS
      obtain ⟨b2, c2, s2⟩ := h2.stS
      have hQ : QO w1 (w.heap.size + 2) _ _ Q (a.tmps.getD 6 undef) (a.tmps.getD 10 undef) (a.tmps.getD 14 undef) := ⟨h0, h1, h2, fun g p q => by have := k0 g p; have := k1 g q; omega, fun g p q => by have := k0 g p; have := k2 g q; omega, fun g p q => by have := k1 g p; have := k2 g q; omega⟩
      refine wp_pure (.agg #[a.tmps.getD 6 undef, a.tmps.getD 10 undef, a.tmps.getD 14 undef, .int .i64 Q.now]) ?_ (hk _ _ γ hG (Fr.same (OutS.refl _ _)) ⟨_, _, _, rfl, hQ⟩)
      rw [s0, s1, s2]
      rw [Array.getD_eq_getD_getElem?] at s0 s1 s2 d3
      simp [execOp, Act.eval, s0, s1, s2, d3, go_sem]
    | 15, hi =>
      injection hi with hi; subst hi
      intro a w1 γ hG hK hD K hk
      have d0 := hD 0 (by decide) (by kernel_rfl) (.inl rfl)
      change ∃ vI vD vA, a.tmps.getD 17 undef = .agg #[vI, vD, vA, .int .i64 Q.now] ∧ QO w1 (w.heap.size + 2) _ _ Q vI vD vA at d0
      obtain ⟨vI, vD, vA, g1, hQ⟩ := d0
      have e2 := hK.at 2 (by kernel_rfl)
      obtain ⟨b0, c0, rfl⟩ := hQ.i.itS
      obtain ⟨b1, c1, rfl⟩ := hQ.d.itS
      obtain ⟨b2, c2, rfl⟩ := hQ.a.stS
      obtain ⟨hb, hx, zs, hz, ho⟩ := hG
      obtain ⟨z0, z1, z2, z3, rfl⟩ : ∃ z0 z1 z2 z3, zs = [z0, z1, z2, z3] := by
        match zs, hz with
        | [z0, z1, z2, z3], _ => exact ⟨_, _, _, _, rfl⟩
      have ho2 := objU.setCells [.slice b0 Q.I.length c0, .slice b1 Q.D.length c1, .slice b2 Q.A.length c2, .int .i64 Q.now] [z0, z1, z2, z3] [] [] w1 (by simpa using ho) rfl
      have hO : OutS [w.heap.size + 1] w1 (w1.setCells (w.heap.size + 1) 0 [.slice b0 Q.I.length c0, .slice b1 Q.D.length c1, .slice b2 Q.A.length c2, .int .i64 Q.now]) := OutS.setCells _ _ _
      have hT : ∀ t ∈ [w.heap.size + 1], t < w.heap.size + 2 := fun t ht => by simp at ht; omega
      have y0 := ho.cell 0 _ rfl
      have y1 := ho.cell 1 _ rfl
      have y2 := ho.cell 2 _ rfl
      have y3 := ho.cell 3 _ rfl
      have f0 := ho.fz 0
      have f1 := ho.fz 1
      have f2 := ho.fz 2
      have f3 := ho.fz 3
      refine wp_skip ?_ (hk undef _ γ ⟨hb.trans (hO.below (fun t ht => by simp at ht; omega) hb.size), hx.outS hO (by simp), _, rfl, by simpa using ho2⟩ ⟨hO, fun _ _ => rfl⟩ ⟨_, _, _, by simpa using ho2, hQ.outS hO hT⟩)
      exact store_run 66 (.tmp 2) (.tmp 17) rfl e2 g1 [.slice b0 Q.I.length c0, .slice b1 Q.D.length c1, .slice b2 Q.A.length c2, .int .i64 Q.now] rfl (by intro u hu; simp at hu; rcases hu with rfl | rfl | rfl | rfl <;> rfl) Try.zQueue_impl_Queue (ho.there 0 4 (by simp))
    | i + 16, hi => cases hi
  case hend =>
    intro x w' γ hG hx
    have hf := hx 15 (by decide) rfl
    obtain ⟨vI, vD, vA, ho, hQ⟩ := hf
    simp only [putAll, Act.put, List.setIfInBounds_toArray, List.set_cons_zero, List.set_cons_succ]
    go_wp2
    refine bodyPost_ret (v := .agg #[vI, vD, vA, .int .i64 Q.now]) ?_ rfl ⟨vI, vD, vA, rfl, hQ.mono (by omega), hG.1⟩
    exact results_row rfl _ _ (w.heap.size + 1) _ _ (by simp) ho Try.rQueue_impl_Queue Try.zQueue_impl_Queue
end Go.Proofs.Ytpmhmcekkppbhaa
