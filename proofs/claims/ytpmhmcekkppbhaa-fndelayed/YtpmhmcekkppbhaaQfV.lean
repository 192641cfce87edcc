/- Queues: the program's take. -/
import Derived.Test.YtpmhmcekkppbhaaQfT
import Derived.Test.YtpmhmcekkppbhaaDel
import Derived.Deep.QuietTactic
namespace Go.Proofs.Ytpmhmcekkppbhaa
open Go.RowKit Go.BigFrame
set_option linter.unusedVariables false

/-- a queue, its field 0 being made anew: before the call that makes it (c = false) and behind it; the item's block, the pointer's -/
structure GI (w0 : World) (b base pb ib : Nat) (Q : Qu) (x : It) (vI vD vA : Value) (c : Bool) (w : World) : Prop where
  bel : Below base w0 w
  size : w0.heap.size ≤ w.heap.size
  box : c = false → objU w b 66 [vI, vD, vA, .int .i64 Q.now] ∧ ownR w base 75 3 vI (Q.I.map encI)
  bx2 : ∃ u, objU w b 66 [u, vD, vA, .int .i64 Q.now]
  o1 : ownR w base 75 3 vD (Q.D.map encI)
  o2 : ownR w base 9 1 vA (Q.A.map encS)
  it : objU w ib 75 (encI x)
  pt : objU w pb 187 [.pointer (some ⟨b, 0, none⟩)]
theorem GI.below {w0 w w' : World} {b base pb ib : Nat} {Q : Qu} {x : It} {vI vD vA : Value} {c : Bool} (h : GI w0 b base pb ib Q x vI vD vA c w) (hs : base ≤ w0.heap.size) (hb : Below w.heap.size w w') : GI w0 b base pb ib Q x vI vD vA c w' :=
  ⟨h.bel.trans (hb.mono (by have := h.size; omega)), by have := h.size; have := hb.size; omega, fun e => ⟨(h.box e).1.below hb, (h.box e).2.below hb⟩, by obtain ⟨u, hu⟩ := h.bx2; exact ⟨u, hu.below hb⟩, h.o1.below hb, h.o2.below hb, h.it.below hb, h.pt.below hb⟩
/-- a queue, its field 1 being made anew: before the call that makes it (c = false) and behind it; the item's block, the pointer's -/
structure GD (w0 : World) (b base pb ib : Nat) (Q : Qu) (x : It) (vI vD vA : Value) (c : Bool) (w : World) : Prop where
  bel : Below base w0 w
  size : w0.heap.size ≤ w.heap.size
  box : c = false → objU w b 66 [vI, vD, vA, .int .i64 Q.now] ∧ ownR w base 75 3 vD (Q.D.map encI)
  bx2 : ∃ u, objU w b 66 [vI, u, vA, .int .i64 Q.now]
  o0 : ownR w base 75 3 vI (Q.I.map encI)
  o2 : ownR w base 9 1 vA (Q.A.map encS)
  it : objU w ib 75 (encI x)
  pt : objU w pb 187 [.pointer (some ⟨b, 0, none⟩)]
theorem GD.below {w0 w w' : World} {b base pb ib : Nat} {Q : Qu} {x : It} {vI vD vA : Value} {c : Bool} (h : GD w0 b base pb ib Q x vI vD vA c w) (hs : base ≤ w0.heap.size) (hb : Below w.heap.size w w') : GD w0 b base pb ib Q x vI vD vA c w' :=
  ⟨h.bel.trans (hb.mono (by have := h.size; omega)), by have := h.size; have := hb.size; omega, fun e => ⟨(h.box e).1.below hb, (h.box e).2.below hb⟩, by obtain ⟨u, hu⟩ := h.bx2; exact ⟨u, hu.below hb⟩, h.o0.below hb, h.o2.below hb, h.it.below hb, h.pt.below hb⟩
def FV (b base k : Nat) (Q : Qu) (vI vD vA : Value) : Nat → (Nat → Nat) → Value → World → Prop
  | 3, γ, v, w => v = .pointer (some ⟨b, 0, none⟩)
  | 4, γ, v, w => v = vI
  | 5, γ, v, w => v = .int .i64 k
  | 6, γ, v, w => v = .int .i64 k
  | 7, γ, v, w => v = .int .i64 ((k + 1 : Nat) : Int)
  | 8, γ, v, w => ownR w base 75 3 v ((dropAt Q.I k).map encI) ∧ v.ownBlock = vI.ownBlock
  | 11, γ, v, w => ∃ vI', QB w b base { Q with I := dropAt Q.I k } vI' vD vA
  | _, γ, v, w => v = .pointer (some ⟨b, 0, none⟩)
def FX (b base ib : Nat) (Q : Qu) (x y : It) (vI vD vA : Value) : Nat → (Nat → Nat) → Value → World → Prop
  | 3, γ, v, w => v = .pointer (some ⟨b, 1, none⟩)
  | 13, γ, v, w => v = .pointer (some ⟨b, 1, none⟩)
  | 4, γ, v, w => v = vD
  | 5, γ, v, w => v = .pointer (some ⟨ib, 0, none⟩)
  | 6, γ, v, w => v = .string x.1
  | 7, γ, v, w => v = .pointer (some ⟨ib, 2, none⟩)
  | 8, γ, v, w => v = .int .i64 x.2.2
  | 9, γ, v, w => v = .agg #[.string y.1, .int .i64 y.2.1, .int .i64 y.2.2]
  | 10, γ, v, w => ∃ g t, v = .slice (some ⟨g, 0, none⟩) 1 1 ∧ objU w g t (encI y) ∧ g ≠ b
  | 11, γ, v, w => ownR w base 75 3 v ((Q.D ++ [y]).map encI) ∧ b ∉ blkOf v ∧ (∀ g ∈ blkOf v, g ∉ blkOf vI) ∧ ∀ g ∈ blkOf v, g ∉ blkOf vA
  | 14, γ, v, w => ∃ vD', QB w b base { Q with D := Q.D ++ [y] } vI vD' vA
  | _, γ, v, w => v = .pointer (some ⟨b, 0, none⟩)
theorem rdClo_any (x : It) (now : Int) (pb b : Nat) (w : World) (hp : w.cell? ⟨pb, 0, none⟩ = some (.pointer (some ⟨b, 0, none⟩))) (hc : w.cell? ⟨b, 3, none⟩ = some (.int .i64 now)) :
    Calls Try.prog 137 #[.agg #[.string x.1, .int .i64 x.2.1, .int .i64 x.2.2], .pointer (some ⟨pb, 0, none⟩)] w fun e w' => e = .returned (.bool (decide (x.2.1 ≤ now))) ∧ Below w.heap.size w w' := by
  have hbl := World.block_lt_of_cell? _ _ hc
  have hpl := World.block_lt_of_cell? _ _ hp
  obtain ⟨x1, x2, x3⟩ := x
  dsimp only
  have OX : Hid (objU (w.alloc (.cells #[.string x1, .int .i64 x2, .int .i64 x3] 75)) w.heap.size 75 [.string x1, .int .i64 x2, .int .i64 x3]) := objU.new _ _ _
  have y1 := OX.out.cell 1 _ rfl
  have p0 : (w.alloc (.cells #[.string x1, .int .i64 x2, .int .i64 x3] 75)).cell? ⟨pb, 0, none⟩ = some (.pointer (some ⟨b, 0, none⟩)) := (Below.cell (below_alloc w _) hpl).trans hp
  have p3 : (w.alloc (.cells #[.string x1, .int .i64 x2, .int .i64 x3] 75)).cell? ⟨b, 3, none⟩ = some (.int .i64 now) := (Below.cell (below_alloc w _) hbl).trans hc
  have BX : Hid (Below w.heap.size w (w.alloc (.cells #[.string x1, .int .i64 x2, .int .i64 x3] 75))) := below_alloc _ _
  go_enter Try.func137, Try.ntmps137
  go_wp2
  generalize w.alloc (.cells #[.string x1, .int .i64 x2, .int .i64 x3] 75) = wx at *
  go_quiet (fail)
  go_wp2
  go_ret
  exact ⟨rfl, below_drewN BX.out _⟩
set_option maxRecDepth 20000 in
set_option maxHeartbeats 3200000 in
theorem take_any (Q : Qu) (b base : Nat) (vI vD vA : Value) (w : World) (hq : okQ Q) (h : QB w b base Q vI vD vA) (hbase : base ≤ b) :
    Calls Try.prog 97 #[.pointer (some ⟨b, 0, none⟩)] w fun e w' => ∃ vI' vD' vA', e = .returned (.tuple #[.string (takeC Q).2.1, .bool (takeC Q).2.2]) ∧ QB w' b base (takeC Q).1 vI' vD' vA' ∧ Below base w w' := by
  obtain ⟨aI, pI, aD, pD, aA, pA, rfl, rfl, rfl⟩ := h.xs
  have l1 := hq.1.1
  have l2 := hq.2.1.1
  have H := hide h
  have hbl := h.lt
  have hbb : Hid (base ≤ w.heap.size) := by show _ ≤ _; omega
  have PT0 : Hid (objU (w.alloc (.cells #[.pointer (some ⟨b, 0, none⟩)] 187)) w.heap.size 187 [.pointer (some ⟨b, 0, none⟩)]) := objU.new _ _ _
  have H0 := hide (h.below (below_alloc w (.cells #[.pointer (some ⟨b, 0, none⟩)] 187)))
  have B0 : Hid (Below base w (w.alloc (.cells #[.pointer (some ⟨b, 0, none⟩)] 187))) := (below_alloc _ _).mono hbb.out
  have HIX := hide (ixRd_any Q.I (fun x => decide (x.2.1 ≤ Q.now)) ⟨w.heap.size, 0, none⟩ (.slice aI Q.I.length pI) _ (by omega) (H0.out.q.i.rd (by decide)) (fun wx hb x _ => rdClo_any x Q.now w.heap.size b wx ((PT0.out.below hb).cell 0 _ rfl) ((H0.out.o.below hb).cell 3 _ rfl)))
  have x0 := H0.out.o.cell 0 _ rfl
  clear h hq
  go_enter Try.func97, Try.ntmps97
  by_cases hR : rdyN Q.I Q.now < Q.I.length
  · have hp : plcP Q.I (fun x => decide (x.2.1 ≤ Q.now)) = (rdyN Q.I Q.now : Int) := if_pos hR
    rw [hp] at HIX
    have Htk : Hid (takeC Q = (if Q.D.length = 60 then (Q, ⟨#[]⟩, false) else ({ Q with I := dropAt Q.I (rdyN Q.I Q.now), D := Q.D ++ [((Q.I[rdyN Q.I Q.now]).1, 0, (Q.I[rdyN Q.I Q.now]).2.2)] }, (Q.I[rdyN Q.I Q.now]).1, true))) := dif_pos hR
    generalize rdyN Q.I Q.now = k at *
    have hk0 : (0 : Int) ≤ (k : Int) := Int.natCast_nonneg _
    have hki : (k : Int) < (Q.I.length : Int) := by omega
    clear hp
    by_cases h60 : Q.D.length = 60
    · have HR : Hid (takeC Q = (Q, ⟨#[]⟩, false)) := by show _ = _; rw [Htk.out, if_pos h60]
      have hi60 : ((Q.D.length : Int) == 60) = true := by rw [beq_iff_eq]; omega
      clear h60 Htk
      go_wp2_with fail
      refine HIX.out.mono ?_
      rintro e w1 ⟨rfl, hb1⟩
      have H1 := hide (H0.out.below hb1)
      have PT1 := hide (PT0.out.below hb1)
      have B1 : Hid (Below base w w1) := B0.out.trans (hb1.mono (Nat.le_trans hbb.out B0.out.size))
      have p0 := PT1.out.cell 0 _ rfl
      have x1 := H1.out.o.cell 1 _ rfl
      clear hb1 x0
      go_wp2
      refine bodyPost_ret (v := .tuple #[.string ⟨#[]⟩, .bool false]) ?_ rfl ⟨_, _, _, by rw [HR.out], by rw [HR.out]; exact H1.out, B1.out⟩
      simp [results, Try.results97, go_sem]
    · have HR : Hid (takeC Q = ({ Q with I := dropAt Q.I k, D := Q.D ++ [((Q.I[k]).1, 0, (Q.I[k]).2.2)] }, (Q.I[k]).1, true)) := by show _ = _; rw [Htk.out, if_neg h60]
      have hi60 : ((Q.D.length : Int) == 60) = false := by rw [beq_eq_false_iff_ne]; omega
      have hr : Hid ((Q.I.map encI)[k]? = some (encI Q.I[k])) := by show _ = _; rw [List.getElem?_map, List.getElem?_eq_getElem hR]; rfl
      clear Htk
      go_wp2_with fail
      refine HIX.out.mono ?_
      rintro e w1 ⟨rfl, hb1⟩
      have H1 := hide (H0.out.below hb1)
      have PT1 := hide (PT0.out.below hb1)
      have B1 : Hid (Below base w w1) := B0.out.trans (hb1.mono (Nat.le_trans hbb.out B0.out.size))
      have hz1 : w.heap.size < w1.heap.size := PT1.out.lt
      have p0 := PT1.out.cell 0 _ rfl
      have x1 := H1.out.o.cell 1 _ rfl
      have x0' := H1.out.o.cell 0 _ rfl
      obtain ⟨g, pI', eI, hbg, hgl, hcp, -, hcell, hfz⟩ := H1.out.q.i.opened (by rw [List.length_map]; omega)
      rw [List.length_map] at eI hcp
      cases eI
      have k0 : w1.cell? ⟨g, k * 3, none⟩ = some (.string (Q.I[k]).1) := hcell k _ 0 _ hr.out rfl
      have k1 : w1.cell? ⟨g, k * 3 + 1, none⟩ = some (.int .i64 (Q.I[k]).2.1) := hcell k _ 1 _ hr.out rfl
      have k2 : w1.cell? ⟨g, k * 3 + 2, none⟩ = some (.int .i64 (Q.I[k]).2.2) := hcell k _ 2 _ hr.out rfl
      clear hb1 x0 hcell hfz
      go_wp2
      have HPT : Hid (objU (w1.alloc (.cells #[.string (Q.I[k]).1, .int .i64 (Q.I[k]).2.1, .int .i64 (Q.I[k]).2.2] 75)) w.heap.size 187 [.pointer (some ⟨b, 0, none⟩)]) := PT1.out.old _
      have HIT : Hid (objU (w1.alloc (.cells #[.string (Q.I[k]).1, .int .i64 (Q.I[k]).2.1, .int .i64 (Q.I[k]).2.2] 75)) w1.heap.size 75 (encI Q.I[k])) := objU.new _ _ _
      have HQ2 := hide (H1.out.below (below_alloc w1 (.cells #[.string (Q.I[k]).1, .int .i64 (Q.I[k]).2.1, .int .i64 (Q.I[k]).2.2] 75)))
      have B2 : Hid (Below base w (w1.alloc (.cells #[.string (Q.I[k]).1, .int .i64 (Q.I[k]).2.1, .int .i64 (Q.I[k]).2.2] 75))) := B1.out.trans ((below_alloc _ _).mono (by omega))
      have hpb : Hid (w.heap.size ∉ [b]) := by show _ ∉ _; simp; omega
      have hib : Hid (w1.heap.size ∉ [b]) := by show _ ∉ _; simp; omega
      have HS : Hid (w.heap.size ≤ (w1.alloc (.cells #[.string (Q.I[k]).1, .int .i64 (Q.I[k]).2.1, .int .i64 (Q.I[k]).2.2] 75)).heap.size) := by show _ ≤ _; simp; omega
      have hw : IntKind.i64.wrap ((k : Int) + 1) = (k : Int) + 1 := uwrap64 _ (by omega) (by omega)
      have HLT : Hid (∀ z ∈ blkOf (.slice (some ⟨g, 0, none⟩) Q.I.length pI), z < w.heap.size) := fun x hx => (H.out.q.i.lt x hx).2
      clear k0 k1 k2 p0 x1 x0' HIX H0 PT0 B0
      refine wp_region_inv2 (fun i => if i = 8 then OutS (blkOf (.slice (some ⟨g, 0, none⟩) Q.I.length pI)) else if i = 11 then OutS [b] else fun u v => Below u.heap.size u v) (fun _ => none) 8 (by decide)
        (GI w b base w.heap.size w1.heap.size Q Q.I[k] (.slice (some ⟨g, 0, none⟩) Q.I.length pI) (.slice aD Q.D.length pD) (.slice aA Q.A.length pA)) (FV b base k Q (.slice (some ⟨g, 0, none⟩) Q.I.length pI) (.slice aD Q.D.length pD) (.slice aA Q.A.length pA)) (by kernel_rfl) (by kernel_rfl) (by kernel_rfl) ?hF ?hU ?hG ?hstep ?hend
      case hF =>
        intro i j γ γ' v wa wb hij hsp hnd hsd h hfr
        have ho := hfr.out
        match j, h with
        | 0, h => exact h
        | 1, h => exact h
        | 2, h => exact h
        | 3, h => exact h
        | 4, h => exact h
        | 5, h => exact h
        | 6, h => exact h
        | 7, h => exact h
        | 8, ⟨h1, h2⟩ =>
          rw [if_neg hij] at ho
          by_cases e : i = 11
          · rw [if_pos e] at ho
            exact ⟨h1.frame (fun x hx => ho.block x (h1.lt x hx).2 (fun hh => H.out.ni (by simp at hh; rw [← hh]; rw [blk_own] at hx ⊢; rw [← h2]; exact hx))), h2⟩
          · rw [if_neg e] at ho
            exact ⟨h1.below ho, h2⟩
        | 9, h => exact h
        | 10, h => exact h
        | 11, ⟨v', h⟩ =>
          by_cases e : i = 8
          · subst e; cases (hnd.symm.trans (by kernel_rfl) : false = true)
          · rw [if_neg e, if_neg hij] at ho
            exact ⟨v', h.below ho⟩
        | j + 12, h => exact h
      case hU =>
        intro i o hi hd γ v wa h
        match i, hi with
        | 0, hi => (injection hi with hi; subst hi; cases hd)
        | 1, hi => (injection hi with hi; subst hi; cases hd)
        | 2, hi => (injection hi with hi; subst hi; cases hd)
        | 3, hi => (injection hi with hi; subst hi; cases hd)
        | 4, hi => (injection hi with hi; subst hi; cases hd)
        | 5, hi => (injection hi with hi; subst hi; cases hd)
        | 6, hi => (injection hi with hi; subst hi; cases hd)
        | 7, hi => (injection hi with hi; subst hi; cases hd)
        | 8, hi => (injection hi with hi; subst hi; cases hd)
        | 9, hi => (injection hi with hi; subst hi; cases hd)
        | 10, hi => (injection hi with hi; subst hi; cases hd)
        | 11, hi => exact h
        | i + 12, hi => cases hi
      case hG => exact ⟨Below.drew B2.out, HS.out, fun _ => ⟨objU.dr9 HQ2.out.o, ownR.below HQ2.out.q.i (Below.drew (Below.refl _ _))⟩, ⟨_, objU.dr9 HQ2.out.o⟩, ownR.below HQ2.out.q.d (Below.drew (Below.refl _ _)), ownR.below HQ2.out.q.a (Below.drew (Below.refl _ _)), objU.dr9 HIT.out, objU.dr9 HPT.out⟩
      case hstep =>
        intro i o hi
        match i, hi with
        | 0, hi =>
          injection hi with hi; subst hi
          intro c a wn γ hc0 hc1 hG hK hD K hk
          have e1 := hK.at 1 (by kernel_rfl)
          have x0 := hG.pt.cell 0 _ rfl
          refine wp_pure (.pointer (some ⟨b, 0, none⟩)) ?_ (hk _ _ γ hG (Fr.same (Below.refl _ _)) rfl)
          simp [execOp, Act.eval, e1, x0, go_sem]
        | 1, hi =>
          injection hi with hi; subst hi
          intro c a wn γ hc0 hc1 hG hK hD K hk
          have e1 := hK.at 1 (by kernel_rfl)
          have x0 := hG.pt.cell 0 _ rfl
          refine wp_pure (.pointer (some ⟨b, 0, none⟩)) ?_ (hk _ _ γ hG (Fr.same (Below.refl _ _)) rfl)
          simp [execOp, Act.eval, e1, x0, go_sem]
        | 2, hi =>
          injection hi with hi; subst hi
          intro c a wn γ hc0 hc1 hG hK hD K hk
          have d0 := hD 0 (by decide) (by kernel_rfl) (.inl rfl)
          change a.tmps.getD 30 undef = .pointer (some ⟨b, 0, none⟩) at d0
          refine wp_pure (.pointer (some ⟨b, 0, none⟩)) ?_ (hk _ _ γ hG (Fr.same (Below.refl _ _)) rfl)
          simp [execOp, Act.eval, d0, go_sem]
        | 3, hi =>
          injection hi with hi; subst hi
          intro c a wn γ hc0 hc1 hG hK hD K hk
          have d0 := hD 0 (by decide) (by kernel_rfl) (.inl rfl)
          change a.tmps.getD 31 undef = .pointer (some ⟨b, 0, none⟩) at d0
          refine wp_pure (.pointer (some ⟨b, 0, none⟩)) ?_ (hk _ _ γ hG (Fr.same (Below.refl _ _)) rfl)
          simp [execOp, Act.eval, d0, go_sem]
        | 4, hi =>
          injection hi with hi; subst hi
          intro c a wn γ hc0 hc1 hG hK hD K hk
          have d0 := hD 0 (by decide) (by kernel_rfl) (.inl rfl)
          change a.tmps.getD 32 undef = .pointer (some ⟨b, 0, none⟩) at d0
          have hc := hc0 (.inl (by kernel_rfl))
          have x0 := (hG.box hc).1.cell 0 _ rfl
          refine wp_pure _ ?_ (hk _ _ γ hG (Fr.same (Below.refl _ _)) rfl)
          simp [execOp, Act.eval, d0, x0, go_sem]
        | 5, hi =>
          injection hi with hi; subst hi
          intro c a wn γ hc0 hc1 hG hK hD K hk
          have e1 := hK.at 4 (by kernel_rfl)
          refine wp_pure (.int .i64 k) ?_ (hk _ _ γ hG (Fr.same (Below.refl _ _)) rfl)
          simp [execOp, Act.eval, e1, go_sem]
        | 6, hi =>
          injection hi with hi; subst hi
          intro c a wn γ hc0 hc1 hG hK hD K hk
          have e1 := hK.at 4 (by kernel_rfl)
          refine wp_pure (.int .i64 k) ?_ (hk _ _ γ hG (Fr.same (Below.refl _ _)) rfl)
          simp [execOp, Act.eval, e1, go_sem]
        | 7, hi =>
          injection hi with hi; subst hi
          intro c a wn γ hc0 hc1 hG hK hD K hk
          have d0 := hD 0 (by decide) (by kernel_rfl) (.inl rfl)
          change a.tmps.getD 35 undef = .int .i64 k at d0
          refine wp_pure (.int .i64 ((k + 1 : Nat) : Int)) ?_ (hk _ _ γ hG (Fr.same (Below.refl _ _)) rfl)
          simp [execOp, Act.eval, d0, hw, go_sem]
        | 8, hi =>
          injection hi with hi; subst hi
          intro c a wn γ hc0 hc1 hG hK hD K hk
          have d0 := hD 0 (by decide) (by kernel_rfl) (.inl rfl)
          change a.tmps.getD 33 undef = .slice (some ⟨g, 0, none⟩) Q.I.length pI at d0
          have d1 := hD 1 (by decide) (by kernel_rfl) (.inl rfl)
          change a.tmps.getD 34 undef = .int .i64 k at d1
          have d2 := hD 2 (by decide) (by kernel_rfl) (.inl rfl)
          change a.tmps.getD 36 undef = .int .i64 ((k + 1 : Nat) : Int) at d2
          have hc := hc0 (.inr rfl)
          obtain ⟨hbx, hoI⟩ := hG.box hc
          refine wp_call 138 #[.tmp 33, .tmp 34, .tmp 36] _ rfl (callFunc_enter Try.func138 (by kernel_rfl) (by kernel_rfl)) #[.slice (some ⟨g, 0, none⟩) Q.I.length pI, .int .i64 k, .int .i64 ((k + 1 : Nat) : Int)] (by simp only [List.map_toArray, List.map_cons, List.map_nil]; show #[a.tmps.getD 33 undef, a.tmps.getD 34 undef, a.tmps.getD 36 undef] = _; rw [d0, d1, d2]) (delI_any _ k (k + 1) base _ wn hoI (oneI _) (by omega) (by rw [List.length_map]; omega) (by rw [List.length_map]; omega)) ?_
          rintro e w' ⟨v', rfl, hv, hvb, hO⟩
          have hvv : ownR w' base 75 3 v' ((dropAt Q.I k).map encI) := by unfold dropAt; rw [List.map_append, List.map_take, List.map_drop]; exact hv
          refine ⟨v', rfl, hk v' w' γ ⟨hG.bel.trans (hO.below (fun t ht => (hoI.lt t ht).1) (by have := hG.size; have := hbb.out; omega)), Nat.le_trans hG.size hO.size, (fun e => by cases e), ⟨_, hbx.outS hO H.out.ni⟩, hG.o1.apart hO H.out.q.id, hG.o2.apart hO H.out.q.ia, hG.it.outS hO (fun hh => by have := HLT.out _ hh; omega), hG.pt.outS hO (fun hh => by have := HLT.out _ hh; omega)⟩ ⟨hO, fun _ _ => rfl⟩ ⟨hvv, hvb⟩⟩
        | 9, hi =>
          injection hi with hi; subst hi
          intro c a wn γ hc0 hc1 hG hK hD K hk
          have d0 := hD 0 (by decide) (by kernel_rfl) (.inl rfl)
          change a.tmps.getD 29 undef = .pointer (some ⟨b, 0, none⟩) at d0
          refine wp_pure (.pointer (some ⟨b, 0, none⟩)) ?_ (hk _ _ γ hG (Fr.same (Below.refl _ _)) rfl)
          simp [execOp, Act.eval, d0, go_sem]
        | 10, hi =>
          injection hi with hi; subst hi
          intro c a wn γ hc0 hc1 hG hK hD K hk
          have d0 := hD 0 (by decide) (by kernel_rfl) (.inl rfl)
          change a.tmps.getD 38 undef = .pointer (some ⟨b, 0, none⟩) at d0
          refine wp_pure (.pointer (some ⟨b, 0, none⟩)) ?_ (hk _ _ γ hG (Fr.same (Below.refl _ _)) rfl)
          simp [execOp, Act.eval, d0, go_sem]
        | 11, hi =>
          injection hi with hi; subst hi
          intro c a wn γ hc0 hc1 hG hK hD K hk
          have d0 := hD 0 (by decide) (by kernel_rfl) (.inl rfl)
          change a.tmps.getD 39 undef = .pointer (some ⟨b, 0, none⟩) at d0
          have d1 := hD 1 (by decide) (by kernel_rfl) (.inl rfl)
          change ownR wn base _ 3 (a.tmps.getD 37 undef) ((dropAt Q.I k).map encI) ∧ (a.tmps.getD 37 undef).ownBlock = (.slice (some ⟨g, 0, none⟩) Q.I.length pI : Value).ownBlock at d1
          obtain ⟨k1, k5⟩ := d1
          have hbk : ∀ x, x ∈ blkOf (a.tmps.getD 37 undef) ↔ x ∈ blkOf (.slice (some ⟨g, 0, none⟩) Q.I.length pI) := fun x => by rw [blk_own, blk_own, k5]
          have k2 : b ∉ blkOf (a.tmps.getD 37 undef) := fun hh => H.out.ni ((hbk b).1 hh)
          have k3 : ∀ x ∈ blkOf (a.tmps.getD 37 undef), x ∉ blkOf (.slice aD Q.D.length pD) := fun x hx => H.out.q.id x ((hbk x).1 hx)
          have k4 : ∀ x ∈ blkOf (a.tmps.getD 37 undef), x ∉ blkOf (.slice aA Q.A.length pA) := fun x hx => H.out.q.ia x ((hbk x).1 hx)
          obtain ⟨a3, n3, p3, e3⟩ : ∃ aa nn pp, a.tmps.getD 37 undef = .slice aa nn pp := by obtain ⟨aa, pp, e⟩ := k1.itS; exact ⟨_, _, _, e⟩
          have h1c : (a.tmps.getD 37 undef).oneCell' = true := by rw [e3]; rfl
          have hc := hc1 (by kernel_rfl)
          obtain ⟨u, hu⟩ := hG.bx2
          have hO : OutS [b] wn (wn.setCells b 0 [a.tmps.getD 37 undef]) := OutS.setCells _ _ _
          have hS := objU.setCells [a.tmps.getD 37 undef] [u] [] [.slice aD Q.D.length pD, .slice aA Q.A.length pA, .int .i64 Q.now] wn hu rfl
          have hfr : ∀ (v : Value) (e : TypeId) (k : Nat) (R : List (List Value)), ownR wn base e k v R → b ∉ blkOf v → ownR (wn.setCells b 0 [a.tmps.getD 37 undef]) base e k v R := fun v e k R hv hn => hv.frame (fun g hg => hO.block g (hv.lt g hg).2 (fun hh => hn (by simp at hh; exact hh ▸ hg)))
          refine wp_skip ?_ (hk undef _ γ ⟨hG.bel.trans (hO.below (fun t ht => by simp at ht; omega) (by have := hG.size; have := hbb.out; omega)), Nat.le_trans hG.size hO.size, (fun e => by rw [hc] at e; cases e), ⟨_, hS⟩, (hfr _ _ _ _ hG.o1 H.out.nd), (hfr _ _ _ _ hG.o2 H.out.na), hG.it.outS hO hib.out, hG.pt.outS hO hpb.out⟩ ⟨hO, fun _ _ => rfl⟩ ⟨_, hS, ⟨(hfr _ _ _ _ k1 k2), (hfr _ _ _ _ hG.o1 H.out.nd), (hfr _ _ _ _ hG.o2 H.out.na), k3, k4, H.out.q.da⟩, k2, H.out.nd, H.out.na⟩)
          exact store_run 64 (.tmp 39) (.tmp 37) rfl d0 rfl [a.tmps.getD 37 undef] (cells_one h1c) (one1 h1c) (by kernel_rfl) (hu.there 0 1 (by simp))
        | i + 12, hi => cases hi
      case hend =>
        intro x w3 γ hG hx
        obtain ⟨vI', hQ3⟩ := hx 11 (by decide) rfl
        have B3 := hide hG.bel
        have IT3 := hide hG.it
        have PT3 := hide hG.pt
        have HS3 := hide hG.size
        simp only [putAll, Act.put, List.setIfInBounds_toArray, List.set_cons_zero, List.set_cons_succ, Nat.zero_add, Nat.reduceAdd]
        have HQ3 := hide hQ3
        have HDL : Hid (∀ z ∈ blkOf (.slice aD Q.D.length pD), z < w.heap.size) := fun x hx => (H.out.q.d.lt x hx).2
        clear hG hx hQ3 HPT HIT HQ2 B2 HS H1 PT1 B1 HLT
        obtain ⟨Q1, hQ1⟩ : ∃ Q1 : Qu, Q1 = { Q with I := dropAt Q.I k } := ⟨_, rfl⟩
        have e1 : Q1.D = Q.D := by rw [hQ1]
        have e2 : Q1.A = Q.A := by rw [hQ1]
        have e3 : Q1.now = Q.now := by rw [hQ1]
        have HQ4 : Hid (QB w3 b base Q1 vI' (.slice aD Q.D.length pD) (.slice aA Q.A.length pA)) := by show QB _ _ _ _ _ _ _; rw [hQ1]; exact HQ3.out
        have HE1 := hide hQ1
        have HEL := hide elI
        rw [← e1] at hi60
        clear HQ3 hQ1 e1 e2 e3
        have HLD : Hid (Q1.D.length = Q.D.length) := by show _ = _; rw [HE1.out]
        obtain ⟨y, hy⟩ : ∃ y : It, y = ((Q.I[k]).1, 0, (Q.I[k]).2.2) := ⟨_, rfl⟩
        have HY := hide hy
        have y1 : y.1 = (Q.I[k]).1 := by rw [hy]
        have y2 : y.2.1 = 0 := by rw [hy]
        have y3 : y.2.2 = (Q.I[k]).2.2 := by rw [hy]
        clear hy
        go_wp2
        refine wp_region_inv2 (fun i => if i = 11 then OutS (blkOf (.slice aD Q.D.length pD)) else if i = 14 then OutS [b] else fun u v => Below u.heap.size u v) (fun j => if j = 10 then some 11 else none) 11 (by decide)
          (GD w b base w.heap.size w1.heap.size Q1 Q.I[k] (vI') (.slice aD Q.D.length pD) (.slice aA Q.A.length pA)) (FX b base w1.heap.size Q1 Q.I[k] y (vI') (.slice aD Q.D.length pD) (.slice aA Q.A.length pA)) (by kernel_rfl) (by kernel_rfl) (by kernel_rfl) ?hF2 ?hU2 ?hG2 ?hstep2 ?hend2
        case hF2 =>
          intro i j γ γ' v wa wb hij hsp hnd hsd h hfr
          have ho := hfr.out
          match j, h with
          | 0, h => exact h
          | 1, h => exact h
          | 2, h => exact h
          | 3, h => exact h
          | 4, h => exact h
          | 5, h => exact h
          | 6, h => exact h
          | 7, h => exact h
          | 8, h => exact h
          | 9, h => exact h
          | 10, ⟨g2, t, h1, h2, h3⟩ =>
            rw [if_neg (fun e => hsp (by simp [e]))] at ho
            by_cases e : i = 14
            · rw [if_pos e] at ho
              exact ⟨g2, t, h1, h2.outS ho (by simpa using h3), h3⟩
            · rw [if_neg e] at ho
              exact ⟨g2, t, h1, h2.below ho, h3⟩
          | 11, ⟨h1, h2⟩ =>
            rw [if_neg hij] at ho
            by_cases e : i = 14
            · rw [if_pos e] at ho
              exact ⟨h1.frame (fun x hx => ho.block x (h1.lt x hx).2 (fun hh => h2.1 (by simp at hh; exact hh ▸ hx))), h2⟩
            · rw [if_neg e] at ho
              exact ⟨h1.below ho, h2⟩
          | 12, h => exact h
          | 13, h => exact h
          | 14, ⟨v', h⟩ =>
            by_cases e : i = 11
            · subst e; cases (hnd.symm.trans (by kernel_rfl) : false = true)
            · rw [if_neg e, if_neg hij] at ho
              exact ⟨v', h.below ho⟩
          | j + 15, h => exact h
        case hU2 =>
          intro i o hi hd γ v wa h
          match i, hi with
          | 0, hi => (injection hi with hi; subst hi; cases hd)
          | 1, hi => (injection hi with hi; subst hi; cases hd)
          | 2, hi => (injection hi with hi; subst hi; cases hd)
          | 3, hi => (injection hi with hi; subst hi; cases hd)
          | 4, hi => (injection hi with hi; subst hi; cases hd)
          | 5, hi => (injection hi with hi; subst hi; cases hd)
          | 6, hi => (injection hi with hi; subst hi; cases hd)
          | 7, hi => (injection hi with hi; subst hi; cases hd)
          | 8, hi => (injection hi with hi; subst hi; cases hd)
          | 9, hi => (injection hi with hi; subst hi; cases hd)
          | 10, hi => (injection hi with hi; subst hi; cases hd)
          | 11, hi => (injection hi with hi; subst hi; cases hd)
          | 12, hi => (injection hi with hi; subst hi; cases hd)
          | 13, hi => (injection hi with hi; subst hi; cases hd)
          | 14, hi => exact h
          | i + 15, hi => cases hi
        case hG2 => exact ⟨Below.drew B3.out, HS3.out, fun _ => ⟨objU.dr9 HQ4.out.o, ownR.below HQ4.out.q.d (Below.drew (Below.refl _ _))⟩, ⟨_, objU.dr9 HQ4.out.o⟩, ownR.below HQ4.out.q.i (Below.drew (Below.refl _ _)), ownR.below HQ4.out.q.a (Below.drew (Below.refl _ _)), objU.dr9 IT3.out, objU.dr9 PT3.out⟩
        case hstep2 =>
          have HB : Hid (QB w3 b base Q1 _ _ _) := HQ4.out
          intro i o hi
          match i, hi with
          | 0, hi =>
            injection hi with hi; subst hi
            intro c a wn γ hc0 hc1 hG hK hD K hk
            have e1 := hK.at 1 (by kernel_rfl)
            have x0 := hG.pt.cell 0 _ rfl
            refine wp_pure (.pointer (some ⟨b, 0, none⟩)) ?_ (hk _ _ γ hG (Fr.same (Below.refl _ _)) rfl)
            simp [execOp, Act.eval, e1, x0, go_sem]
          | 1, hi =>
            injection hi with hi; subst hi
            intro c a wn γ hc0 hc1 hG hK hD K hk
            have e1 := hK.at 1 (by kernel_rfl)
            have x0 := hG.pt.cell 0 _ rfl
            refine wp_pure (.pointer (some ⟨b, 0, none⟩)) ?_ (hk _ _ γ hG (Fr.same (Below.refl _ _)) rfl)
            simp [execOp, Act.eval, e1, x0, go_sem]
          | 2, hi =>
            injection hi with hi; subst hi
            intro c a wn γ hc0 hc1 hG hK hD K hk
            have d0 := hD 0 (by decide) (by kernel_rfl) (.inl rfl)
            change a.tmps.getD 41 undef = .pointer (some ⟨b, 0, none⟩) at d0
            refine wp_pure (.pointer (some ⟨b, 0, none⟩)) ?_ (hk _ _ γ hG (Fr.same (Below.refl _ _)) rfl)
            simp [execOp, Act.eval, d0, go_sem]
          | 3, hi =>
            injection hi with hi; subst hi
            intro c a wn γ hc0 hc1 hG hK hD K hk
            have d0 := hD 0 (by decide) (by kernel_rfl) (.inl rfl)
            change a.tmps.getD 42 undef = .pointer (some ⟨b, 0, none⟩) at d0
            refine wp_pure (.pointer (some ⟨b, 1, none⟩)) ?_ (hk _ _ γ hG (Fr.same (Below.refl _ _)) rfl)
            simp [execOp, Act.eval, d0, go_sem]
          | 4, hi =>
            injection hi with hi; subst hi
            intro c a wn γ hc0 hc1 hG hK hD K hk
            have d0 := hD 0 (by decide) (by kernel_rfl) (.inl rfl)
            change a.tmps.getD 43 undef = .pointer (some ⟨b, 1, none⟩) at d0
            have hc := hc0 (.inl (by kernel_rfl))
            have x0 := (hG.box hc).1.cell 1 _ rfl
            refine wp_pure _ ?_ (hk _ _ γ hG (Fr.same (Below.refl _ _)) rfl)
            simp [execOp, Act.eval, d0, x0, go_sem]
          | 5, hi =>
            injection hi with hi; subst hi
            intro c a wn γ hc0 hc1 hG hK hD K hk
            have e1 := hK.at 5 (by kernel_rfl)
            refine wp_pure (.pointer (some ⟨w1.heap.size, 0, none⟩)) ?_ (hk _ _ γ hG (Fr.same (Below.refl _ _)) rfl)
            simp [execOp, Act.eval, e1, go_sem]
          | 6, hi =>
            injection hi with hi; subst hi
            intro c a wn γ hc0 hc1 hG hK hD K hk
            have d0 := hD 0 (by decide) (by kernel_rfl) (.inl rfl)
            change a.tmps.getD 45 undef = .pointer (some ⟨w1.heap.size, 0, none⟩) at d0
            have x0 := hG.it.cell 0 _ rfl
            refine wp_pure (.string (Q.I[k]).1) ?_ (hk _ _ γ hG (Fr.same (Below.refl _ _)) rfl)
            simp [execOp, Act.eval, d0, x0, go_sem]
          | 7, hi =>
            injection hi with hi; subst hi
            intro c a wn γ hc0 hc1 hG hK hD K hk
            have e1 := hK.at 5 (by kernel_rfl)
            refine wp_pure (.pointer (some ⟨w1.heap.size, 2, none⟩)) ?_ (hk _ _ γ hG (Fr.same (Below.refl _ _)) rfl)
            simp [execOp, Act.eval, e1, go_sem]
          | 8, hi =>
            injection hi with hi; subst hi
            intro c a wn γ hc0 hc1 hG hK hD K hk
            have d0 := hD 0 (by decide) (by kernel_rfl) (.inl rfl)
            change a.tmps.getD 47 undef = .pointer (some ⟨w1.heap.size, 2, none⟩) at d0
            have x0 := hG.it.cell 2 _ rfl
            refine wp_pure (.int .i64 (Q.I[k]).2.2) ?_ (hk _ _ γ hG (Fr.same (Below.refl _ _)) rfl)
            simp [execOp, Act.eval, d0, x0, go_sem]
          | 9, hi =>
            injection hi with hi; subst hi
            intro c a wn γ hc0 hc1 hG hK hD K hk
            have d0 := hD 0 (by decide) (by kernel_rfl) (.inl rfl)
            change a.tmps.getD 46 undef = .string (Q.I[k]).1 at d0
            have d1 := hD 1 (by decide) (by kernel_rfl) (.inl rfl)
            change a.tmps.getD 48 undef = .int .i64 (Q.I[k]).2.2 at d1
            rw [Array.getD_eq_getD_getElem?] at d0 d1
            refine wp_pure (.agg #[.string y.1, .int .i64 y.2.1, .int .i64 y.2.2]) ?_ (hk _ _ γ hG (Fr.same (Below.refl _ _)) rfl)
            simp [execOp, Act.eval, d0, d1, y1, y2, y3, go_sem]
          | 10, hi =>
            injection hi with hi; subst hi
            intro c a wn γ hc0 hc1 hG hK hD K hk
            have d0 := hD 0 (by decide) (by kernel_rfl) (.inl rfl)
            change a.tmps.getD 49 undef = .agg #[.string y.1, .int .i64 y.2.1, .int .i64 y.2.2] at d0
            refine wp_val (w' := wn.alloc (.cells #[.string y.1, .int .i64 y.2.1, .int .i64 y.2.2] 75)) (.slice (some ⟨wn.heap.size, 0, none⟩) 1 1) ?_ (hk _ _ γ (hG.below hbb.out (below_alloc _ _)) ⟨below_alloc _ _, fun _ _ => rfl⟩ ⟨_, _, rfl, objU.new _ _ _, by have := hG.size; omega⟩)
            rw [Array.getD_eq_getD_getElem?] at d0
            simp [execOp, Act.eval, d0, go_sem]
          | 11, hi =>
            injection hi with hi; subst hi
            intro c a wn γ hc0 hc1 hG hK hD K hk
            have d0 := hD 0 (by decide) (by kernel_rfl) (.inl rfl)
            change a.tmps.getD 44 undef = .slice aD Q.D.length pD at d0
            have d1 := hD 1 (by decide) (by kernel_rfl) (.inr (.inl rfl))
            change ∃ g2 t, a.tmps.getD 50 undef = .slice (some ⟨g2, 0, none⟩) 1 1 ∧ objU wn g2 t (encI y) ∧ g2 ≠ b at d1
            obtain ⟨g2, t, g1, g3, g4⟩ := d1
            have hc := hc0 (.inr rfl)
            obtain ⟨hbx, hoD⟩ := hG.box hc
            obtain ⟨v', w', r1, r2, r3, r4⟩ := run_append_rd HEL.out (by decide) 64 base _ _ hoD _ _ (rdR.one g3) (rowsI [y]) (oneI [y]) (by have := HLD.out; simp; omega) (by have := hG.size; have := hbb.out; omega)
            have hO := grown_outS r3
            have hnn : ∀ z, w.heap.size ≤ z → z ≠ wn.heap.size → z ∉ blkOf (.slice aD Q.D.length pD) ∨ True := fun _ _ _ => .inr trivial
            refine wp_val v' ?_ (hk _ _ γ ⟨hG.bel.trans (hO.below (fun t ht => (hoD.lt t ht).1) (by have := hG.size; have := hbb.out; omega)), Nat.le_trans hG.size hO.size, (fun e => by cases e), ⟨_, hbx.outS hO HB.out.nd⟩, hG.o0.apart hO (fun z hz hh => HB.out.q.id z hh hz), hG.o2.apart hO HB.out.q.da, hG.it.outS hO (fun hh => by have := HDL.out _ hh; omega), hG.pt.outS hO (fun hh => by have := HDL.out _ hh; omega)⟩ ⟨hO, fun _ _ => rfl⟩ ⟨by rw [List.map_append]; exact r2, new_not r4 HB.out.nd (by have := hG.size; omega), new_apart r4 hG.o0 (fun z hz hh => HB.out.q.id z hh hz), new_apart r4 hG.o2 HB.out.q.da⟩)
            exact append_run (.tmp 44) (.tmp 50) 64 rfl d0 g1 r1
          | 12, hi =>
            injection hi with hi; subst hi
            intro c a wn γ hc0 hc1 hG hK hD K hk
            have d0 := hD 0 (by decide) (by kernel_rfl) (.inl rfl)
            change a.tmps.getD 40 undef = .pointer (some ⟨b, 0, none⟩) at d0
            refine wp_pure (.pointer (some ⟨b, 0, none⟩)) ?_ (hk _ _ γ hG (Fr.same (Below.refl _ _)) rfl)
            simp [execOp, Act.eval, d0, go_sem]
          | 13, hi =>
            injection hi with hi; subst hi
            intro c a wn γ hc0 hc1 hG hK hD K hk
            have d0 := hD 0 (by decide) (by kernel_rfl) (.inl rfl)
            change a.tmps.getD 52 undef = .pointer (some ⟨b, 0, none⟩) at d0
            refine wp_pure (.pointer (some ⟨b, 1, none⟩)) ?_ (hk _ _ γ hG (Fr.same (Below.refl _ _)) rfl)
            simp [execOp, Act.eval, d0, go_sem]
          | 14, hi =>
            injection hi with hi; subst hi
            intro c a wn γ hc0 hc1 hG hK hD K hk
            have d0 := hD 0 (by decide) (by kernel_rfl) (.inl rfl)
            change a.tmps.getD 53 undef = .pointer (some ⟨b, 1, none⟩) at d0
            have d1 := hD 1 (by decide) (by kernel_rfl) (.inl rfl)
            change ownR wn base _ 3 (a.tmps.getD 51 undef) ((Q1.D ++ [y]).map encI) ∧ b ∉ blkOf (a.tmps.getD 51 undef) ∧ (∀ z ∈ blkOf (a.tmps.getD 51 undef), z ∉ blkOf (vI')) ∧ (∀ z ∈ blkOf (a.tmps.getD 51 undef), z ∉ blkOf (.slice aA Q.A.length pA)) at d1
            obtain ⟨k1, k2, k3, k4⟩ := d1
            obtain ⟨a3, n3, p3, e3⟩ : ∃ aa nn pp, a.tmps.getD 51 undef = .slice aa nn pp := by obtain ⟨aa, pp, e⟩ := k1.itS; exact ⟨_, _, _, e⟩
            have h1c : (a.tmps.getD 51 undef).oneCell' = true := by rw [e3]; rfl
            have hc := hc1 (by kernel_rfl)
            obtain ⟨u, hu⟩ := hG.bx2
            have hO : OutS [b] wn (wn.setCells b 1 [a.tmps.getD 51 undef]) := OutS.setCells _ _ _
            have hS := objU.setCells [a.tmps.getD 51 undef] [u] [vI'] [.slice aA Q.A.length pA, .int .i64 Q1.now] wn hu rfl
            have hfr : ∀ (v : Value) (e : TypeId) (k : Nat) (R : List (List Value)), ownR wn base e k v R → b ∉ blkOf v → ownR (wn.setCells b 1 [a.tmps.getD 51 undef]) base e k v R := fun v e k R hv hn => hv.frame (fun g hg => hO.block g (hv.lt g hg).2 (fun hh => hn (by simp at hh; exact hh ▸ hg)))
            refine wp_skip ?_ (hk undef _ γ ⟨hG.bel.trans (hO.below (fun t ht => by simp at ht; omega) (by have := hG.size; have := hbb.out; omega)), Nat.le_trans hG.size hO.size, (fun e => by rw [hc] at e; cases e), ⟨_, hS⟩, (hfr _ _ _ _ hG.o0 HB.out.ni), (hfr _ _ _ _ hG.o2 HB.out.na), hG.it.outS hO hib.out, hG.pt.outS hO hpb.out⟩ ⟨hO, fun _ _ => rfl⟩ ⟨_, hS, ⟨(hfr _ _ _ _ hG.o0 HB.out.ni), (hfr _ _ _ _ k1 k2), (hfr _ _ _ _ hG.o2 HB.out.na), (fun g hg hh => k3 g hh hg), HB.out.q.ia, k4⟩, HB.out.ni, k2, HB.out.na⟩)
            exact store_run 64 (.tmp 53) (.tmp 51) rfl d0 rfl [a.tmps.getD 51 undef] (cells_one h1c) (one1 h1c) (by kernel_rfl) (hu.there 1 1 (by simp))
          | i + 15, hi => cases hi
        case hend2 =>
          intro x w4 γ hG hx
          obtain ⟨vD', hQ5⟩ := hx 14 (by decide) rfl
          have B4 := hide hG.bel
          have z0 := hG.it.cell 0 _ rfl
          have HQ5 : Hid (QB w4 b base { Q with I := dropAt Q.I k, D := Q.D ++ [((Q.I[k]).1, 0, (Q.I[k]).2.2)] } vI' vD' (.slice aA Q.A.length pA)) := by
            have h := hQ5
            rw [HY.out, HE1.out] at h
            exact h
          simp only [putAll, Act.put, List.setIfInBounds_toArray, List.set_cons_zero, List.set_cons_succ, Nat.zero_add, Nat.reduceAdd]
          clear hG hx hQ5
          go_wp2
          refine bodyPost_ret (v := .tuple #[.string (Q.I[k]).1, .bool true]) ?_ rfl ⟨_, _, _, by rw [HR.out], by rw [HR.out]; exact HQ5.out, B4.out⟩
          simp [results, Try.results97, go_sem]
  · have hp : plcP Q.I (fun x => decide (x.2.1 ≤ Q.now)) = -1 := if_neg hR
    rw [hp] at HIX
    have HR : Hid (takeC Q = (Q, ⟨#[]⟩, false)) := dif_neg hR
    clear hp
    go_wp2_with fail
    refine HIX.out.mono ?_
    rintro e w1 ⟨rfl, hb1⟩
    have H1 := hide (H0.out.below hb1)
    have B1 : Hid (Below base w w1) := B0.out.trans (hb1.mono (Nat.le_trans hbb.out B0.out.size))
    clear hb1 x0
    go_wp2
    refine bodyPost_ret (v := .tuple #[.string ⟨#[]⟩, .bool false]) ?_ rfl ⟨_, _, _, by rw [HR.out], by rw [HR.out]; exact H1.out, B1.out⟩
    simp [results, Try.results97, go_sem]
end Go.Proofs.Ytpmhmcekkppbhaa
