/- Queues: the program's put. -/
import Derived.Test.YtpmhmcekkppbhaaQfJ
namespace Go.Proofs.Ytpmhmcekkppbhaa
open Go.RowKit Go.BigFrame
set_option linter.unusedVariables false

theorem QB.xs {w : World} {b base : Nat} {Q : Qu} {vI vD vA : Value} (h : QB w b base Q vI vD vA) : ∃ aI pI aD pD aA pA, vI = .slice aI Q.I.length pI ∧ vD = .slice aD Q.D.length pD ∧ vA = .slice aA Q.A.length pA := by
  obtain ⟨a1, p1, e1⟩ := h.q.i.itS
  obtain ⟨a2, p2, e2⟩ := h.q.d.itS
  obtain ⟨a3, p3, e3⟩ := h.q.a.stS
  exact ⟨_, _, _, _, _, _, e1, e2, e3⟩
/-- one item is another one -/
theorem QB.setI {w : World} {b base g k pI : Nat} {Q : Qu} {vD vA : Value} (h : QB w b base Q (.slice (some ⟨g, 0, none⟩) Q.I.length pI) vD vA) (hk : k < Q.I.length) (z : Int) :
    QB (w.setCell ⟨g, k * 3 + 1, none⟩ (.int .i64 z)) b base { Q with I := Q.I.set k ((Q.I[k]).1, z, (Q.I[k]).2.2) } (.slice (some ⟨g, 0, none⟩) Q.I.length pI) vD vA := by
  have hg : g ∈ blkOf (.slice (some ⟨g, 0, none⟩) Q.I.length pI) := by simp [blkOf, Value.ownBlock]
  have hr : (Q.I.map encI)[k]? = some (encI Q.I[k]) := by rw [List.getElem?_map, List.getElem?_eq_getElem hk]; rfl
  have hi := h.q.i.store k 1 (encI Q.I[k]) (.int .i64 z) hr (by decide)
  have he : (Q.I.map encI).set k ((encI Q.I[k]).set 1 (.int .i64 z)) = (Q.I.set k ((Q.I[k]).1, z, (Q.I[k]).2.2)).map encI := by rw [List.map_set]; rfl
  rw [he] at hi
  exact ⟨h.o.other _ (fun e => h.ni (by rw [e]; exact hg)) _, ⟨hi, h.q.d.setCell _ (fun hh => h.q.id g hg hh) _, h.q.a.setCell _ (fun hh => h.q.ia g hg hh) _, h.q.id, h.q.ia, h.q.da⟩, h.ni, h.nd, h.na⟩
theorem grown_outS {w w' : World} {v : Value} (h : w.grownBy w' v.ownBlock) : OutS (blkOf v) w w' := ⟨h.os, h.tape, h.output, h.size, fun k hk hn => h.block k hk (fun e => hn (blk_own.2 e.symm))⟩
theorem new_apart {X : World} {v v' u : Value} {base : Nat} {e : TypeId} {k : Nat} {R : List (List Value)} (hat : v'.ownBlock = v.ownBlock ∨ v'.ownBlock = some X.heap.size) (hu : ownR X base e k u R) (hd : ∀ g ∈ blkOf v, g ∉ blkOf u) : ∀ g ∈ blkOf v', g ∉ blkOf u := fun g hg hh => by
  rw [blk_own] at hg
  rcases hat with e | e
  · rw [e] at hg; exact hd g (blk_own.2 hg) hh
  · rw [e] at hg; cases hg; have := (hu.lt _ hh).2; omega
theorem new_not {X : World} {v v' : Value} {b : Nat} (hat : v'.ownBlock = v.ownBlock ∨ v'.ownBlock = some X.heap.size) (hb : b ∉ blkOf v) (hl : b < X.heap.size) : b ∉ blkOf v' := fun hg => by
  rw [blk_own] at hg
  rcases hat with e | e
  · rw [e] at hg; exact hb (blk_own.2 hg)
  · rw [e] at hg; cases hg; omega
theorem ownR.apart {w w' : World} {base : Nat} {e : TypeId} {k : Nat} {v : Value} {R : List (List Value)} {T : List Nat} (h : ownR w base e k v R) (ho : OutS T w w') (hd : ∀ g ∈ T, g ∉ blkOf v) : ownR w' base e k v R := h.frame (fun g hg => ho.block g (h.lt g hg).2 (fun hh => hd g hh hg))
theorem QB.appI {X w3 : World} {b base : Nat} {Q : Qu} {vI vD vA v' : Value} {L : List It} (h : QB X b base Q vI vD vA) (ho : ownR w3 base 75 3 v' (L.map encI)) (hg : X.grownBy w3 vI.ownBlock) (hat : v'.ownBlock = vI.ownBlock ∨ v'.ownBlock = some X.heap.size) :
    QB (w3.setCell ⟨b, 0, none⟩ v') b base { Q with I := L } v' vD vA := by
  have hO := grown_outS hg
  have hnb := new_not hat h.ni h.lt
  have hkD := h.q.d.apart hO h.q.id
  have hkA := h.q.a.apart hO h.q.ia
  have hnew := ho.setCell ⟨b, 0, none⟩ hnb v'
  have hobj := (h.o.outS hO h.ni).set 0 v'
  exact ⟨hobj, ⟨hnew, (hkD.setCell _ (fun hh => h.nd (by simpa using hh)) _), (hkA.setCell _ (fun hh => h.na (by simpa using hh)) _), new_apart hat h.q.d h.q.id, new_apart hat h.q.a h.q.ia, h.q.da⟩, hnb, h.nd, h.na⟩
theorem QB.appD {X w3 : World} {b base : Nat} {Q : Qu} {vI vD vA v' : Value} {L : List It} (h : QB X b base Q vI vD vA) (ho : ownR w3 base 75 3 v' (L.map encI)) (hg : X.grownBy w3 vD.ownBlock) (hat : v'.ownBlock = vD.ownBlock ∨ v'.ownBlock = some X.heap.size) :
    QB (w3.setCell ⟨b, 1, none⟩ v') b base { Q with D := L } vI v' vA := by
  have hO := grown_outS hg
  have hnb := new_not hat h.nd h.lt
  have hkI := h.q.i.apart hO (fun g hg hh => h.q.id g hh hg)
  have hkA := h.q.a.apart hO h.q.da
  have hnew := ho.setCell ⟨b, 1, none⟩ hnb v'
  have hobj := (h.o.outS hO h.nd).set 1 v'
  exact ⟨hobj, ⟨(hkI.setCell _ (fun hh => h.ni (by simpa using hh)) _), hnew, (hkA.setCell _ (fun hh => h.na (by simpa using hh)) _), (fun g hg hh => new_apart hat h.q.i (fun g hg hh => h.q.id g hh hg) g hh hg), h.q.ia, new_apart hat h.q.a h.q.da⟩, h.ni, hnb, h.na⟩
theorem QB.appA {X w3 : World} {b base : Nat} {Q : Qu} {vI vD vA v' : Value} {L : List ByteArray} (h : QB X b base Q vI vD vA) (ho : ownR w3 base 9 1 v' (L.map encS)) (hg : X.grownBy w3 vA.ownBlock) (hat : v'.ownBlock = vA.ownBlock ∨ v'.ownBlock = some X.heap.size) :
    QB (w3.setCell ⟨b, 2, none⟩ v') b base { Q with A := L } vI vD v' := by
  have hO := grown_outS hg
  have hnb := new_not hat h.na h.lt
  have hkI := h.q.i.apart hO (fun g hg hh => h.q.ia g hh hg)
  have hkD := h.q.d.apart hO (fun g hg hh => h.q.da g hh hg)
  have hnew := ho.setCell ⟨b, 2, none⟩ hnb v'
  have hobj := (h.o.outS hO h.na).set 2 v'
  exact ⟨hobj, ⟨(hkI.setCell _ (fun hh => h.ni (by simpa using hh)) _), (hkD.setCell _ (fun hh => h.nd (by simpa using hh)) _), hnew, h.q.id, (fun g hg hh => new_apart hat h.q.i (fun g hg hh => h.q.ia g hh hg) g hh hg), (fun g hg hh => new_apart hat h.q.d (fun g hg hh => h.q.da g hh hg) g hh hg)⟩, h.ni, h.nd, hnb⟩
theorem QB.grown {X w3 : World} {b base : Nat} {Q : Qu} {vI vD vA v' : Value} (h : QB X b base Q vI vD vA) {v : Value} {k e : Nat} {R : List (List Value)} (hv : ownR X base e k v R) (hg : X.grownBy w3 v.ownBlock) (hb : base ≤ b) (j : Nat) : Below base X (w3.setCell ⟨b, j, none⟩ v') :=
  ((grown_outS hg).below (fun t ht => (hv.lt t ht).1) (by have := h.lt; omega)).setCell (p := ⟨b, j, none⟩) hb _
def FK (b g k : Nat) (rd now : Int) (vI : Value) : Nat → (Nat → Nat) → Value → World → Prop
  | 3, γ, v, w => v = vI
  | 8, γ, v, w => v = vI
  | 4, γ, v, w => v = .int .i64 k
  | 9, γ, v, w => v = .int .i64 k
  | 15, γ, v, w => v = .pointer (some ⟨b, 3, none⟩)
  | 10, γ, v, w => v = .pointer (some ⟨g, k * 3, none⟩)
  | 18, γ, v, w => v = .pointer (some ⟨g, k * 3, none⟩)
  | 11, γ, v, w => v = .pointer (some ⟨g, k * 3 + 1, none⟩)
  | 19, γ, v, w => v = .pointer (some ⟨g, k * 3 + 1, none⟩)
  | 12, γ, v, w => v = .int .i64 rd
  | 16, γ, v, w => v = .int .i64 now
  | 17, γ, v, w => v = .int .i64 (min rd now)
  | 20, γ, v, w => True
  | _, γ, v, w => v = .pointer (some ⟨b, 0, none⟩)
theorem FK.pure {b g k : Nat} {rd now : Int} {vI : Value} : ∀ {j : Nat} {γ γ' : Nat → Nat} {v : Value} {w w' : World} (h : FK b g k rd now vI j γ v w), FK b g k rd now vI j γ' v w'
  | 0, _, _, _, _, _, h => h
  | 1, _, _, _, _, _, h => h
  | 2, _, _, _, _, _, h => h
  | 3, _, _, _, _, _, h => h
  | 4, _, _, _, _, _, h => h
  | 5, _, _, _, _, _, h => h
  | 6, _, _, _, _, _, h => h
  | 7, _, _, _, _, _, h => h
  | 8, _, _, _, _, _, h => h
  | 9, _, _, _, _, _, h => h
  | 10, _, _, _, _, _, h => h
  | 11, _, _, _, _, _, h => h
  | 12, _, _, _, _, _, h => h
  | 13, _, _, _, _, _, h => h
  | 14, _, _, _, _, _, h => h
  | 15, _, _, _, _, _, h => h
  | 16, _, _, _, _, _, h => h
  | 17, _, _, _, _, _, h => h
  | 18, _, _, _, _, _, h => h
  | 19, _, _, _, _, _, h => h
  | 20, _, _, _, _, _, h => h
  | j + 21, _, _, _, _, _, h => h
/-- the queue, before the store and behind it -/
def GK (w0 : World) (b base : Nat) (Q Q' : Qu) (vI vD vA : Value) (c : Bool) (w : World) : Prop := QB w b base (if c = true then Q' else Q) vI vD vA ∧ Below base w0 w
set_option maxRecDepth 20000 in
set_option maxHeartbeats 3200000 in
theorem put_any (Q : Qu) (s : ByteArray) (b base : Nat) (vI vD vA : Value) (w : World) (hq : okQ Q) (hs : s.size ≤ maxLen) (h : QB w b base Q vI vD vA) (hbase : base ≤ b) :
    Calls Try.prog 91 #[.pointer (some ⟨b, 0, none⟩), .string s] w fun e w' => ∃ vI' vD' vA', e = .returned (.bool (putC Q s).2) ∧ QB w' b base (putC Q s).1 vI' vD' vA' ∧ Below base w w' := by
  obtain ⟨aI, pI, aD, pD, aA, pA, rfl, rfl, rfl⟩ := h.xs
  have l1 := hq.1.1
  have l2 := hq.2.1.1
  have l3 := hq.2.2.1.1
  have H := hide h
  have HK := hide hq
  have x1 := h.o.cell 1 _ rfl
  have HP1 := hide (itemPlace_any Q.D s _ w (by omega) (h.q.d.rd (by decide)))
  have hbb : Hid (base ≤ w.heap.size) := by have := h.lt; show _ ≤ _; omega
  clear h hq
  go_enter Try.func91, Try.ntmps91
  by_cases hD : fndI Q.D s < Q.D.length
  · have hp : plcI Q.D s = (fndI Q.D s : Int) := if_pos hD
    rw [hp] at HP1
    have Hput : Hid (putC Q s = (if inA Q.A s = true then Q else { Q with A := Q.A ++ [s] }, true)) := if_pos hD
    generalize fndI Q.D s = kd at *
    have hk0 : (0 : Int) ≤ (kd : Int) := Int.natCast_nonneg _
    clear hp
    go_wp2_with (go_at_call 134; refine HP1.out.mono ?_; clear HP1; rintro e w1 ⟨rfl, hb1⟩; have H1 := hide (H.out.below hb1); have B1 : Hid (Below base w w1) := hb1.mono hbb.out; clear hb1 x1 H; have x2 := H1.out.o.cell 2 _ rfl)
    refine (coStr_any Q.A s _ w1 (H1.out.q.a.rd (by decide)) (by omega)).mono ?_
    rintro e w2 ⟨rfl, rfl⟩
    cases hA : inA Q.A s with
    | true =>
      have HR : Hid (putC Q s = (Q, true)) := by show _ = _; rw [Hput.out, hA]; rfl
      clear Hput hA
      go_wp2
      go_ret
      exact ⟨_, _, _, ret_bool (by rw [HR.out]), by rw [HR.out]; exact H1.out, B1.out⟩
    | false =>
      have HR : Hid (putC Q s = ({ Q with A := Q.A ++ [s] }, true)) := by show _ = _; rw [Hput.out, hA]; rfl
      have HES := hide elS
      clear Hput hA
      have H2 : Hid (QB (w2.alloc (.cells #[.string s] 9)) b base Q (.slice aI Q.I.length pI) (.slice aD Q.D.length pD) (.slice aA Q.A.length pA)) := H1.out.below (below_alloc _ _)
      have O2 : Hid (objU (w2.alloc (.cells #[.string s] 9)) w2.heap.size 9 (encS s)) := objU.new _ _ _
      go_wp2_with (at_builtin; refine wpList_append_rd rfl _ _ 32 rfl 9 1 HES.out (by decide) base _ _ rfl H2.out.q.a _ _ rfl (rdR.one O2.out) (rowsS [s]) (oneS [s]) (by simp; omega) (by have := H2.out.lt; omega) ?_)
      intro v3 w3 ho3 hg3 ha3
      rw [show (Q.A.map encS) ++ [encS s] = (Q.A ++ [s]).map encS by simp] at ho3
      have HQ3 : Hid (QB (w3.setCell ⟨b, 2, none⟩ v3) b base { Q with A := Q.A ++ [s] } (.slice aI Q.I.length pI) (.slice aD Q.D.length pD) v3) := H2.out.appA ho3 hg3 (by simpa using ha3)
      have HB3 : Hid (Below base w (w3.setCell ⟨b, 2, none⟩ v3)) := (B1.out.trans ((below_alloc _ _).mono (by have := H1.out.lt; omega))).trans (H2.out.grown H2.out.q.a hg3 hbase 2)
      obtain ⟨a3, n3, p3, rfl⟩ : ∃ a n p, v3 = .slice a n p := by obtain ⟨a, p, e⟩ := ho3.stS; exact ⟨_, _, _, e⟩
      have y2 := (H2.out.o.outS (grown_outS hg3) H2.out.na).cell 2 _ rfl
      have f2 := (H2.out.o.outS (grown_outS hg3) H2.out.na).fz 2
      clear ho3 hg3 ha3 x2
      go_wp2
      go_ret
      exact ⟨_, _, _, ret_bool (by rw [HR.out]), by rw [HR.out]; exact HQ3.out, HB3.out⟩
  · have hp : plcI Q.D s = -1 := if_neg hD
    rw [hp] at HP1
    clear hp
    have hr : Hid (∀ (k : Nat) (hk : k < Q.I.length), (Q.I.map encI)[k]? = some (encI Q.I[k])) := fun k hk => by rw [List.getElem?_map, List.getElem?_eq_getElem hk]; rfl
    by_cases hI : fndI Q.I s < Q.I.length
    · have hp : plcI Q.I s = (fndI Q.I s : Int) := if_pos hI
      have Hput : Hid (putC Q s = ({ Q with I := Q.I.set (fndI Q.I s) ((Q.I[fndI Q.I s]).1, min (Q.I[fndI Q.I s]).2.1 Q.now, (Q.I[fndI Q.I s]).2.2) }, true)) := by show _ = _; unfold putC; rw [if_neg hD, dif_pos hI]
      generalize fndI Q.I s = k at *
      have hk0 : (0 : Int) ≤ (k : Int) := Int.natCast_nonneg _
      go_wp2_with (first
        | (go_at_call 134; refine HP1.out.mono ?_; clear HP1; rintro e w1 ⟨rfl, hb1⟩; have H1 := hide (H.out.below hb1); have B1 : Hid (Below base w w1) := hb1.mono hbb.out; clear hb1 x1 H; have x0 := H1.out.o.cell 0 _ rfl; have HP2 := hide (itemPlace_any Q.I s _ w1 (by omega) (H1.out.q.i.rd (by decide))); rw [hp] at HP2)
        | (go_at_call 134; refine HP2.out.mono ?_; clear HP2; rintro e w2 ⟨rfl, hb2⟩; have H2 := hide (H1.out.below hb2); have B2 : Hid (Below base w w2) := B1.out.trans (hb2.mono (by have := H1.out.lt; omega)); clear hb2 x0 H1 B1))
      clear hp
      obtain ⟨g, pI', eI, hbg, hgl, hcp, -, hcell, hfz⟩ := H2.out.q.i.opened (by rw [List.length_map]; omega)
      rw [List.length_map] at eI hcp
      cases eI
      have hgb : g ∈ blkOf (.slice (some ⟨g, 0, none⟩) Q.I.length pI) := by simp [blkOf, Value.ownBlock]
      have hng : g ≠ b := fun e => H2.out.ni (e ▸ hgb)
      clear hcell hfz hgl
      have hki : (k : Int) < (Q.I.length : Int) := by omega
      refine wp_region_inv2 (fun i u v => True) (fun _ => none) 20 (by decide) (GK w b base Q { Q with I := Q.I.set k ((Q.I[k]).1, min (Q.I[k]).2.1 Q.now, (Q.I[k]).2.2) } (.slice (some ⟨g, 0, none⟩) Q.I.length pI) (.slice aD Q.D.length pD) (.slice aA Q.A.length pA))
        (FK b g k (Q.I[k]).2.1 Q.now (.slice (some ⟨g, 0, none⟩) Q.I.length pI)) (by kernel_rfl) (by kernel_rfl) (by kernel_rfl) (fun i j γ γ' v w1 w2 _ _ _ _ h _ => h.pure) ?hU ?hG ?hstep ?hend
      case hU =>
        intro i o hi hd γ v w1 h
        match i, hi with
        | 0, hi => (injection hi with hi; subst hi; cases hd)
        | 1, hi => (injection hi with hi; subst hi; cases hd)
        | 2, hi => (injection hi with hi; subst hi; cases hd)
        | 3, hi => (injection hi with hi; subst hi; cases hd)
        | 4, hi => (injection hi with hi; subst hi; cases hd)
        | 5, hi => (injection hi with hi; subst hi; cases hd)
        | 6, hi => (injection hi with hi; subst hi; cases hd)
        | 7, hi => (injection hi with hi; subst hi; cases hd)
        | 8, hi => (injection hi with hi; subst hi; cases hd)
        | 9, hi => (injection hi with hi; subst hi; cases hd)
        | 10, hi => (injection hi with hi; subst hi; cases hd)
        | 11, hi => (injection hi with hi; subst hi; cases hd)
        | 12, hi => (injection hi with hi; subst hi; cases hd)
        | 13, hi => (injection hi with hi; subst hi; cases hd)
        | 14, hi => (injection hi with hi; subst hi; cases hd)
        | 15, hi => (injection hi with hi; subst hi; cases hd)
        | 16, hi => (injection hi with hi; subst hi; cases hd)
        | 17, hi => (injection hi with hi; subst hi; cases hd)
        | 18, hi => (injection hi with hi; subst hi; cases hd)
        | 19, hi => (injection hi with hi; subst hi; cases hd)
        | 20, hi => exact h
        | i + 21, hi => cases hi
      case hG => exact ⟨(show QB w2.drew b base Q _ _ _ from H2.out.below (Below.drew (Below.refl _ _))), Below.drew B2.out⟩
      case hstep =>
        intro i o hi
        match i, hi with
        | 0, hi =>
          injection hi with hi; subst hi
          intro c a w1 γ hc0 hc1 hG hK hD K hk
          have e1 := hK.at 0 (by kernel_rfl)
          refine wp_pure (.pointer (some ⟨b, 0, none⟩)) ?_ (hk _ _ γ (by rw [if_neg (by decide)]; exact hG) ⟨trivial, fun _ _ => rfl⟩ rfl)
          simp [execOp, Act.eval, e1, go_sem]
        | 1, hi =>
          injection hi with hi; subst hi
          intro c a w1 γ hc0 hc1 hG hK hD K hk
          have d0 := hD 0 (by decide) (by kernel_rfl) (.inl rfl)
          change a.tmps.getD 38 undef = .pointer (some ⟨b, 0, none⟩) at d0
          refine wp_pure (.pointer (some ⟨b, 0, none⟩)) ?_ (hk _ _ γ (by rw [if_neg (by decide)]; exact hG) ⟨trivial, fun _ _ => rfl⟩ rfl)
          simp [execOp, Act.eval, d0, go_sem]
        | 2, hi =>
          injection hi with hi; subst hi
          intro c a w1 γ hc0 hc1 hG hK hD K hk
          have d0 := hD 0 (by decide) (by kernel_rfl) (.inl rfl)
          change a.tmps.getD 39 undef = .pointer (some ⟨b, 0, none⟩) at d0
          refine wp_pure (.pointer (some ⟨b, 0, none⟩)) ?_ (hk _ _ γ (by rw [if_neg (by decide)]; exact hG) ⟨trivial, fun _ _ => rfl⟩ rfl)
          simp [execOp, Act.eval, d0, go_sem]
        | 3, hi =>
          injection hi with hi; subst hi
          intro c a w1 γ hc0 hc1 hG hK hD K hk
          have d0 := hD 0 (by decide) (by kernel_rfl) (.inl rfl)
          change a.tmps.getD 40 undef = .pointer (some ⟨b, 0, none⟩) at d0
          have hc := hc0 (.inl (by kernel_rfl))
          subst hc
          have hQ : QB w1 b base Q _ _ _ := hG.1
          have x0 := hQ.o.cell 0 _ rfl
          refine wp_pure (.slice (some ⟨g, 0, none⟩) Q.I.length pI) ?_ (hk _ _ γ (by rw [if_neg (by decide)]; exact hG) ⟨trivial, fun _ _ => rfl⟩ rfl)
          simp [execOp, Act.eval, d0, x0, go_sem]
        | 4, hi =>
          injection hi with hi; subst hi
          intro c a w1 γ hc0 hc1 hG hK hD K hk
          have e1 := hK.at 5 (by kernel_rfl)
          refine wp_pure (.int .i64 k) ?_ (hk _ _ γ (by rw [if_neg (by decide)]; exact hG) ⟨trivial, fun _ _ => rfl⟩ rfl)
          simp [execOp, Act.eval, e1, go_sem]
        | 5, hi =>
          injection hi with hi; subst hi
          intro c a w1 γ hc0 hc1 hG hK hD K hk
          have e1 := hK.at 0 (by kernel_rfl)
          refine wp_pure (.pointer (some ⟨b, 0, none⟩)) ?_ (hk _ _ γ (by rw [if_neg (by decide)]; exact hG) ⟨trivial, fun _ _ => rfl⟩ rfl)
          simp [execOp, Act.eval, e1, go_sem]
        | 6, hi =>
          injection hi with hi; subst hi
          intro c a w1 γ hc0 hc1 hG hK hD K hk
          have d0 := hD 0 (by decide) (by kernel_rfl) (.inl rfl)
          change a.tmps.getD 43 undef = .pointer (some ⟨b, 0, none⟩) at d0
          refine wp_pure (.pointer (some ⟨b, 0, none⟩)) ?_ (hk _ _ γ (by rw [if_neg (by decide)]; exact hG) ⟨trivial, fun _ _ => rfl⟩ rfl)
          simp [execOp, Act.eval, d0, go_sem]
        | 7, hi =>
          injection hi with hi; subst hi
          intro c a w1 γ hc0 hc1 hG hK hD K hk
          have d0 := hD 0 (by decide) (by kernel_rfl) (.inl rfl)
          change a.tmps.getD 44 undef = .pointer (some ⟨b, 0, none⟩) at d0
          refine wp_pure (.pointer (some ⟨b, 0, none⟩)) ?_ (hk _ _ γ (by rw [if_neg (by decide)]; exact hG) ⟨trivial, fun _ _ => rfl⟩ rfl)
          simp [execOp, Act.eval, d0, go_sem]
        | 8, hi =>
          injection hi with hi; subst hi
          intro c a w1 γ hc0 hc1 hG hK hD K hk
          have d0 := hD 0 (by decide) (by kernel_rfl) (.inl rfl)
          change a.tmps.getD 45 undef = .pointer (some ⟨b, 0, none⟩) at d0
          have hc := hc0 (.inl (by kernel_rfl))
          subst hc
          have hQ : QB w1 b base Q _ _ _ := hG.1
          have x0 := hQ.o.cell 0 _ rfl
          refine wp_pure (.slice (some ⟨g, 0, none⟩) Q.I.length pI) ?_ (hk _ _ γ (by rw [if_neg (by decide)]; exact hG) ⟨trivial, fun _ _ => rfl⟩ rfl)
          simp [execOp, Act.eval, d0, x0, go_sem]
        | 9, hi =>
          injection hi with hi; subst hi
          intro c a w1 γ hc0 hc1 hG hK hD K hk
          have e1 := hK.at 5 (by kernel_rfl)
          refine wp_pure (.int .i64 k) ?_ (hk _ _ γ (by rw [if_neg (by decide)]; exact hG) ⟨trivial, fun _ _ => rfl⟩ rfl)
          simp [execOp, Act.eval, e1, go_sem]
        | 10, hi =>
          injection hi with hi; subst hi
          intro c a w1 γ hc0 hc1 hG hK hD K hk
          have d0 := hD 0 (by decide) (by kernel_rfl) (.inl rfl)
          change a.tmps.getD 46 undef = .slice (some ⟨g, 0, none⟩) Q.I.length pI at d0
          have d1 := hD 1 (by decide) (by kernel_rfl) (.inl rfl)
          change a.tmps.getD 47 undef = .int .i64 k at d1
          rw [Array.getD_eq_getD_getElem?] at d0 d1
          refine wp_pure (.pointer (some ⟨g, k * 3, none⟩)) ?_ (hk _ _ γ (by rw [if_neg (by decide)]; exact hG) ⟨trivial, fun _ _ => rfl⟩ rfl)
          simp [execOp, Act.eval, d0, d1, hki, hk0, go_sem]
        | 11, hi =>
          injection hi with hi; subst hi
          intro c a w1 γ hc0 hc1 hG hK hD K hk
          have d0 := hD 0 (by decide) (by kernel_rfl) (.inl rfl)
          change a.tmps.getD 48 undef = .pointer (some ⟨g, k * 3, none⟩) at d0
          refine wp_pure (.pointer (some ⟨g, k * 3 + 1, none⟩)) ?_ (hk _ _ γ (by rw [if_neg (by decide)]; exact hG) ⟨trivial, fun _ _ => rfl⟩ rfl)
          simp [execOp, Act.eval, d0, go_sem]
        | 12, hi =>
          injection hi with hi; subst hi
          intro c a w1 γ hc0 hc1 hG hK hD K hk
          have d0 := hD 0 (by decide) (by kernel_rfl) (.inl rfl)
          change a.tmps.getD 49 undef = .pointer (some ⟨g, k * 3 + 1, none⟩) at d0
          have hc := hc0 (.inl (by kernel_rfl))
          subst hc
          have hQ : QB w1 b base Q _ _ _ := hG.1
          have x0 := (hQ.q.i.opened (by rw [List.length_map]; omega)).elim (fun g' h => by obtain ⟨pI', eI, -, -, -, -, hcell, -⟩ := h; rw [List.length_map] at eI; cases eI; exact hcell k _ 1 _ (hr.out k hI) rfl)
          refine wp_pure (.int .i64 (Q.I[k]).2.1) ?_ (hk _ _ γ (by rw [if_neg (by decide)]; exact hG) ⟨trivial, fun _ _ => rfl⟩ rfl)
          simp [execOp, Act.eval, d0, x0, go_sem]
        | 13, hi =>
          injection hi with hi; subst hi
          intro c a w1 γ hc0 hc1 hG hK hD K hk
          have e1 := hK.at 0 (by kernel_rfl)
          refine wp_pure (.pointer (some ⟨b, 0, none⟩)) ?_ (hk _ _ γ (by rw [if_neg (by decide)]; exact hG) ⟨trivial, fun _ _ => rfl⟩ rfl)
          simp [execOp, Act.eval, e1, go_sem]
        | 14, hi =>
          injection hi with hi; subst hi
          intro c a w1 γ hc0 hc1 hG hK hD K hk
          have d0 := hD 0 (by decide) (by kernel_rfl) (.inl rfl)
          change a.tmps.getD 51 undef = .pointer (some ⟨b, 0, none⟩) at d0
          refine wp_pure (.pointer (some ⟨b, 0, none⟩)) ?_ (hk _ _ γ (by rw [if_neg (by decide)]; exact hG) ⟨trivial, fun _ _ => rfl⟩ rfl)
          simp [execOp, Act.eval, d0, go_sem]
        | 15, hi =>
          injection hi with hi; subst hi
          intro c a w1 γ hc0 hc1 hG hK hD K hk
          have d0 := hD 0 (by decide) (by kernel_rfl) (.inl rfl)
          change a.tmps.getD 52 undef = .pointer (some ⟨b, 0, none⟩) at d0
          refine wp_pure (.pointer (some ⟨b, 3, none⟩)) ?_ (hk _ _ γ (by rw [if_neg (by decide)]; exact hG) ⟨trivial, fun _ _ => rfl⟩ rfl)
          simp [execOp, Act.eval, d0, go_sem]
        | 16, hi =>
          injection hi with hi; subst hi
          intro c a w1 γ hc0 hc1 hG hK hD K hk
          have d0 := hD 0 (by decide) (by kernel_rfl) (.inl rfl)
          change a.tmps.getD 53 undef = .pointer (some ⟨b, 3, none⟩) at d0
          have hc := hc0 (.inl (by kernel_rfl))
          subst hc
          have hQ : QB w1 b base Q _ _ _ := hG.1
          have x0 := hQ.o.cell 3 _ rfl
          refine wp_pure (.int .i64 Q.now) ?_ (hk _ _ γ (by rw [if_neg (by decide)]; exact hG) ⟨trivial, fun _ _ => rfl⟩ rfl)
          simp [execOp, Act.eval, d0, x0, go_sem]
        | 17, hi =>
          injection hi with hi; subst hi
          intro c a w1 γ hc0 hc1 hG hK hD K hk
          have d0 := hD 0 (by decide) (by kernel_rfl) (.inl rfl)
          change a.tmps.getD 50 undef = .int .i64 (Q.I[k]).2.1 at d0
          have d1 := hD 1 (by decide) (by kernel_rfl) (.inl rfl)
          change a.tmps.getD 54 undef = .int .i64 Q.now at d1
          rw [Array.getD_eq_getD_getElem?] at d0 d1
          refine wp_pure (.int .i64 (min (Q.I[k]).2.1 Q.now)) ?_ (hk _ _ γ (by rw [if_neg (by decide)]; exact hG) ⟨trivial, fun _ _ => rfl⟩ rfl)
          simp [execOp, Act.eval, d0, d1, go_sem]
        | 18, hi =>
          injection hi with hi; subst hi
          intro c a w1 γ hc0 hc1 hG hK hD K hk
          have d0 := hD 0 (by decide) (by kernel_rfl) (.inl rfl)
          change a.tmps.getD 41 undef = .slice (some ⟨g, 0, none⟩) Q.I.length pI at d0
          have d1 := hD 1 (by decide) (by kernel_rfl) (.inl rfl)
          change a.tmps.getD 42 undef = .int .i64 k at d1
          rw [Array.getD_eq_getD_getElem?] at d0 d1
          refine wp_pure (.pointer (some ⟨g, k * 3, none⟩)) ?_ (hk _ _ γ (by rw [if_neg (by decide)]; exact hG) ⟨trivial, fun _ _ => rfl⟩ rfl)
          simp [execOp, Act.eval, d0, d1, hki, hk0, go_sem]
        | 19, hi =>
          injection hi with hi; subst hi
          intro c a w1 γ hc0 hc1 hG hK hD K hk
          have d0 := hD 0 (by decide) (by kernel_rfl) (.inl rfl)
          change a.tmps.getD 56 undef = .pointer (some ⟨g, k * 3, none⟩) at d0
          refine wp_pure (.pointer (some ⟨g, k * 3 + 1, none⟩)) ?_ (hk _ _ γ (by rw [if_neg (by decide)]; exact hG) ⟨trivial, fun _ _ => rfl⟩ rfl)
          simp [execOp, Act.eval, d0, go_sem]
        | 20, hi =>
          injection hi with hi; subst hi
          intro c a w1 γ hc0 hc1 hG hK hD K hk
          have d0 := hD 0 (by decide) (by kernel_rfl) (.inl rfl)
          change a.tmps.getD 57 undef = .pointer (some ⟨g, k * 3 + 1, none⟩) at d0
          have d1 := hD 1 (by decide) (by kernel_rfl) (.inl rfl)
          change a.tmps.getD 55 undef = .int .i64 (min (Q.I[k]).2.1 Q.now) at d1
          have hc := hc0 (.inr rfl)
          subst hc
          have hQ : QB w1 b base Q _ _ _ := hG.1
          obtain ⟨g', pI', eI, -, -, -, -, hcell, hfz⟩ := hQ.q.i.opened (by rw [List.length_map]; omega)
          rw [List.length_map] at eI
          cases eI
          have c1 := hcell k _ 1 _ (hr.out k hI) rfl
          have f1 := hfz (k * 3 + 1)
          refine wp_skip (w' := w1.setCell ⟨g, k * 3 + 1, none⟩ (.int .i64 (min (Q.I[k]).2.1 Q.now))) ?_ (hk undef _ γ (by rw [if_pos rfl]; exact ⟨hQ.setI hI _, hG.2.setCell (p := ⟨g, k * 3 + 1, none⟩) hbg _⟩) ⟨trivial, fun _ _ => rfl⟩ trivial)
          simp [execOp, Act.eval, d0, d1, c1, f1, go_sem]
        | i + 21, hi => cases hi
      case hend =>
        intro x w3 γ hG hx
        have HQ : Hid (QB w3 b base { Q with I := Q.I.set k ((Q.I[k]).1, min (Q.I[k]).2.1 Q.now, (Q.I[k]).2.2) } (.slice (some ⟨g, 0, none⟩) Q.I.length pI) (.slice aD Q.D.length pD) (.slice aA Q.A.length pA)) := hG.1
        have HB := hide hG.2
        clear hG hx
        simp only [putAll, Act.put, List.setIfInBounds_toArray, List.set_cons_zero, List.set_cons_succ, Nat.zero_add, Nat.reduceAdd]
        go_wp2
        refine bodyPost_ret (v := .bool true) ?_ rfl ⟨_, _, _, ret_bool (by rw [Hput.out]), by rw [Hput.out]; exact HQ.out, HB.out⟩
        simp [results, Try.results91, go_sem]
    · have hp : plcI Q.I s = -1 := if_neg hI
      have Hput : Hid (putC Q s = (addQ Q (s, Q.now, 0), !decide (Q.I.length = 60))) := by
        show _ = _
        unfold putC addQ
        rw [if_neg hD, dif_neg hI]
        by_cases h60 : Q.I.length = 60
        · rw [if_pos h60, if_pos h60, decide_eq_true h60]; rfl
        · rw [if_neg h60, if_neg h60, decide_eq_false h60]; rfl
      go_wp2_with (first
        | (go_at_call 134; refine HP1.out.mono ?_; clear HP1; rintro e w1 ⟨rfl, hb1⟩; have H1 := hide (H.out.below hb1); have B1 : Hid (Below base w w1) := hb1.mono hbb.out; clear hb1 x1 H; have x0 := H1.out.o.cell 0 _ rfl; have HP2 := hide (itemPlace_any Q.I s _ w1 (by omega) (H1.out.q.i.rd (by decide))); rw [hp] at HP2)
        | (go_at_call 134; refine HP2.out.mono ?_; clear HP2; rintro e w2 ⟨rfl, hb2⟩; have H2 := hide (H1.out.below hb2); have B2 : Hid (Below base w w2) := B1.out.trans (hb2.mono (by have := H1.out.lt; omega)); clear hb2 x0 H1 B1; have x3 := H2.out.o.cell 3 _ rfl; have HAD := hide (add_any Q (s, Q.now, 0) b base _ _ _ w2 HK.out.1 H2.out hbase)))
      refine HAD.out.mono ?_
      rintro e w3 ⟨vI', rfl, hQ3, hb3⟩
      have HQ3 := hide hQ3
      have HB3 : Hid (Below base w w3) := B2.out.trans hb3
      clear hQ3 hb3 x3 HAD
      go_wp2
      go_ret
      exact ⟨_, _, _, ret_bool (by rw [Hput.out]), by rw [Hput.out]; exact HQ3.out, HB3.out⟩
end Go.Proofs.Ytpmhmcekkppbhaa
