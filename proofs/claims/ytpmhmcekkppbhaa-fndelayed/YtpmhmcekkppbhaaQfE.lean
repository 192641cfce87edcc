/- Queues: the specification's QueueOk. -/
import Derived.Test.YtpmhmcekkppbhaaQfD
import Derived.Deep.RegionHeld3
import Derived.Deep.QuietTactic
namespace Go.Proofs.Ytpmhmcekkppbhaa
open Go.RowKit Go.BigFrame
set_option linter.unusedVariables false

/-- what is asked of the i-th of all items -/
def itAt (L : List It) (nI : Nat) (i : Nat) (h : i < L.length) : Prop := itOk (L[i]'h) ∧ plcI L ((L[i]'h).1) = (i : Int) ∧ (nI ≤ i → (L[i]'h).2.1 = 0)
def agAt (D : List It) (A : List ByteArray) (i : Nat) (h : i < A.length) : Prop := 0 ≤ plcI D (A[i]'h) ∧ ∀ k (hk : k < i), (A[k]'(by omega)) ≠ A[i]'h
theorem plcI_mem {L : List It} {s : ByteArray} : 0 ≤ plcI L s ↔ s ∈ L.map (fun x => x.1) := by
  rw [← fndI_mem]
  unfold plcI
  split
  · exact ⟨fun _ => by assumption, fun _ => Int.natCast_nonneg _⟩
  · exact ⟨fun h => by omega, fun h => by omega⟩
theorem nodup_ag {A : List ByteArray} : A.Nodup ↔ ∀ i (h : i < A.length) k (hk : k < i), (A[k]'(by omega)) ≠ A[i]'h := by
  rw [List.nodup_iff_pairwise_ne, List.pairwise_iff_getElem]
  exact ⟨fun h i hi k hk => h k i (by omega) hi hk, fun h i j hi hj hij => h j hj i hij⟩
theorem qOkP_iff {Q : Qu} : qOkP Q ↔ ((∀ i (h : i < (Q.I ++ Q.D).length), itAt (Q.I ++ Q.D) Q.I.length i h) ∧ (∀ i (h : i < Q.A.length), agAt Q.D Q.A i h)) ∧ Q.I.length ≤ 60 ∧ Q.D.length ≤ 60 ∧ (0 ≤ Q.now ∧ Q.now ≤ 1000000) := by
  unfold qOkP
  constructor
  · rintro ⟨h1, h2, h3, h4, h5, h6, h7, h8⟩
    refine ⟨⟨fun i h => ⟨h4 _ (List.getElem_mem h), nodup_fnd.1 h6 i h, fun hi => ?_⟩, fun i h => ⟨plcI_mem.2 (h8 _ (List.getElem_mem h)), nodup_ag.1 h7 i h⟩⟩, h1, h2, h3⟩
    rw [List.getElem_append_right hi]
    exact h5 _ (List.getElem_mem _)
  · rintro ⟨⟨g1, g2⟩, h1, h2, h3⟩
    refine ⟨h1, h2, h3, fun x hx => ?_, fun x hx => ?_, nodup_fnd.2 fun i h => (g1 i h).2.1, nodup_ag.2 fun i h => (g2 i h).2, fun s hs => ?_⟩
    · obtain ⟨i, hi, rfl⟩ := List.mem_iff_getElem.1 hx
      exact (g1 i hi).1
    · obtain ⟨i, hi, rfl⟩ := List.mem_iff_getElem.1 hx
      have hl : Q.I.length + i < (Q.I ++ Q.D).length := by rw [List.length_append]; omega
      have := (g1 (Q.I.length + i) hl).2.2 (by omega)
      rw [List.getElem_append_right (by omega)] at this
      have e : Q.I.length + i - Q.I.length = i := by omega
      simpa [e] using this
    · obtain ⟨i, hi, rfl⟩ := List.mem_iff_getElem.1 hs
      exact plcI_mem.1 (g2 i hi).1
def FE (w0 : World) (tI : TypeId) (Q : Qu) (cI cD : Value) : Nat → (Nat → Nat) → Value → World → Prop
  | 0, γ, v, w => ∃ g, v = .slice (some ⟨g, 0, none⟩) 0 0 ∧ ownR w (w0.heap.size + 1) tI 3 v []
  | 1, γ, v, w => v = .pointer (some ⟨w0.heap.size, 0, none⟩)
  | 2, γ, v, w => v = cI
  | 3, γ, v, w => ownR w (w0.heap.size + 1) tI 3 v (Q.I.map encI)
  | 4, γ, v, w => v = .pointer (some ⟨w0.heap.size, 1, none⟩)
  | 5, γ, v, w => v = cD
  | 6, γ, v, w => ownR w (w0.heap.size + 1) tI 3 v (Q.I.map encI ++ Q.D.map encI)
  | 7, γ, v, w => ownR w (w0.heap.size + 1) tI 3 v (Q.I.map encI ++ Q.D.map encI)
  | _, _, _, _ => False
set_option maxRecDepth 20000 in
set_option maxHeartbeats 1600000 in
theorem sQueueOk_any (Q : Qu) (xs : List Value) (w : World) (hq : okQ Q) (hx : rdQ w Q xs) :
    Calls Try.prog 35 #[.agg xs.toArray] w fun e w' => e = .returned (.bool (qOk Q)) ∧ Below w.heap.size w w' := by
  obtain ⟨cI, cD, cA, rfl, hI, hD, hA⟩ := hx
  have l1 := hq.1.1
  have l2 := hq.2.1.1
  have l3 := hq.2.2.1.1
  obtain ⟨aI, pI, rfl, -, -⟩ := hI.itS
  obtain ⟨aD, pD, rfl, -, -⟩ := hD.itS
  obtain ⟨aA, pA, rfl, -, -⟩ := hA.stS
  have HI := hide hI
  have HD := hide hD
  have HA := hide hA
  have L1 := hide l1
  have L2 := hide l2
  have HK := hide hq
  clear hI hD hA hq l1 l2
  have HEI := hide elI
  go_enter Try.func35, Try.ntmps35
  go_wp2
  have OX : Hid (objU (w.alloc (.cells #[.slice aI Q.I.length pI, .slice aD Q.D.length pD, .slice aA Q.A.length pA, .int .i64 Q.now] 66)) w.heap.size 66 [.slice aI Q.I.length pI, .slice aD Q.D.length pD, .slice aA Q.A.length pA, .int .i64 Q.now]) := objU.new _ _ _
  have BX : Hid (Below w.heap.size w (w.alloc (.cells #[.slice aI Q.I.length pI, .slice aD Q.D.length pD, .slice aA Q.A.length pA, .int .i64 Q.now] 66))) := (Below.refl _ _).alloc (Nat.le_refl _) _
  have SZ : Hid ((w.alloc (.cells #[.slice aI Q.I.length pI, .slice aD Q.D.length pD, .slice aA Q.A.length pA, .int .i64 Q.now] 66)).heap.size = w.heap.size + 1) := by show _ = _; simp
  generalize w.alloc (.cells #[.slice aI Q.I.length pI, .slice aD Q.D.length pD, .slice aA Q.A.length pA, .int .i64 Q.now] 66) = wx at *
  refine wp_region_inv (fun i => if i = 6 then Below (w.heap.size + 1) else fun a b => Below a.heap.size a b) (fun j => if j = 0 then some 6 else if j = 3 then some 6 else none) (fun w' => Below w.heap.size w w' ∧ objU w' w.heap.size 66 [.slice aI Q.I.length pI, .slice aD Q.D.length pD, .slice aA Q.A.length pA, .int .i64 Q.now])
    (FE w 75 Q (.slice aI Q.I.length pI) (.slice aD Q.D.length pD)) (by kernel_rfl) (by kernel_rfl) (by kernel_rfl) ?hF ?hU ?hG ?hstep ?hend
  case hF =>
    intro i j γ γ' v w1 w2 hij hsp hnd hsd h hfr
    have ho := hfr.out
    match j, h with
    | 0, ⟨g, h1, h2⟩ =>
      rw [if_neg (fun e => hsp (by simp [e]))] at ho
      exact ⟨g, h1, h2.below ho⟩
    | 1, h => exact h
    | 2, h => exact h
    | 3, h =>
      rw [if_neg (fun e => hsp (by simp [e]))] at ho
      exact h.below ho
    | 4, h => exact h
    | 5, h => exact h
    | 6, h =>
      rw [if_neg hij] at ho
      exact h.below ho
    | 7, h =>
      rw [if_neg (fun e => by subst e; cases (hnd.symm.trans (by kernel_rfl) : false = true))] at ho
      exact h.below ho
    | j + 8, h => exact h.elim
  case hU =>
    intro i o hi hd γ v w1 h
    match i, hi with
    | 0, hi => (injection hi with hi; subst hi; cases hd)
    | 1, hi => (injection hi with hi; subst hi; cases hd)
    | 2, hi => (injection hi with hi; subst hi; cases hd)
    | 3, hi => (injection hi with hi; subst hi; cases hd)
    | 4, hi => (injection hi with hi; subst hi; cases hd)
    | 5, hi => (injection hi with hi; subst hi; cases hd)
    | 6, hi => (injection hi with hi; subst hi; cases hd)
    | 7, hi => (injection hi with hi; subst hi; cases hd)
    | i + 8, hi => cases hi
  case hG => exact ⟨Below.drew BX.out, objU.dr9 OX.out⟩
  case hstep =>
    intro i o hi
    match i, hi with
    | 0, hi =>
      injection hi with hi; subst hi
      intro a w1 γ hG hK hD K hk
      refine wp_val (.slice (some ⟨w1.heap.size, 0, none⟩) 0 0) ?_ (hk _ _ γ ⟨hG.1.alloc hG.1.size _, hG.2.old _⟩ ⟨below_alloc _ _, fun _ _ => rfl⟩ ⟨_, rfl, ownR.lit w1 _ 75 3 hG.2.lt⟩)
      simp [execOp, Act.eval, go_sem]
    | 1, hi =>
      injection hi with hi; subst hi
      intro a w1 γ hG hK hD K hk
      have e1 := hK.at 1 (by kernel_rfl)
      refine wp_pure (.pointer (some ⟨w.heap.size, 0, none⟩)) ?_ (hk _ _ γ hG (Fr.same (Below.refl _ _)) rfl)
      simp [execOp, Act.eval, e1, go_sem]
    | 2, hi =>
      injection hi with hi; subst hi
      intro a w1 γ hG hK hD K hk
      have d := hD 0 (by decide) (by kernel_rfl) (.inl rfl)
      change a.tmps.getD 9 undef = .pointer (some ⟨w.heap.size, 0, none⟩) at d
      have x0 := hG.2.cell 0 _ rfl
      refine wp_pure _ ?_ (hk _ _ γ hG (Fr.same (Below.refl _ _)) rfl)
      simp [execOp, Act.eval, d, x0, go_sem]
    | 4, hi =>
      injection hi with hi; subst hi
      intro a w1 γ hG hK hD K hk
      have e1 := hK.at 1 (by kernel_rfl)
      refine wp_pure (.pointer (some ⟨w.heap.size, 1, none⟩)) ?_ (hk _ _ γ hG (Fr.same (Below.refl _ _)) rfl)
      simp [execOp, Act.eval, e1, go_sem]
    | 5, hi =>
      injection hi with hi; subst hi
      intro a w1 γ hG hK hD K hk
      have d := hD 0 (by decide) (by kernel_rfl) (.inl rfl)
      change a.tmps.getD 12 undef = .pointer (some ⟨w.heap.size, 1, none⟩) at d
      have x0 := hG.2.cell 1 _ rfl
      refine wp_pure _ ?_ (hk _ _ γ hG (Fr.same (Below.refl _ _)) rfl)
      simp [execOp, Act.eval, d, x0, go_sem]
    | 3, hi =>
      injection hi with hi; subst hi
      intro a w1 γ hG hK hD K hk
      have d0 := hD 0 (by decide) (by kernel_rfl) (.inr (.inr ⟨6, rfl, by kernel_rfl⟩))
      change ∃ g, a.tmps.getD 8 undef = .slice (some ⟨g, 0, none⟩) 0 0 ∧ ownR w1 (w.heap.size + 1) 75 3 (a.tmps.getD 8 undef) [] at d0
      have d2 := hD 1 (by decide) (by kernel_rfl) (.inl rfl)
      change a.tmps.getD 10 undef = _ at d2
      obtain ⟨g, g1, g2⟩ := d0
      rw [g1] at g2
      obtain ⟨v', w', r1, r2, r3, r4⟩ := run_append_rd0 HEI.out (by decide) 64 (w.heap.size + 1) g g2 _ _ (HI.out.below hG.1) (rowsI _) (oneI _) (by have := L1.out; simp; omega) hG.2.lt
      refine wp_val v' ?_ (hk _ _ γ ⟨hG.1.trans (r3.mono hG.1.size), hG.2.below r3⟩ ⟨r3, fun _ _ => rfl⟩ r2)
      exact append_run (.tmp 8) (.tmp 10) 64 rfl g1 d2 r1
    | 6, hi =>
      injection hi with hi; subst hi
      intro a w1 γ hG hK hD K hk
      have d0 := hD 0 (by decide) (by kernel_rfl) (.inr (.inl rfl))
      change ownR w1 (w.heap.size + 1) 75 3 (a.tmps.getD 11 undef) (Q.I.map encI) at d0
      have d2 := hD 1 (by decide) (by kernel_rfl) (.inl rfl)
      change a.tmps.getD 13 undef = _ at d2
      obtain ⟨v', w', r1, r2, r3, r4⟩ := run_append_rd HEI.out (by decide) 64 (w.heap.size + 1) _ _ d0 _ _ (HD.out.below hG.1) (rowsI _) (oneI _) (by have := L1.out; have := L2.out; simp; omega) hG.2.lt
      have rb : Below (w.heap.size + 1) w1 w' := Below.grown (Below.refl _ _) r3 hG.2.lt (fun g hg => (d0.lt g (blk_own.2 hg)).1)
      refine wp_val v' ?_ (hk _ _ γ ⟨hG.1.trans (rb.mono (Nat.le_succ _)), (rb.block _ (Nat.lt_succ_self _)).trans hG.2⟩ ⟨rb, fun _ _ => rfl⟩ r2)
      exact append_run (.tmp 11) (.tmp 13) 64 rfl rfl d2 r1
    | 7, hi =>
      injection hi with hi; subst hi
      intro a w1 γ hG hK hD K hk
      have d0 := hD 0 (by decide) (by kernel_rfl) (.inl rfl)
      change ownR w1 (w.heap.size + 1) 75 3 (a.tmps.getD 14 undef) _ at d0
      refine wp_pure (a.tmps.getD 14 undef) ?_ (hk _ _ γ hG (Fr.same (Below.refl _ _)) d0)
      simp [execOp, Act.eval, go_sem]
    | i + 8, hi => cases hi
  case hend =>
    intro x w1 γ hG hx
    have hf : ownR w1 (w.heap.size + 1) 75 3 (x 7) (Q.I.map encI ++ Q.D.map encI) := hx 7 (by decide) rfl
    rw [← List.map_append] at hf
    simp only [putAll, Act.put, List.setIfInBounds_toArray, List.set_cons_zero, List.set_cons_succ, Nat.zero_add, Nat.reduceAdd]
    obtain ⟨L, hL⟩ : ∃ L, Q.I ++ Q.D = L := ⟨_, rfl⟩
    rw [hL] at hf
    obtain ⟨aL, pL, hx7⟩ := hf.itS
    rw [hx7] at hf ⊢
    have HL := hide (hf.rd (by decide))
    have HB := hide hG.1
    have OB := hide hG.2
    have HLE := hide hL
    have hLl : L.length ≤ 2097152 := by rw [← hL, List.length_append]; have := L1.out; have := L2.out; omega
    have HKL : Hid (∀ x ∈ L, okI x) := fun x hx => by
      rw [← HLE.out] at hx
      exact (List.mem_append.1 hx).elim (HK.out.1.2 x) (HK.out.2.1.2 x)
    have HIFF : Hid (qOkP Q ↔ ((∀ i (h : i < L.length), itAt L Q.I.length i h) ∧ (∀ i (h : i < Q.A.length), agAt Q.D Q.A i h)) ∧ Q.I.length ≤ 60 ∧ Q.D.length ≤ 60 ∧ (0 ≤ Q.now ∧ Q.now ≤ 1000000)) := by
      show _ ↔ _
      rw [qOkP_iff]
      subst hL
      exact Iff.rfl
    clear hL hf hG hx hx7 OX BX SZ
    go_wp2
    go_loopw [4] (fun i wr => ∃ (q : Nat), q ≤ L.length ∧ i = .int .i64 q ∧ Hid (∀ j (h : j < L.length), j < q → itAt L Q.I.length j h) ∧ Hid (Below w1.heap.size w1 wr)) (fun i _ => L.length - (intOf i).toNat)
    case atStart => exact ⟨0, Nat.zero_le _, rfl, (fun j _ h => by omega), Below.refl _ _⟩
    case round =>
      obtain ⟨q, hq, rfl, Ho, Hb⟩ := hrel
      by_cases hlt : q < L.length
      · have HLr := hide (HL.out.below Hb.out)
        obtain ⟨b, off, rfl, hbk, c0, c1, c2⟩ := HLr.out.itAt hlt
        have OBr := OB.out.below Hb.out
        have x0 := OBr.cell 0 _ rfl
        have hs := (HKL.out _ (List.getElem_mem hlt)).1
        have Hit : Hid (itAt L Q.I.length q hlt ↔ (nameB (L[q].1) = true ∧ plcI L (L[q].1) = (q : Int) ∧ inB (L[q].2.1) 0 1000064 = true ∧ inB (L[q].2.2) 0 1000 = true ∧ (Q.I.length ≤ q → L[q].2.1 = 0))) := by
          show _ ↔ _
          unfold itAt itOk inB
          simp only [decide_eq_true_eq]
          exact ⟨fun ⟨⟨a, b, c⟩, d, e⟩ => ⟨a, d, b, c, e⟩, fun ⟨a, d, b, c, e⟩ => ⟨⟨a, b, c⟩, d, e⟩⟩
        have Hno : Hid (¬ itAt L Q.I.length q hlt → qOk Q = false) := fun h => qOk_false (fun g => h ((HIFF.out.1 g).1.1 q hlt))
        have Hye : Hid (itAt L Q.I.length q hlt → ∀ j (h : j < L.length), j < q + 1 → itAt L Q.I.length j h) := fun h j hj hjq => by
          by_cases e : j = q
          · subst e; exact h
          · exact Ho.out j hj (by omega)
        have HF : Hid (∀ wx, Below wr.heap.size wr wx → Calls Try.prog 93 #[.slice (some ⟨b, off, none⟩) L.length pL, .string (L[q].1)] wx fun e w' => e = .returned (.int .i64 (plcI L (L[q].1))) ∧ w' = wx) := fun wx hb => l9Find_any L _ _ wx (HLr.out.below hb) (by omega)
        have HN : Hid (∀ wx, Calls Try.prog 65 #[.string (L[q].1)] wx fun e w' => e = .returned (.bool (nameB (L[q].1))) ∧ w' = wx) := fun wx => sname_any _ wx hs
        have H1 : Hid (∀ wx, Calls Try.prog 66 #[.int .i64 (L[q].2.1), .int .i64 0, .int .i64 1000064] wx fun e w' => e = .returned (.bool (inB (L[q].2.1) 0 1000064)) ∧ w' = wx) := fun wx => l1In_any _ _ _ wx
        have H2 : Hid (∀ wx, Calls Try.prog 66 #[.int .i64 (L[q].2.2), .int .i64 0, .int .i64 1000] wx fun e w' => e = .returned (.bool (inB (L[q].2.2) 0 1000)) ∧ w' = wx) := fun wx => l1In_any _ _ _ wx
        have hq0 : (0 : Int) ≤ (q : Int) := Int.natCast_nonneg _
        clear hs HLr OBr
        generalize L[q].1 = s at *
        generalize L[q].2.1 = rd at *
        generalize L[q].2.2 = fl at *
        generalize plcI L s = pl at *
        generalize nameB s = nb at *
        generalize inB rd 0 1000064 = r1 at *
        generalize inB fl 0 1000 = r2 at *
        have HW : Hid (Below w.heap.size w wr) := HB.out.trans (Hb.out.mono HB.out.size)
        have HBl : Hid (w.heap.size < wr.heap.size) := (OB.out.below Hb.out).lt
        cases nb with
        | false =>
          have Hn := hide (Hno.out (fun h => by have := (Hit.out.1 h).1; cases this))
          clear Hit Hno Hye Ho
          go_wp2_with (first
              | (go_at_call 65; refine (HN.out _).mono ?_; rintro e w' ⟨rfl, rfl⟩)
              | (go_at_call 93; refine (HF.out _ (by repeat (first | with_reducible exact Below.refl _ _ | with_reducible refine Below.setCell ?_ (by simp) _ | with_reducible refine Below.alloc ?_ (by simp) _))).mono ?_; rintro e w' ⟨rfl, rfl⟩)
              | (go_at_call 66; refine (H1.out _).mono ?_; clear H1; rintro e w' ⟨rfl, rfl⟩)
              | (go_at_call 66; refine (H2.out _).mono ?_; rintro e w' ⟨rfl, rfl⟩))
          go_ret
          exact ⟨ret_bool Hn.out.symm, HW.out.trans (Below.mono (by repeat (first | with_reducible exact Below.refl _ _ | with_reducible refine Below.setCell ?_ (by simp) _ | with_reducible refine Below.alloc ?_ (by simp) _)) HW.out.size)⟩
        | true =>
          by_cases hp : pl = (q : Int)
          · subst hp
            cases r1 with
            | false =>
              have Hn := hide (Hno.out (fun h => by have := (Hit.out.1 h).2.2.1; cases this))
              clear Hit Hno Hye Ho
              go_wp2_with (first
              | (go_at_call 65; refine (HN.out _).mono ?_; rintro e w' ⟨rfl, rfl⟩)
              | (go_at_call 93; refine (HF.out _ (by repeat (first | with_reducible exact Below.refl _ _ | with_reducible refine Below.setCell ?_ (by simp) _ | with_reducible refine Below.alloc ?_ (by simp) _))).mono ?_; rintro e w' ⟨rfl, rfl⟩)
              | (go_at_call 66; refine (H1.out _).mono ?_; clear H1; rintro e w' ⟨rfl, rfl⟩)
              | (go_at_call 66; refine (H2.out _).mono ?_; rintro e w' ⟨rfl, rfl⟩))
              go_ret
              exact ⟨ret_bool Hn.out.symm, HW.out.trans (Below.mono (by repeat (first | with_reducible exact Below.refl _ _ | with_reducible refine Below.setCell ?_ (by simp) _ | with_reducible refine Below.alloc ?_ (by simp) _)) HW.out.size)⟩
            | true =>
              cases r2 with
              | false =>
                have Hn := hide (Hno.out (fun h => by have := (Hit.out.1 h).2.2.2.1; cases this))
                clear Hit Hno Hye Ho
                go_wp2_with (first
              | (go_at_call 65; refine (HN.out _).mono ?_; rintro e w' ⟨rfl, rfl⟩)
              | (go_at_call 93; refine (HF.out _ (by repeat (first | with_reducible exact Below.refl _ _ | with_reducible refine Below.setCell ?_ (by simp) _ | with_reducible refine Below.alloc ?_ (by simp) _))).mono ?_; rintro e w' ⟨rfl, rfl⟩)
              | (go_at_call 66; refine (H1.out _).mono ?_; clear H1; rintro e w' ⟨rfl, rfl⟩)
              | (go_at_call 66; refine (H2.out _).mono ?_; rintro e w' ⟨rfl, rfl⟩))
                go_ret
                exact ⟨ret_bool Hn.out.symm, HW.out.trans (Below.mono (by repeat (first | with_reducible exact Below.refl _ _ | with_reducible refine Below.setCell ?_ (by simp) _ | with_reducible refine Below.alloc ?_ (by simp) _)) HW.out.size)⟩
              | true =>
                by_cases hI : Q.I.length ≤ q
                · have hIi : (Q.I.length : Int) ≤ (q : Int) := by omega
                  have hBl := HBl.out
                  by_cases hr : rd = 0
                  · have hr1 : (rd == 0) = true := by simpa using hr
                    have Hy := hide (Hye.out (Hit.out.2 ⟨rfl, rfl, rfl, rfl, fun _ => hr⟩))
                    clear hr Hye
                    clear Hit Hno Ho
                    go_wp2_with (first
              | (go_at_call 65; refine (HN.out _).mono ?_; rintro e w' ⟨rfl, rfl⟩)
              | (go_at_call 93; refine (HF.out _ (by repeat (first | with_reducible exact Below.refl _ _ | with_reducible refine Below.setCell ?_ (by simp) _ | with_reducible refine Below.alloc ?_ (by simp) _))).mono ?_; rintro e w' ⟨rfl, rfl⟩)
              | (go_at_call 66; refine (H1.out _).mono ?_; clear H1; rintro e w' ⟨rfl, rfl⟩)
              | (go_at_call 66; refine (H2.out _).mono ?_; rintro e w' ⟨rfl, rfl⟩))
                    go_roundw
                    case rel => exact ⟨q + 1, by omega, by go_num, Hy, Hb.out.trans (Below.mono (by repeat (first | with_reducible exact Below.refl _ _ | with_reducible refine Below.setCell ?_ (by simp) _ | with_reducible refine Below.alloc ?_ (by simp) _)) Hb.out.size)⟩
                    case measure => simp [intOf]; omega
                  · have hr1 : (rd == 0) = false := by simpa using hr
                    have Hr := hide hr
                    clear hr
                    have Hn := hide (Hno.out (fun h => Hr.out ((Hit.out.1 h).2.2.2.2 hI)))
                    clear Hit Hno Hye Ho
                    go_wp2_with (first
              | (go_at_call 65; refine (HN.out _).mono ?_; rintro e w' ⟨rfl, rfl⟩)
              | (go_at_call 93; refine (HF.out _ (by repeat (first | with_reducible exact Below.refl _ _ | with_reducible refine Below.setCell ?_ (by simp) _ | with_reducible refine Below.alloc ?_ (by simp) _))).mono ?_; rintro e w' ⟨rfl, rfl⟩)
              | (go_at_call 66; refine (H1.out _).mono ?_; clear H1; rintro e w' ⟨rfl, rfl⟩)
              | (go_at_call 66; refine (H2.out _).mono ?_; rintro e w' ⟨rfl, rfl⟩))
                    go_ret
                    exact ⟨ret_bool Hn.out.symm, HW.out.trans (Below.mono (by repeat (first | with_reducible exact Below.refl _ _ | with_reducible refine Below.setCell ?_ (by simp) _ | with_reducible refine Below.alloc ?_ (by simp) _)) HW.out.size)⟩
                · have hIi : ¬ (Q.I.length : Int) ≤ (q : Int) := by omega
                  have hBl := HBl.out
                  have Hy := hide (Hye.out (Hit.out.2 ⟨rfl, rfl, rfl, rfl, fun h => (hI h).elim⟩))
                  clear Hye
                  clear Hit Hno Ho
                  go_wp2_with (first
              | (go_at_call 65; refine (HN.out _).mono ?_; rintro e w' ⟨rfl, rfl⟩)
              | (go_at_call 93; refine (HF.out _ (by repeat (first | with_reducible exact Below.refl _ _ | with_reducible refine Below.setCell ?_ (by simp) _ | with_reducible refine Below.alloc ?_ (by simp) _))).mono ?_; rintro e w' ⟨rfl, rfl⟩)
              | (go_at_call 66; refine (H1.out _).mono ?_; clear H1; rintro e w' ⟨rfl, rfl⟩)
              | (go_at_call 66; refine (H2.out _).mono ?_; rintro e w' ⟨rfl, rfl⟩))
                  go_roundw
                  case rel => exact ⟨q + 1, by omega, by go_num, Hy, Hb.out.trans (Below.mono (by repeat (first | with_reducible exact Below.refl _ _ | with_reducible refine Below.setCell ?_ (by simp) _ | with_reducible refine Below.alloc ?_ (by simp) _)) Hb.out.size)⟩
                  case measure => simp [intOf]; omega
          · have hp1 : (pl == (q : Int)) = false := by simpa using hp
            have Hp := hide hp
            clear hp
            have Hn := hide (Hno.out (fun h => Hp.out (Hit.out.1 h).2.1))
            clear Hit Hno Hye Ho
            go_wp2_with (first
              | (go_at_call 65; refine (HN.out _).mono ?_; rintro e w' ⟨rfl, rfl⟩)
              | (go_at_call 93; refine (HF.out _ (by repeat (first | with_reducible exact Below.refl _ _ | with_reducible refine Below.setCell ?_ (by simp) _ | with_reducible refine Below.alloc ?_ (by simp) _))).mono ?_; rintro e w' ⟨rfl, rfl⟩)
              | (go_at_call 66; refine (H1.out _).mono ?_; clear H1; rintro e w' ⟨rfl, rfl⟩)
              | (go_at_call 66; refine (H2.out _).mono ?_; rintro e w' ⟨rfl, rfl⟩))
            go_ret
            exact ⟨ret_bool Hn.out.symm, HW.out.trans (Below.mono (by repeat (first | with_reducible exact Below.refl _ _ | with_reducible refine Below.setCell ?_ (by simp) _ | with_reducible refine Below.alloc ?_ (by simp) _)) HW.out.size)⟩
      · have e : q = L.length := by omega
        subst e
        obtain ⟨wm, rfl⟩ : ∃ wm, wm = wr := ⟨_, rfl⟩
        have HA1 : Hid (∀ i (h : i < L.length), itAt L Q.I.length i h) := fun i h => Ho.out i h h
        have HW : Hid (Below w.heap.size w wm) := HB.out.trans (Hb.out.mono HB.out.size)
        have OBr := hide (OB.out.below Hb.out)
        have hA3 : Q.A.length ≤ 1048576 := l3
        clear Ho HL OB Hb HB HKL
        go_wp2
        go_loopw [6] (fun i wx => ∃ (k : Nat), k ≤ Q.A.length ∧ i = .int .i64 k ∧ Hid (∀ j (h : j < Q.A.length), j < k → agAt Q.D Q.A j h) ∧ Hid (Below wm.heap.size wm wx)) (fun i _ => Q.A.length - (intOf i).toNat)
        case atStart => exact ⟨0, Nat.zero_le _, rfl, (fun j _ h => by omega), Below.refl _ _⟩
        case round =>
          obtain ⟨k, hk, rfl, Hg, Hx⟩ := hrel
          have HWx : Hid (Below w.heap.size w wr) := HW.out.trans (Hx.out.mono HW.out.size)
          have OBx := OBr.out.below Hx.out
          have x0 := OBx.cell 0 _ rfl
          have x1 := OBx.cell 1 _ rfl
          have x2 := OBx.cell 2 _ rfl
          have x3 := OBx.cell 3 _ rfl
          clear OBx
          by_cases hlt : k < Q.A.length
          · obtain ⟨bA, oA, rfl, hbA, ca⟩ := (HA.out.below HWx.out).stAt hlt
            have Hag : Hid (agAt Q.D Q.A k hlt ↔ (0 ≤ plcI Q.D (Q.A[k]) ∧ ∀ j (h : j < k), (Q.A[j]'(by omega)) ≠ Q.A[k])) := Iff.rfl
            have Hno : Hid (¬ agAt Q.D Q.A k hlt → qOk Q = false) := fun h => qOk_false (fun g => h ((HIFF.out.1 g).1.2 k hlt))
            have Hye : Hid (agAt Q.D Q.A k hlt → ∀ j (h : j < Q.A.length), j < k + 1 → agAt Q.D Q.A j h) := fun h j hj hjq => by
              by_cases e : j = k
              · subst e; exact h
              · exact Hg.out j hj (by omega)
            have HF : Hid (∀ wy, Below wr.heap.size wr wy → Calls Try.prog 93 #[.slice aD Q.D.length pD, .string (Q.A[k])] wy fun e w' => e = .returned (.int .i64 (plcI Q.D (Q.A[k]))) ∧ w' = wy) := fun wy hb => l9Find_any Q.D _ _ wy (HD.out.below (HWx.out.trans (hb.mono HWx.out.size))) (by have := L2.out; omega)
            have hk0 : (0 : Int) ≤ (k : Int) := Int.natCast_nonneg _
            clear Hg
            by_cases hp : plcI Q.D (Q.A[k]) < 0
            · have Hn := hide (Hno.out (fun h => by have := (Hag.out.1 h).1; omega))
              clear Hag Hno Hye
              generalize plcI Q.D (Q.A[k]) = pl at *
              generalize Q.A[k] = s at *
              go_wp2
              go_quiet ((go_at_call 93; exact Calls.quiet_of_same (HF.out _ (below_drewN (Below.refl _ _) _))))
              go_wp2
              go_ret
              exact ⟨ret_bool Hn.out.symm, below_drewN HWx.out _⟩
            · have hp0 : 0 ≤ plcI Q.D (Q.A[k]) := by omega
              have Hp := hide hp0
              clear hp0
              obtain ⟨pl, hpl⟩ : ∃ pl, plcI Q.D (Q.A[k]) = pl := ⟨_, rfl⟩
              obtain ⟨s, hs⟩ : ∃ s, Q.A[k] = s := ⟨_, rfl⟩
              rw [hpl] at hp HF
              rw [hs] at ca HF
              have HS := hide hs
              clear hpl hs
              go_wp2
              go_quiet ((go_at_call 93; exact Calls.quiet_of_same (HF.out _ (below_drewN (Below.refl _ _) _))))
              go_wp2
              obtain ⟨wk, rfl⟩ : ∃ wk, wk = wr := ⟨_, rfl⟩
              go_loopw [7] (fun i wy => ∃ (j : Nat), j ≤ k ∧ i = .int .i64 j ∧ Hid (∀ i (h : i < j), ∃ hl : i < Q.A.length, Q.A[i] ≠ s) ∧ Hid (Below wk.heap.size wk wy)) (fun i _ => k - (intOf i).toNat)
              case atStart => exact ⟨0, Nat.zero_le _, rfl, (fun j h => by omega), below_drewN (Below.refl _ _) _⟩
              case round =>
                obtain ⟨j, hj, rfl, Hj, Hy⟩ := hrel
                have HWy : Hid (Below w.heap.size w wr) := HWx.out.trans (Hy.out.mono HWx.out.size)
                have y2 := ((OBr.out.below Hx.out).below Hy.out).cell 2 _ rfl
                by_cases hlj : j < k
                · have hjA : j < Q.A.length := by omega
                  obtain ⟨bA', oA', eA, hbA', ca'⟩ := (HA.out.below HWy.out).stAt hjA
                  cases eA
                  obtain ⟨bA', oA', eA, hbA'', ck⟩ := (HA.out.below HWy.out).stAt hlt
                  cases eA
                  rw [HS.out] at ck
                  have Hno2 : Hid (Q.A[j] = s → qOk Q = false) := fun e => Hno.out (fun h => (Hag.out.1 h).2 j hlj (e.trans HS.out.symm))
                  have Hye2 : Hid (Q.A[j] ≠ s → ∀ i (h : i < j + 1), ∃ hl : i < Q.A.length, Q.A[i] ≠ s) := fun e i hi => by
                    by_cases ee : i = j
                    · subst ee; exact ⟨hjA, e⟩
                    · exact Hj.out i (by omega)
                  have he := beq_str (Q.A[j]) s
                  have hj0 : (0 : Int) ≤ (j : Int) := Int.natCast_nonneg _
                  clear Hj ca
                  generalize Q.A[j] = u at *
                  by_cases hu : u = s
                  · rw [decide_eq_true hu] at he
                    have Hn := hide (Hno2.out hu)
                    clear Hno2 Hye2 hu
                    go_wp2
                    go_quiet (fail)
                    go_wp2
                    go_ret
                    exact ⟨ret_bool Hn.out.symm, below_drewN HWy.out _⟩
                  · rw [decide_eq_false hu] at he
                    have Hn := hide (Hye2.out hu)
                    clear Hno2 Hye2 hu
                    go_wp2
                    go_quiet (fail)
                    go_wp2
                    go_roundw
                    case rel => exact ⟨j + 1, by omega, by go_num, Hn, below_drewN Hy.out _⟩
                    case measure => simp [intOf]; omega
                · have e : j = k := by omega
                  subst e
                  have Hn := hide (Hye.out (Hag.out.2 ⟨Hp.out, fun i hi => by obtain ⟨_, h⟩ := Hj.out i hi; rw [HS.out]; exact h⟩))
                  clear Hj Hye Hno
                  go_wp2
                  go_roundw
                  case rel => exact ⟨j + 1, by omega, by go_num, Hn, Hx.out.trans (Hy.out.mono Hx.out.size)⟩
                  case measure => simp [intOf]; omega
          · have e : k = Q.A.length := by omega
            subst e
            have Hfin : Hid (qOk Q = (decide (Q.I.length ≤ 60) && (decide (Q.D.length ≤ 60) && inB Q.now 0 1000000))) := by
              show _ = _
              rw [Bool.eq_iff_iff, qOk_iff, HIFF.out]
              unfold inB
              simp only [Bool.and_eq_true, decide_eq_true_eq]
              exact ⟨fun h => ⟨h.2.1, h.2.2.1, h.2.2.2⟩, fun h => ⟨⟨HA1.out, fun i hi => Hg.out i hi hi⟩, h.1, h.2.1, h.2.2⟩⟩
            have H3 : Hid (∀ wx, Calls Try.prog 66 #[.int .i64 Q.now, .int .i64 0, .int .i64 1000000] wx fun e w' => e = .returned (.bool (inB Q.now 0 1000000)) ∧ w' = wx) := fun wx => l1In_any _ _ _ wx
            clear Hg HIFF HA1 HA HD
            generalize inB Q.now 0 1000000 = r3 at *
            by_cases c1 : Q.I.length ≤ 60
            · have c1' : (Q.I.length : Int) ≤ 60 := by omega
              by_cases c2 : Q.D.length ≤ 60
              · have c2' : (Q.D.length : Int) ≤ 60 := by omega
                have Hn : Hid (qOk Q = r3) := by show _ = _; rw [Hfin.out, decide_eq_true c1, decide_eq_true c2]; rfl
                clear Hfin c1 c2
                go_wp2_with (go_at_call 66; refine (H3.out _).mono ?_; rintro e w' ⟨rfl, rfl⟩)
                go_ret
                exact ⟨ret_bool Hn.out.symm, HWx.out⟩
              · have c2' : ¬ (Q.D.length : Int) ≤ 60 := by omega
                have Hn : Hid (qOk Q = false) := by show _ = _; rw [Hfin.out, decide_eq_false c2]; simp
                clear Hfin c1 c2
                go_wp2
                go_ret
                exact ⟨ret_bool Hn.out.symm, HWx.out⟩
            · have c1' : ¬ (Q.I.length : Int) ≤ 60 := by omega
              have Hn : Hid (qOk Q = false) := by show _ = _; rw [Hfin.out, decide_eq_false c1]; simp
              clear Hfin c1
              go_wp2
              go_ret
              exact ⟨ret_bool Hn.out.symm, HWx.out⟩
end Go.Proofs.Ytpmhmcekkppbhaa
