/- Texts of one claim, joined: each in its own section, in build order. -/
import Derived.Test.YtddojjigijfgbaaJ2
import Derived.Deep.RegionHeld3
import Derived.Deep.QuietTactic
/- Queues: the specification's QueueOk. -/
namespace Go.Proofs.Ytddojjigijfgbaa
open Go.RowKit Go.BigFrame
set_option linter.unusedVariables false

/-- what is asked of the i-th of all items -/
def itAt (L : List It) (nI : Nat) (i : Nat) (h : i < L.length) : Prop := itOk (L[i]'h) ∧ plcI L ((L[i]'h).1) = (i : Int) ∧ (nI ≤ i → (L[i]'h).2.1 = 0)
def agAt (D : List It) (A : List ByteArray) (i : Nat) (h : i < A.length) : Prop := 0 ≤ plcI D (A[i]'h) ∧ ∀ k (hk : k < i), (A[k]'(by omega)) ≠ A[i]'h
theorem plcI_mem {L : List It} {s : ByteArray} : 0 ≤ plcI L s ↔ s ∈ L.map (fun x => x.1) := by
  rw [← fndI_mem]
  unfold plcI
  split
  · exact ⟨fun _ => by assumption, fun _ => Int.natCast_nonneg _⟩
  · exact ⟨fun h => by omega, fun h => by omega⟩
theorem nodup_ag {A : List ByteArray} : A.Nodup ↔ ∀ i (h : i < A.length) k (hk : k < i), (A[k]'(by omega)) ≠ A[i]'h := by
  rw [List.nodup_iff_pairwise_ne, List.pairwise_iff_getElem]
  exact ⟨fun h i hi k hk => h k i (by omega) hi hk, fun h i j hi hj hij => h j hj i hij⟩
theorem qOkP_iff {Q : Qu} : qOkP Q ↔ ((∀ i (h : i < (Q.I ++ Q.D).length), itAt (Q.I ++ Q.D) Q.I.length i h) ∧ (∀ i (h : i < Q.A.length), agAt Q.D Q.A i h)) ∧ Q.I.length ≤ 60 ∧ Q.D.length ≤ 60 ∧ (0 ≤ Q.now ∧ Q.now ≤ 1000000) := by
  unfold qOkP
  constructor
  · rintro ⟨h1, h2, h3, h4, h5, h6, h7, h8⟩
    refine ⟨⟨fun i h => ⟨h4 _ (List.getElem_mem h), nodup_fnd.1 h6 i h, fun hi => ?_⟩, fun i h => ⟨plcI_mem.2 (h8 _ (List.getElem_mem h)), nodup_ag.1 h7 i h⟩⟩, h1, h2, h3⟩
    rw [List.getElem_append_right hi]
    exact h5 _ (List.getElem_mem _)
  · rintro ⟨⟨g1, g2⟩, h1, h2, h3⟩
    refine ⟨h1, h2, h3, fun x hx => ?_, fun x hx => ?_, nodup_fnd.2 fun i h => (g1 i h).2.1, nodup_ag.2 fun i h => (g2 i h).2, fun s hs => ?_⟩
    · obtain ⟨i, hi, rfl⟩ := List.mem_iff_getElem.1 hx
      exact (g1 i hi).1
    · obtain ⟨i, hi, rfl⟩ := List.mem_iff_getElem.1 hx
      have hl : Q.I.length + i < (Q.I ++ Q.D).length := by rw [List.length_append]; omega
      have := (g1 (Q.I.length + i) hl).2.2 (by omega)
      rw [List.getElem_append_right (by omega)] at this
      have e : Q.I.length + i - Q.I.length = i := by omega
      simpa [e] using this
    · obtain ⟨i, hi, rfl⟩ := List.mem_iff_getElem.1 hs
      exact plcI_mem.1 (g2 i hi).1
def FE (w0 : World) (tI : TypeId) (Q : Qu) (cI cD : Value) : Nat → (Nat → Nat) → Value → World → Prop
  | 0, γ, v, w => ∃ g, v = .slice (some ⟨g, 0, none⟩) 0 0 ∧ ownR w (w0.heap.size + 1) tI 3 v []
  | 1, γ, v, w => v = .pointer (some ⟨w0.heap.size, 0, none⟩)
  | 2, γ, v, w => v = cI
  | 3, γ, v, w => ownR w (w0.heap.size + 1) tI 3 v (Q.I.map encI)
  | 4, γ, v, w => v = .pointer (some ⟨w0.heap.size, 1, none⟩)
  | 5, γ, v, w => v = cD
  | 6, γ, v, w => ownR w (w0.heap.size + 1) tI 3 v (Q.I.map encI ++ Q.D.map encI)
  | 7, γ, v, w => ownR w (w0.heap.size + 1) tI 3 v (Q.I.map encI ++ Q.D.map encI)
  | _, _, _, _ => False
set_option maxRecDepth 20000 in
set_option maxHeartbeats 1600000 in
theorem sQueueOk_any (Q : Qu) (xs : List Value) (w : World) (hq : okQ Q) (hx : rdQ w Q xs) :
    Calls Try.prog 8 #[.agg xs.toArray] w fun e w' => e = .returned (.bool (qOk Q)) ∧ Below w.heap.size w w' := by
  obtain ⟨cI, cD, cA, rfl, hI, hD, hA⟩ := hx
  have l1 := hq.1.1
  have l2 := hq.2.1.1
  have l3 := hq.2.2.1.1
  obtain ⟨aI, pI, rfl, -, -⟩ := hI.itS
  obtain ⟨aD, pD, rfl, -, -⟩ := hD.itS
  obtain ⟨aA, pA, rfl, -, -⟩ := hA.stS
  have HI := hide hI
  have HD := hide hD
  have HA := hide hA
  have L1 := hide l1
  have L2 := hide l2
  have HK := hide hq
  clear hI hD hA hq l1 l2
  have HEI := hide elI
  go_enter Try.func8, Try.ntmps8
  go_wp2
  have OX : Hid (objU (w.alloc (.cells #[.slice aI Q.I.length pI, .slice aD Q.D.length pD, .slice aA Q.A.length pA, .int .i64 Q.now] 27)) w.heap.size 27 [.slice aI Q.I.length pI, .slice aD Q.D.length pD, .slice aA Q.A.length pA, .int .i64 Q.now]) := objU.new _ _ _
  have BX : Hid (Below w.heap.size w (w.alloc (.cells #[.slice aI Q.I.length pI, .slice aD Q.D.length pD, .slice aA Q.A.length pA, .int .i64 Q.now] 27))) := (Below.refl _ _).alloc (Nat.le_refl _) _
  have SZ : Hid ((w.alloc (.cells #[.slice aI Q.I.length pI, .slice aD Q.D.length pD, .slice aA Q.A.length pA, .int .i64 Q.now] 27)).heap.size = w.heap.size + 1) := by show _ = _; simp
  generalize w.alloc (.cells #[.slice aI Q.I.length pI, .slice aD Q.D.length pD, .slice aA Q.A.length pA, .int .i64 Q.now] 27) = wx at *
  refine wp_region_inv (fun i => if i = 6 then Below (w.heap.size + 1) else fun a b => Below a.heap.size a b) (fun j => if j = 0 then some 6 else if j = 3 then some 6 else none) (fun w' => Below w.heap.size w w' ∧ objU w' w.heap.size 27 [.slice aI Q.I.length pI, .slice aD Q.D.length pD, .slice aA Q.A.length pA, .int .i64 Q.now])
    (FE w 36 Q (.slice aI Q.I.length pI) (.slice aD Q.D.length pD)) (by kernel_rfl) (by kernel_rfl) (by kernel_rfl) ?hF ?hU ?hG ?hstep ?hend
  case hF =>
    intro i j γ γ' v w1 w2 hij hsp hnd hsd h hfr
    have ho := hfr.out
    match j, h with
    | 0, ⟨g, h1, h2⟩ =>
      rw [if_neg (fun e => hsp (by simp [e]))] at ho
      exact ⟨g, h1, h2.below ho⟩
    | 1, h => exact h
    | 2, h => exact h
    | 3, h =>
      rw [if_neg (fun e => hsp (by simp [e]))] at ho
      exact h.below ho
    | 4, h => exact h
    | 5, h => exact h
    | 6, h =>
      rw [if_neg hij] at ho
      exact h.below ho
    | 7, h =>
      rw [if_neg (fun e => by subst e; cases (hnd.symm.trans (by kernel_rfl) : false = true))] at ho
      exact h.below ho
    | j + 8, h => exact h.elim
  case hU =>
    intro i o hi hd γ v w1 h
    match i, hi with
    | 0, hi => (injection hi with hi; subst hi; cases hd)
    | 1, hi => (injection hi with hi; subst hi; cases hd)
    | 2, hi => (injection hi with hi; subst hi; cases hd)
    | 3, hi => (injection hi with hi; subst hi; cases hd)
    | 4, hi => (injection hi with hi; subst hi; cases hd)
    | 5, hi => (injection hi with hi; subst hi; cases hd)
    | 6, hi => (injection hi with hi; subst hi; cases hd)
    | 7, hi => (injection hi with hi; subst hi; cases hd)
    | i + 8, hi => cases hi
  case hG => exact ⟨Below.drew BX.out, objU.dr9 OX.out⟩
  case hstep =>
    intro i o hi
    match i, hi with
    | 0, hi =>
      injection hi with hi; subst hi
      intro a w1 γ hG hK hD K hk
      refine wp_val (.slice (some ⟨w1.heap.size, 0, none⟩) 0 0) ?_ (hk _ _ γ ⟨hG.1.alloc hG.1.size _, hG.2.old _⟩ ⟨below_alloc _ _, fun _ _ => rfl⟩ ⟨_, rfl, ownR.lit w1 _ 36 3 hG.2.lt⟩)
      simp [execOp, Act.eval, go_sem]
    | 1, hi =>
      injection hi with hi; subst hi
      intro a w1 γ hG hK hD K hk
      have e1 := hK.at 1 (by kernel_rfl)
      refine wp_pure (.pointer (some ⟨w.heap.size, 0, none⟩)) ?_ (hk _ _ γ hG (Fr.same (Below.refl _ _)) rfl)
      simp [execOp, Act.eval, e1, go_sem]
    | 2, hi =>
      injection hi with hi; subst hi
      intro a w1 γ hG hK hD K hk
      have d := hD 0 (by decide) (by kernel_rfl) (.inl rfl)
      change a.tmps.getD 9 undef = .pointer (some ⟨w.heap.size, 0, none⟩) at d
      have x0 := hG.2.cell 0 _ rfl
      refine wp_pure _ ?_ (hk _ _ γ hG (Fr.same (Below.refl _ _)) rfl)
      simp [execOp, Act.eval, d, x0, go_sem]
    | 4, hi =>
      injection hi with hi; subst hi
      intro a w1 γ hG hK hD K hk
      have e1 := hK.at 1 (by kernel_rfl)
      refine wp_pure (.pointer (some ⟨w.heap.size, 1, none⟩)) ?_ (hk _ _ γ hG (Fr.same (Below.refl _ _)) rfl)
      simp [execOp, Act.eval, e1, go_sem]
    | 5, hi =>
      injection hi with hi; subst hi
      intro a w1 γ hG hK hD K hk
      have d := hD 0 (by decide) (by kernel_rfl) (.inl rfl)
      change a.tmps.getD 12 undef = .pointer (some ⟨w.heap.size, 1, none⟩) at d
      have x0 := hG.2.cell 1 _ rfl
      refine wp_pure _ ?_ (hk _ _ γ hG (Fr.same (Below.refl _ _)) rfl)
      simp [execOp, Act.eval, d, x0, go_sem]
    | 3, hi =>
      injection hi with hi; subst hi
      intro a w1 γ hG hK hD K hk
      have d0 := hD 0 (by decide) (by kernel_rfl) (.inr (.inr ⟨6, rfl, by kernel_rfl⟩))
      change ∃ g, a.tmps.getD 8 undef = .slice (some ⟨g, 0, none⟩) 0 0 ∧ ownR w1 (w.heap.size + 1) 36 3 (a.tmps.getD 8 undef) [] at d0
      have d2 := hD 1 (by decide) (by kernel_rfl) (.inl rfl)
      change a.tmps.getD 10 undef = _ at d2
      obtain ⟨g, g1, g2⟩ := d0
      rw [g1] at g2
      obtain ⟨v', w', r1, r2, r3, r4⟩ := run_append_rd0 HEI.out (by decide) 24 (w.heap.size + 1) g g2 _ _ (HI.out.below hG.1) (rowsI _) (oneI _) (by have := L1.out; simp; omega) hG.2.lt
      refine wp_val v' ?_ (hk _ _ γ ⟨hG.1.trans (r3.mono hG.1.size), hG.2.below r3⟩ ⟨r3, fun _ _ => rfl⟩ r2)
      exact append_run (.tmp 8) (.tmp 10) 24 rfl g1 d2 r1
    | 6, hi =>
      injection hi with hi; subst hi
      intro a w1 γ hG hK hD K hk
      have d0 := hD 0 (by decide) (by kernel_rfl) (.inr (.inl rfl))
      change ownR w1 (w.heap.size + 1) 36 3 (a.tmps.getD 11 undef) (Q.I.map encI) at d0
      have d2 := hD 1 (by decide) (by kernel_rfl) (.inl rfl)
      change a.tmps.getD 13 undef = _ at d2
      obtain ⟨v', w', r1, r2, r3, r4⟩ := run_append_rd HEI.out (by decide) 24 (w.heap.size + 1) _ _ d0 _ _ (HD.out.below hG.1) (rowsI _) (oneI _) (by have := L1.out; have := L2.out; simp; omega) hG.2.lt
      have rb : Below (w.heap.size + 1) w1 w' := Below.grown (Below.refl _ _) r3 hG.2.lt (fun g hg => (d0.lt g (blk_own.2 hg)).1)
      refine wp_val v' ?_ (hk _ _ γ ⟨hG.1.trans (rb.mono (Nat.le_succ _)), (rb.block _ (Nat.lt_succ_self _)).trans hG.2⟩ ⟨rb, fun _ _ => rfl⟩ r2)
      exact append_run (.tmp 11) (.tmp 13) 24 rfl rfl d2 r1
    | 7, hi =>
      injection hi with hi; subst hi
      intro a w1 γ hG hK hD K hk
      have d0 := hD 0 (by decide) (by kernel_rfl) (.inl rfl)
      change ownR w1 (w.heap.size + 1) 36 3 (a.tmps.getD 14 undef) _ at d0
      refine wp_pure (a.tmps.getD 14 undef) ?_ (hk _ _ γ hG (Fr.same (Below.refl _ _)) d0)
      simp [execOp, Act.eval, go_sem]
    | i + 8, hi => cases hi
  case hend =>
    intro x w1 γ hG hx
    have hf : ownR w1 (w.heap.size + 1) 36 3 (x 7) (Q.I.map encI ++ Q.D.map encI) := hx 7 (by decide) rfl
    rw [← List.map_append] at hf
    simp only [putAll, Act.put, List.setIfInBounds_toArray, List.set_cons_zero, List.set_cons_succ, Nat.zero_add, Nat.reduceAdd]
    obtain ⟨L, hL⟩ : ∃ L, Q.I ++ Q.D = L := ⟨_, rfl⟩
    rw [hL] at hf
    obtain ⟨aL, pL, hx7⟩ := hf.itS
    rw [hx7] at hf ⊢
    have HL := hide (hf.rd (by decide))
    have HB := hide hG.1
    have OB := hide hG.2
    have HLE := hide hL
    have hLl : L.length ≤ 2097152 := by rw [← hL, List.length_append]; have := L1.out; have := L2.out; omega
    have HKL : Hid (∀ x ∈ L, okI x) := fun x hx => by
      rw [← HLE.out] at hx
      exact (List.mem_append.1 hx).elim (HK.out.1.2 x) (HK.out.2.1.2 x)
    have HIFF : Hid (qOkP Q ↔ ((∀ i (h : i < L.length), itAt L Q.I.length i h) ∧ (∀ i (h : i < Q.A.length), agAt Q.D Q.A i h)) ∧ Q.I.length ≤ 60 ∧ Q.D.length ≤ 60 ∧ (0 ≤ Q.now ∧ Q.now ≤ 1000000)) := by
      show _ ↔ _
      rw [qOkP_iff]
      subst hL
      exact Iff.rfl
    clear hL hf hG hx hx7 OX BX SZ
    go_wp2
    go_loopw [4] (fun i wr => ∃ (q : Nat), q ≤ L.length ∧ i = .int .i64 q ∧ Hid (∀ j (h : j < L.length), j < q → itAt L Q.I.length j h) ∧ Hid (Below w1.heap.size w1 wr)) (fun i _ => L.length - (intOf i).toNat)
    case atStart => exact ⟨0, Nat.zero_le _, rfl, (fun j _ h => by omega), Below.refl _ _⟩
    case round =>
      obtain ⟨q, hq, rfl, Ho, Hb⟩ := hrel
      by_cases hlt : q < L.length
      · have HLr := hide (HL.out.below Hb.out)
        obtain ⟨b, off, rfl, hbk, c0, c1, c2⟩ := HLr.out.itAt hlt
        have OBr := OB.out.below Hb.out
        have x0 := OBr.cell 0 _ rfl
        have hs := (HKL.out _ (List.getElem_mem hlt)).1
        have Hit : Hid (itAt L Q.I.length q hlt ↔ (nameB (L[q].1) = true ∧ plcI L (L[q].1) = (q : Int) ∧ inB (L[q].2.1) 0 1000064 = true ∧ inB (L[q].2.2) 0 1000 = true ∧ (Q.I.length ≤ q → L[q].2.1 = 0))) := by
          show _ ↔ _
          unfold itAt itOk inB
          simp only [decide_eq_true_eq]
          exact ⟨fun ⟨⟨a, b, c⟩, d, e⟩ => ⟨a, d, b, c, e⟩, fun ⟨a, d, b, c, e⟩ => ⟨⟨a, b, c⟩, d, e⟩⟩
        have Hno : Hid (¬ itAt L Q.I.length q hlt → qOk Q = false) := fun h => qOk_false (fun g => h ((HIFF.out.1 g).1.1 q hlt))
        have Hye : Hid (itAt L Q.I.length q hlt → ∀ j (h : j < L.length), j < q + 1 → itAt L Q.I.length j h) := fun h j hj hjq => by
          by_cases e : j = q
          · subst e; exact h
          · exact Ho.out j hj (by omega)
        have HF : Hid (∀ wx, Below wr.heap.size wr wx → Calls Try.prog 21 #[.slice (some ⟨b, off, none⟩) L.length pL, .string (L[q].1)] wx fun e w' => e = .returned (.int .i64 (plcI L (L[q].1))) ∧ w' = wx) := fun wx hb => l9Find_any L _ _ wx (HLr.out.below hb) (by omega)
        have HN : Hid (∀ wx, Calls Try.prog 20 #[.string (L[q].1)] wx fun e w' => e = .returned (.bool (nameB (L[q].1))) ∧ w' = wx) := fun wx => sname_any _ wx hs
        have H1 : Hid (∀ wx, Calls Try.prog 23 #[.int .i64 (L[q].2.1), .int .i64 0, .int .i64 1000064] wx fun e w' => e = .returned (.bool (inB (L[q].2.1) 0 1000064)) ∧ w' = wx) := fun wx => l1In_any _ _ _ wx
        have H2 : Hid (∀ wx, Calls Try.prog 23 #[.int .i64 (L[q].2.2), .int .i64 0, .int .i64 1000] wx fun e w' => e = .returned (.bool (inB (L[q].2.2) 0 1000)) ∧ w' = wx) := fun wx => l1In_any _ _ _ wx
        have hq0 : (0 : Int) ≤ (q : Int) := Int.natCast_nonneg _
        clear hs HLr OBr
        generalize L[q].1 = s at *
        generalize L[q].2.1 = rd at *
        generalize L[q].2.2 = fl at *
        generalize plcI L s = pl at *
        generalize nameB s = nb at *
        generalize inB rd 0 1000064 = r1 at *
        generalize inB fl 0 1000 = r2 at *
        have HW : Hid (Below w.heap.size w wr) := HB.out.trans (Hb.out.mono HB.out.size)
        have HBl : Hid (w.heap.size < wr.heap.size) := (OB.out.below Hb.out).lt
        cases nb with
        | false =>
          have Hn := hide (Hno.out (fun h => by have := (Hit.out.1 h).1; cases this))
          clear Hit Hno Hye Ho
          go_wp2_with (first
              | (go_at_call 20; refine (HN.out _).mono ?_; rintro e w' ⟨rfl, rfl⟩)
              | (go_at_call 21; refine (HF.out _ (by repeat (first | with_reducible exact Below.refl _ _ | with_reducible refine Below.setCell ?_ (by simp) _ | with_reducible refine Below.alloc ?_ (by simp) _))).mono ?_; rintro e w' ⟨rfl, rfl⟩)
              | (go_at_call 23; refine (H1.out _).mono ?_; clear H1; rintro e w' ⟨rfl, rfl⟩)
              | (go_at_call 23; refine (H2.out _).mono ?_; rintro e w' ⟨rfl, rfl⟩))
          go_ret
          exact ⟨ret_bool Hn.out.symm, HW.out.trans (Below.mono (by repeat (first | with_reducible exact Below.refl _ _ | with_reducible refine Below.setCell ?_ (by simp) _ | with_reducible refine Below.alloc ?_ (by simp) _)) HW.out.size)⟩
        | true =>
          by_cases hp : pl = (q : Int)
          · subst hp
            cases r1 with
            | false =>
              have Hn := hide (Hno.out (fun h => by have := (Hit.out.1 h).2.2.1; cases this))
              clear Hit Hno Hye Ho
              go_wp2_with (first
              | (go_at_call 20; refine (HN.out _).mono ?_; rintro e w' ⟨rfl, rfl⟩)
              | (go_at_call 21; refine (HF.out _ (by repeat (first | with_reducible exact Below.refl _ _ | with_reducible refine Below.setCell ?_ (by simp) _ | with_reducible refine Below.alloc ?_ (by simp) _))).mono ?_; rintro e w' ⟨rfl, rfl⟩)
              | (go_at_call 23; refine (H1.out _).mono ?_; clear H1; rintro e w' ⟨rfl, rfl⟩)
              | (go_at_call 23; refine (H2.out _).mono ?_; rintro e w' ⟨rfl, rfl⟩))
              go_ret
              exact ⟨ret_bool Hn.out.symm, HW.out.trans (Below.mono (by repeat (first | with_reducible exact Below.refl _ _ | with_reducible refine Below.setCell ?_ (by simp) _ | with_reducible refine Below.alloc ?_ (by simp) _)) HW.out.size)⟩
            | true =>
              cases r2 with
              | false =>
                have Hn := hide (Hno.out (fun h => by have := (Hit.out.1 h).2.2.2.1; cases this))
                clear Hit Hno Hye Ho
                go_wp2_with (first
              | (go_at_call 20; refine (HN.out _).mono ?_; rintro e w' ⟨rfl, rfl⟩)
              | (go_at_call 21; refine (HF.out _ (by repeat (first | with_reducible exact Below.refl _ _ | with_reducible refine Below.setCell ?_ (by simp) _ | with_reducible refine Below.alloc ?_ (by simp) _))).mono ?_; rintro e w' ⟨rfl, rfl⟩)
              | (go_at_call 23; refine (H1.out _).mono ?_; clear H1; rintro e w' ⟨rfl, rfl⟩)
              | (go_at_call 23; refine (H2.out _).mono ?_; rintro e w' ⟨rfl, rfl⟩))
                go_ret
                exact ⟨ret_bool Hn.out.symm, HW.out.trans (Below.mono (by repeat (first | with_reducible exact Below.refl _ _ | with_reducible refine Below.setCell ?_ (by simp) _ | with_reducible refine Below.alloc ?_ (by simp) _)) HW.out.size)⟩
              | true =>
                by_cases hI : Q.I.length ≤ q
                · have hIi : (Q.I.length : Int) ≤ (q : Int) := by omega
                  have hBl := HBl.out
                  by_cases hr : rd = 0
                  · have hr1 : (rd == 0) = true := by simpa using hr
                    have Hy := hide (Hye.out (Hit.out.2 ⟨rfl, rfl, rfl, rfl, fun _ => hr⟩))
                    clear hr Hye
                    clear Hit Hno Ho
                    go_wp2_with (first
              | (go_at_call 20; refine (HN.out _).mono ?_; rintro e w' ⟨rfl, rfl⟩)
              | (go_at_call 21; refine (HF.out _ (by repeat (first | with_reducible exact Below.refl _ _ | with_reducible refine Below.setCell ?_ (by simp) _ | with_reducible refine Below.alloc ?_ (by simp) _))).mono ?_; rintro e w' ⟨rfl, rfl⟩)
              | (go_at_call 23; refine (H1.out _).mono ?_; clear H1; rintro e w' ⟨rfl, rfl⟩)
              | (go_at_call 23; refine (H2.out _).mono ?_; rintro e w' ⟨rfl, rfl⟩))
                    go_roundw
                    case rel => exact ⟨q + 1, by omega, by go_num, Hy, Hb.out.trans (Below.mono (by repeat (first | with_reducible exact Below.refl _ _ | with_reducible refine Below.setCell ?_ (by simp) _ | with_reducible refine Below.alloc ?_ (by simp) _)) Hb.out.size)⟩
                    case measure => simp [intOf]; omega
                  · have hr1 : (rd == 0) = false := by simpa using hr
                    have Hr := hide hr
                    clear hr
                    have Hn := hide (Hno.out (fun h => Hr.out ((Hit.out.1 h).2.2.2.2 hI)))
                    clear Hit Hno Hye Ho
                    go_wp2_with (first
              | (go_at_call 20; refine (HN.out _).mono ?_; rintro e w' ⟨rfl, rfl⟩)
              | (go_at_call 21; refine (HF.out _ (by repeat (first | with_reducible exact Below.refl _ _ | with_reducible refine Below.setCell ?_ (by simp) _ | with_reducible refine Below.alloc ?_ (by simp) _))).mono ?_; rintro e w' ⟨rfl, rfl⟩)
              | (go_at_call 23; refine (H1.out _).mono ?_; clear H1; rintro e w' ⟨rfl, rfl⟩)
              | (go_at_call 23; refine (H2.out _).mono ?_; rintro e w' ⟨rfl, rfl⟩))
                    go_ret
                    exact ⟨ret_bool Hn.out.symm, HW.out.trans (Below.mono (by repeat (first | with_reducible exact Below.refl _ _ | with_reducible refine Below.setCell ?_ (by simp) _ | with_reducible refine Below.alloc ?_ (by simp) _)) HW.out.size)⟩
                · have hIi : ¬ (Q.I.length : Int) ≤ (q : Int) := by omega
                  have hBl := HBl.out
                  have Hy := hide (Hye.out (Hit.out.2 ⟨rfl, rfl, rfl, rfl, fun h => (hI h).elim⟩))
                  clear Hye
                  clear Hit Hno Ho
                  go_wp2_with (first
              | (go_at_call 20; refine (HN.out _).mono ?_; rintro e w' ⟨rfl, rfl⟩)
              | (go_at_call 21; refine (HF.out _ (by repeat (first | with_reducible exact Below.refl _ _ | with_reducible refine Below.setCell ?_ (by simp) _ | with_reducible refine Below.alloc ?_ (by simp) _))).mono ?_; rintro e w' ⟨rfl, rfl⟩)
              | (go_at_call 23; refine (H1.out _).mono ?_; clear H1; rintro e w' ⟨rfl, rfl⟩)
              | (go_at_call 23; refine (H2.out _).mono ?_; rintro e w' ⟨rfl, rfl⟩))
                  go_roundw
                  case rel => exact ⟨q + 1, by omega, by go_num, Hy, Hb.out.trans (Below.mono (by repeat (first | with_reducible exact Below.refl _ _ | with_reducible refine Below.setCell ?_ (by simp) _ | with_reducible refine Below.alloc ?_ (by simp) _)) Hb.out.size)⟩
                  case measure => simp [intOf]; omega
          · have hp1 : (pl == (q : Int)) = false := by simpa using hp
            have Hp := hide hp
            clear hp
            have Hn := hide (Hno.out (fun h => Hp.out (Hit.out.1 h).2.1))
            clear Hit Hno Hye Ho
            go_wp2_with (first
              | (go_at_call 20; refine (HN.out _).mono ?_; rintro e w' ⟨rfl, rfl⟩)
              | (go_at_call 21; refine (HF.out _ (by repeat (first | with_reducible exact Below.refl _ _ | with_reducible refine Below.setCell ?_ (by simp) _ | with_reducible refine Below.alloc ?_ (by simp) _))).mono ?_; rintro e w' ⟨rfl, rfl⟩)
              | (go_at_call 23; refine (H1.out _).mono ?_; clear H1; rintro e w' ⟨rfl, rfl⟩)
              | (go_at_call 23; refine (H2.out _).mono ?_; rintro e w' ⟨rfl, rfl⟩))
            go_ret
            exact ⟨ret_bool Hn.out.symm, HW.out.trans (Below.mono (by repeat (first | with_reducible exact Below.refl _ _ | with_reducible refine Below.setCell ?_ (by simp) _ | with_reducible refine Below.alloc ?_ (by simp) _)) HW.out.size)⟩
      · have e : q = L.length := by omega
        subst e
        obtain ⟨wm, rfl⟩ : ∃ wm, wm = wr := ⟨_, rfl⟩
        have HA1 : Hid (∀ i (h : i < L.length), itAt L Q.I.length i h) := fun i h => Ho.out i h h
        have HW : Hid (Below w.heap.size w wm) := HB.out.trans (Hb.out.mono HB.out.size)
        have OBr := hide (OB.out.below Hb.out)
        have hA3 : Q.A.length ≤ 1048576 := l3
        clear Ho HL OB Hb HB HKL
        go_wp2
        go_loopw [6] (fun i wx => ∃ (k : Nat), k ≤ Q.A.length ∧ i = .int .i64 k ∧ Hid (∀ j (h : j < Q.A.length), j < k → agAt Q.D Q.A j h) ∧ Hid (Below wm.heap.size wm wx)) (fun i _ => Q.A.length - (intOf i).toNat)
        case atStart => exact ⟨0, Nat.zero_le _, rfl, (fun j _ h => by omega), Below.refl _ _⟩
        case round =>
          obtain ⟨k, hk, rfl, Hg, Hx⟩ := hrel
          have HWx : Hid (Below w.heap.size w wr) := HW.out.trans (Hx.out.mono HW.out.size)
          have OBx := OBr.out.below Hx.out
          have x0 := OBx.cell 0 _ rfl
          have x1 := OBx.cell 1 _ rfl
          have x2 := OBx.cell 2 _ rfl
          have x3 := OBx.cell 3 _ rfl
          clear OBx
          by_cases hlt : k < Q.A.length
          · obtain ⟨bA, oA, rfl, hbA, ca⟩ := (HA.out.below HWx.out).stAt hlt
            have Hag : Hid (agAt Q.D Q.A k hlt ↔ (0 ≤ plcI Q.D (Q.A[k]) ∧ ∀ j (h : j < k), (Q.A[j]'(by omega)) ≠ Q.A[k])) := Iff.rfl
            have Hno : Hid (¬ agAt Q.D Q.A k hlt → qOk Q = false) := fun h => qOk_false (fun g => h ((HIFF.out.1 g).1.2 k hlt))
            have Hye : Hid (agAt Q.D Q.A k hlt → ∀ j (h : j < Q.A.length), j < k + 1 → agAt Q.D Q.A j h) := fun h j hj hjq => by
              by_cases e : j = k
              · subst e; exact h
              · exact Hg.out j hj (by omega)
            have HF : Hid (∀ wy, Below wr.heap.size wr wy → Calls Try.prog 21 #[.slice aD Q.D.length pD, .string (Q.A[k])] wy fun e w' => e = .returned (.int .i64 (plcI Q.D (Q.A[k]))) ∧ w' = wy) := fun wy hb => l9Find_any Q.D _ _ wy (HD.out.below (HWx.out.trans (hb.mono HWx.out.size))) (by have := L2.out; omega)
            have hk0 : (0 : Int) ≤ (k : Int) := Int.natCast_nonneg _
            clear Hg
            by_cases hp : plcI Q.D (Q.A[k]) < 0
            · have Hn := hide (Hno.out (fun h => by have := (Hag.out.1 h).1; omega))
              clear Hag Hno Hye
              generalize plcI Q.D (Q.A[k]) = pl at *
              generalize Q.A[k] = s at *
              go_wp2
              go_quiet ((go_at_call 21; exact Calls.quiet_of_same (HF.out _ (below_drewN (Below.refl _ _) _))))
              go_wp2
              go_ret
              exact ⟨ret_bool Hn.out.symm, below_drewN HWx.out _⟩
            · have hp0 : 0 ≤ plcI Q.D (Q.A[k]) := by omega
              have Hp := hide hp0
              clear hp0
              obtain ⟨pl, hpl⟩ : ∃ pl, plcI Q.D (Q.A[k]) = pl := ⟨_, rfl⟩
              obtain ⟨s, hs⟩ : ∃ s, Q.A[k] = s := ⟨_, rfl⟩
              rw [hpl] at hp HF
              rw [hs] at ca HF
              have HS := hide hs
              clear hpl hs
              go_wp2
              go_quiet ((go_at_call 21; exact Calls.quiet_of_same (HF.out _ (below_drewN (Below.refl _ _) _))))
              go_wp2
              obtain ⟨wk, rfl⟩ : ∃ wk, wk = wr := ⟨_, rfl⟩
              go_loopw [7] (fun i wy => ∃ (j : Nat), j ≤ k ∧ i = .int .i64 j ∧ Hid (∀ i (h : i < j), ∃ hl : i < Q.A.length, Q.A[i] ≠ s) ∧ Hid (Below wk.heap.size wk wy)) (fun i _ => k - (intOf i).toNat)
              case atStart => exact ⟨0, Nat.zero_le _, rfl, (fun j h => by omega), below_drewN (Below.refl _ _) _⟩
              case round =>
                obtain ⟨j, hj, rfl, Hj, Hy⟩ := hrel
                have HWy : Hid (Below w.heap.size w wr) := HWx.out.trans (Hy.out.mono HWx.out.size)
                have y2 := ((OBr.out.below Hx.out).below Hy.out).cell 2 _ rfl
                by_cases hlj : j < k
                · have hjA : j < Q.A.length := by omega
                  obtain ⟨bA', oA', eA, hbA', ca'⟩ := (HA.out.below HWy.out).stAt hjA
                  cases eA
                  obtain ⟨bA', oA', eA, hbA'', ck⟩ := (HA.out.below HWy.out).stAt hlt
                  cases eA
                  rw [HS.out] at ck
                  have Hno2 : Hid (Q.A[j] = s → qOk Q = false) := fun e => Hno.out (fun h => (Hag.out.1 h).2 j hlj (e.trans HS.out.symm))
                  have Hye2 : Hid (Q.A[j] ≠ s → ∀ i (h : i < j + 1), ∃ hl : i < Q.A.length, Q.A[i] ≠ s) := fun e i hi => by
                    by_cases ee : i = j
                    · subst ee; exact ⟨hjA, e⟩
                    · exact Hj.out i (by omega)
                  have he := beq_str (Q.A[j]) s
                  have hj0 : (0 : Int) ≤ (j : Int) := Int.natCast_nonneg _
                  clear Hj ca
                  generalize Q.A[j] = u at *
                  by_cases hu : u = s
                  · rw [decide_eq_true hu] at he
                    have Hn := hide (Hno2.out hu)
                    clear Hno2 Hye2 hu
                    go_wp2
                    go_quiet (fail)
                    go_wp2
                    go_ret
                    exact ⟨ret_bool Hn.out.symm, below_drewN HWy.out _⟩
                  · rw [decide_eq_false hu] at he
                    have Hn := hide (Hye2.out hu)
                    clear Hno2 Hye2 hu
                    go_wp2
                    go_quiet (fail)
                    go_wp2
                    go_roundw
                    case rel => exact ⟨j + 1, by omega, by go_num, Hn, below_drewN Hy.out _⟩
                    case measure => simp [intOf]; omega
                · have e : j = k := by omega
                  subst e
                  have Hn := hide (Hye.out (Hag.out.2 ⟨Hp.out, fun i hi => by obtain ⟨_, h⟩ := Hj.out i hi; rw [HS.out]; exact h⟩))
                  clear Hj Hye Hno
                  go_wp2
                  go_roundw
                  case rel => exact ⟨j + 1, by omega, by go_num, Hn, Hx.out.trans (Hy.out.mono Hx.out.size)⟩
                  case measure => simp [intOf]; omega
          · have e : k = Q.A.length := by omega
            subst e
            have Hfin : Hid (qOk Q = (decide (Q.I.length ≤ 60) && (decide (Q.D.length ≤ 60) && inB Q.now 0 1000000))) := by
              show _ = _
              rw [Bool.eq_iff_iff, qOk_iff, HIFF.out]
              unfold inB
              simp only [Bool.and_eq_true, decide_eq_true_eq]
              exact ⟨fun h => ⟨h.2.1, h.2.2.1, h.2.2.2⟩, fun h => ⟨⟨HA1.out, fun i hi => Hg.out i hi hi⟩, h.1, h.2.1, h.2.2⟩⟩
            have H3 : Hid (∀ wx, Calls Try.prog 23 #[.int .i64 Q.now, .int .i64 0, .int .i64 1000000] wx fun e w' => e = .returned (.bool (inB Q.now 0 1000000)) ∧ w' = wx) := fun wx => l1In_any _ _ _ wx
            clear Hg HIFF HA1 HA HD
            generalize inB Q.now 0 1000000 = r3 at *
            by_cases c1 : Q.I.length ≤ 60
            · have c1' : (Q.I.length : Int) ≤ 60 := by omega
              by_cases c2 : Q.D.length ≤ 60
              · have c2' : (Q.D.length : Int) ≤ 60 := by omega
                have Hn : Hid (qOk Q = r3) := by show _ = _; rw [Hfin.out, decide_eq_true c1, decide_eq_true c2]; rfl
                clear Hfin c1 c2
                go_wp2_with (go_at_call 23; refine (H3.out _).mono ?_; rintro e w' ⟨rfl, rfl⟩)
                go_ret
                exact ⟨ret_bool Hn.out.symm, HWx.out⟩
              · have c2' : ¬ (Q.D.length : Int) ≤ 60 := by omega
                have Hn : Hid (qOk Q = false) := by show _ = _; rw [Hfin.out, decide_eq_false c2]; simp
                clear Hfin c1 c2
                go_wp2
                go_ret
                exact ⟨ret_bool Hn.out.symm, HWx.out⟩
            · have c1' : ¬ (Q.I.length : Int) ≤ 60 := by omega
              have Hn : Hid (qOk Q = false) := by show _ = _; rw [Hfin.out, decide_eq_false c1]; simp
              clear Hfin c1
              go_wp2
              go_ret
              exact ⟨ret_bool Hn.out.symm, HWx.out⟩
end Go.Proofs.Ytddojjigijfgbaa
/- Queues: the program's itemsOk and QueueOk. -/
namespace Go.Proofs.Ytddojjigijfgbaa
open Go.RowKit Go.BigFrame Go.Maps
set_option linter.unusedVariables false

def isP (L : List It) (rdy : Int) : Prop := L.length ≤ 60 ∧ ∀ x ∈ L, nameB x.1 = true ∧ inB x.2.1 0 rdy = true ∧ inB x.2.2 0 1000 = true
noncomputable def isB (L : List It) (rdy : Int) : Bool := @decide (isP L rdy) (Classical.propDecidable _)
theorem isB_true {L : List It} {rdy : Int} (h : isP L rdy) : isB L rdy = true := @decide_eq_true _ (Classical.propDecidable _) h
theorem isB_false {L : List It} {rdy : Int} (h : ¬ isP L rdy) : isB L rdy = false := @decide_eq_false _ (Classical.propDecidable _) h
theorem isB_iff {L : List It} {rdy : Int} : isB L rdy = true ↔ isP L rdy := @decide_eq_true_iff _ (Classical.propDecidable _)
set_option maxRecDepth 20000 in
set_option maxHeartbeats 1600000 in
theorem itemsOk_any (L : List It) (rdy : Int) (c : Value) (w : World) (hx : rdR w 3 c (L.map encI)) (hk : okIs L) :
    Calls Try.prog 25 #[c, .int .i64 rdy] w fun e w' => e = .returned (.bool (isB L rdy)) ∧ Below w.heap.size w w' := by
  obtain ⟨aL, pL, rfl, -, -⟩ := hx.itS
  have HX := hide hx
  have HK := hide hk.2
  have hLl := hk.1
  clear hx hk
  by_cases h60 : L.length ≤ 60
  · have h60' : ¬ (60 : Int) < (L.length : Int) := by omega
    go_enter Try.func25, Try.ntmps25
    go_wp2
    go_loopw [12] (fun i wr => ∃ (q : Nat), q ≤ L.length ∧ i = .int .i64 q ∧ Hid (∀ j (h : j < L.length), j < q → nameB (L[j].1) = true ∧ inB (L[j].2.1) 0 rdy = true ∧ inB (L[j].2.2) 0 1000 = true) ∧ Hid (Below w.heap.size w wr)) (fun i _ => L.length - (intOf i).toNat)
    case atStart => exact ⟨0, Nat.zero_le _, rfl, (fun j _ h => by omega), Below.refl _ _⟩
    case round =>
      obtain ⟨q, hq, rfl, Ho, Hb⟩ := hrel
      by_cases hlt : q < L.length
      · obtain ⟨b, off, rfl, hbk, c0, c1, c2⟩ := (HX.out.below Hb.out).itAt hlt
        have hs := (HK.out _ (List.getElem_mem hlt)).1
        have Hno : Hid (¬ (nameB (L[q].1) = true ∧ inB (L[q].2.1) 0 rdy = true ∧ inB (L[q].2.2) 0 1000 = true) → isB L rdy = false) := fun h => isB_false (fun g => h (g.2 _ (List.getElem_mem hlt)))
        have Hye : Hid (nameB (L[q].1) = true ∧ inB (L[q].2.1) 0 rdy = true ∧ inB (L[q].2.2) 0 1000 = true → ∀ j (h : j < L.length), j < q + 1 → nameB (L[j].1) = true ∧ inB (L[j].2.1) 0 rdy = true ∧ inB (L[j].2.2) 0 1000 = true) := fun h j hj hjq => by
          by_cases e : j = q
          · subst e; exact h
          · exact Ho.out j hj (by omega)
        have HN : Hid (∀ wx, Calls Try.prog 17 #[.string (L[q].1)] wx fun e w' => e = .returned (.bool (nameB (L[q].1))) ∧ Below wx.heap.size wx w') := fun wx => iname_any _ wx
        have H1 : Hid (∀ wx, Calls Try.prog 24 #[.int .i64 (L[q].2.1), .int .i64 rdy] wx fun e w' => e = .returned (.bool (inB (L[q].2.1) 0 rdy)) ∧ w' = wx) := fun wx => within_any _ _ wx
        have H2 : Hid (∀ wx, Calls Try.prog 24 #[.int .i64 (L[q].2.2), .int .i64 1000] wx fun e w' => e = .returned (.bool (inB (L[q].2.2) 0 1000)) ∧ w' = wx) := fun wx => within_any _ _ wx
        have hq0 : (0 : Int) ≤ (q : Int) := Int.natCast_nonneg _
        clear hs Ho
        generalize L[q].1 = s at *
        generalize L[q].2.1 = rd at *
        generalize L[q].2.2 = fl at *
        generalize nameB s = nb at *
        generalize inB rd 0 rdy = r1 at *
        generalize inB fl 0 1000 = r2 at *
        have OB : Hid (objU ((wr.alloc (.cells #[.string s, .int .i64 rd, .int .i64 fl] 36))) wr.heap.size 36 [.string s, .int .i64 rd, .int .i64 fl]) := objU.new _ _ _
        have HBx : Hid (Below w.heap.size w (wr.alloc (.cells #[.string s, .int .i64 rd, .int .i64 fl] 36))) := Hb.out.alloc Hb.out.size _
        go_wp2_with fail
        refine (HN.out _).mono ?_
        rintro e w1 ⟨rfl, hb1⟩
        have OB1 := OB.out.below hb1
        have HB1 : Hid (Below w.heap.size w w1) := HBx.out.trans (hb1.mono HBx.out.size)
        have y1 := OB1.cell 1 _ rfl
        have y2 := OB1.cell 2 _ rfl
        clear OB OB1 HBx hb1
        cases nb with
        | false =>
          have Hn := hide (Hno.out (fun h => by have := h.1; cases this))
          clear Hno Hye
          go_wp2_with (first
                        | (go_at_call 24; refine (H1.out _).mono ?_; clear H1; rintro e w' ⟨rfl, rfl⟩)
                        | (go_at_call 24; refine (H2.out _).mono ?_; rintro e w' ⟨rfl, rfl⟩))
          go_ret
          exact ⟨ret_bool Hn.out.symm, HB1.out⟩
        | true =>
          cases r1 with
          | false =>
            have Hn := hide (Hno.out (fun h => by have := h.2.1; cases this))
            clear Hno Hye
            go_wp2_with (first
                          | (go_at_call 24; refine (H1.out _).mono ?_; clear H1; rintro e w' ⟨rfl, rfl⟩)
                          | (go_at_call 24; refine (H2.out _).mono ?_; rintro e w' ⟨rfl, rfl⟩))
            go_ret
            exact ⟨ret_bool Hn.out.symm, HB1.out⟩
          | true =>
            cases r2 with
            | false =>
              have Hn := hide (Hno.out (fun h => by have := h.2.2; cases this))
              clear Hno Hye
              go_wp2_with (first
                            | (go_at_call 24; refine (H1.out _).mono ?_; clear H1; rintro e w' ⟨rfl, rfl⟩)
                            | (go_at_call 24; refine (H2.out _).mono ?_; rintro e w' ⟨rfl, rfl⟩))
              go_ret
              exact ⟨ret_bool Hn.out.symm, HB1.out⟩
            | true =>
              have Hn := hide (Hye.out ⟨rfl, rfl, rfl⟩)
              clear Hno Hye
              go_wp2_with (first
              | (go_at_call 24; refine (H1.out _).mono ?_; clear H1; rintro e w' ⟨rfl, rfl⟩)
              | (go_at_call 24; refine (H2.out _).mono ?_; rintro e w' ⟨rfl, rfl⟩))
              go_roundw
              case rel => exact ⟨q + 1, by omega, by go_num, Hn, HB1⟩
              case measure => simp [intOf]; omega
      · have e : q = L.length := by omega
        have Hn : Hid (isB L rdy = true) := isB_true ⟨h60, fun x hx => by
          obtain ⟨j, hj, rfl⟩ := List.mem_iff_getElem.1 hx
          exact Ho.out j hj (by omega)⟩
        clear Ho HX HK
        subst e
        go_wp2
        go_ret
        exact ⟨ret_bool Hn.out.symm, Hb.out⟩
  · have h60' : (60 : Int) < (L.length : Int) := by omega
    have Hn : Hid (isB L rdy = false) := isB_false (fun h => h60 h.1)
    go_enter Try.func25, Try.ntmps25
    go_wp2
    go_ret
    exact ⟨ret_bool Hn.out.symm, Below.refl _ _⟩
end Go.Proofs.Ytddojjigijfgbaa
/- Queues: the program's QueueOk. -/
namespace Go.Proofs.Ytddojjigijfgbaa
open Go.RowKit Go.BigFrame Go.Maps
set_option linter.unusedVariables false

theorem qOkP_impl {Q : Qu} : qOkP Q ↔ inB Q.now 0 1000000 = true ∧ isP Q.I 1000064 ∧ isP Q.D 0 ∧ (nmsI Q.I ++ nmsI Q.D).Nodup ∧ Q.A.Nodup ∧ ∀ s ∈ Q.A, s ∈ nmsI Q.D := by
  unfold qOkP isP itOk inB nmsI
  rw [List.map_append]
  simp only [decide_eq_true_eq]
  constructor
  · rintro ⟨h1, h2, h3, h4, h5, h6, h7, h8⟩
    refine ⟨h3, ⟨h1, fun x hx => ?_⟩, ⟨h2, fun x hx => ?_⟩, h6, h7, h8⟩
    · exact h4 x (List.mem_append_left _ hx)
    · have := h4 x (List.mem_append_right _ hx)
      have := h5 x hx
      exact ⟨(h4 x (List.mem_append_right _ hx)).1, by omega, (h4 x (List.mem_append_right _ hx)).2.2⟩
  · rintro ⟨h1, ⟨h2, h3⟩, ⟨h4, h5⟩, h6, h7, h8⟩
    have hz : ∀ x ∈ Q.D, x.2.1 = 0 := fun x hx => by have := (h5 x hx).2.1; omega
    refine ⟨h2, h4, h1, fun x hx => ?_, hz, h6, h7, h8⟩
    · rcases List.mem_append.1 hx with hx | hx
      · exact h3 x hx
      · have := h5 x hx
        exact ⟨this.1, by omega, this.2.2⟩
theorem wp_call {P : Program} {o : Oper} {a : Act} {w : World} {K : Act → World → Prop} {Q : Exit → Act → World → Prop} (f : FuncId) (args : Array Operand) (ts : Array TypeId)
    (ho : o.op = .call { callee := .value (.func f), args := args, argTypes := ts }) (hcf : ∀ xs w, (callFunc f xs).run P w = .ok (.enter f xs) w) (xs : Array Value) (hx : args.map a.eval = xs) {R : Ending → World → Prop} (hc : Calls P f xs w R) (h : ∀ e w', R e w' → ∃ v, e = .returned v ∧ K (a.put o.dst v) w') : Oper.wp P o a w K Q := by
  subst hx
  unfold Oper.wp execOp
  simp only [ho, resolve, invoke, Sem.run_bind]
  have e : (Deferred.ofValue (a.eval (Operand.func f)) (Array.map a.eval args)).run P w = .ok { target := .fn (.func f) #[], args := args.map a.eval } w := by simp [Act.eval, Deferred.ofValue, go_sem]
  rw [e, Result.andThen_ok]
  simp only [Array.append_empty]
  rw [hcf]
  rw [Oper.upon_enter]
  refine hc.mono ?_
  intro e w' hr
  obtain ⟨v, rfl, hk⟩ := h e w' hr
  exact hk
theorem objU.rd1 {w : World} {g : Nat} {t : TypeId} {xs : List Value} (h : objU w g t xs) : rdR w 1 (.slice (some ⟨g, 0, none⟩) xs.length xs.length) (xs.map (fun v => [v])) := by
  refine ⟨_, xs.length, by rw [List.length_map], by rw [List.length_map]; exact Nat.le_refl _, (fun h => by cases h), fun _ => ⟨g, 0, rfl, fun q r j v hq hj => ?_⟩⟩
  rw [List.getElem?_map] at hq
  cases hx : xs[q]? with
  | none => rw [hx] at hq; cases hq
  | some x =>
    rw [hx] at hq
    cases hq
    cases j with
    | zero =>
      cases hj
      have := h.cell q _ hx
      rw [← this]; congr 2; omega
    | succ j => simp at hj
def FH (w0 : World) (Q : Qu) (cI cD : Value) : Nat → (Nat → Nat) → Value → World → Prop
  | 0, γ, v, w => v = .pointer (some ⟨w0.heap.size, 0, none⟩)
  | 1, γ, v, w => v = cI
  | 2, γ, v, w => v = .pointer (some ⟨w0.heap.size, 1, none⟩)
  | 3, γ, v, w => v = cD
  | 4, γ, v, w => ∃ g t, v = .slice (some ⟨g, 0, none⟩) 2 2 ∧ objU w g t [cI, cD]
  | 5, γ, v, w => ∃ b, v = .map (some b) ∧ MS9 w b (nmsI Q.I ++ nmsI Q.D)
  | 6, γ, v, w => ∃ m : Nat, v = .int .i64 m ∧ (m = Q.I.length + Q.D.length ↔ (nmsI Q.I ++ nmsI Q.D).Nodup) ∧ m ≤ 3000000
  | 7, γ, v, w => v = .pointer (some ⟨w0.heap.size, 0, none⟩)
  | 8, γ, v, w => v = cI
  | 9, γ, v, w => v = .int .i64 Q.I.length
  | 10, γ, v, w => v = .pointer (some ⟨w0.heap.size, 1, none⟩)
  | 11, γ, v, w => v = cD
  | 12, γ, v, w => v = .int .i64 Q.D.length
  | 13, γ, v, w => v = .int .i64 ((Q.I.length + Q.D.length : Nat) : Int)
  | 14, γ, v, w => ∃ r : Bool, v = .bool r ∧ (r = false ↔ (nmsI Q.I ++ nmsI Q.D).Nodup)
  | _, _, _, _ => False
set_option maxRecDepth 20000 in
set_option maxHeartbeats 1600000 in
theorem iQueueOk_any (Q : Qu) (xs : List Value) (w : World) (hq : okQ Q) (hx : rdQ w Q xs) :
    Calls Try.prog 9 #[.agg xs.toArray] w fun e w' => e = .returned (.bool (qOk Q)) ∧ Below w.heap.size w w' := by
  obtain ⟨cI, cD, cA, rfl, hI, hD, hA⟩ := hx
  have l3 := hq.2.2.1.1
  have l1 := hq.1.1
  have l2 := hq.2.1.1
  obtain ⟨aI, pI, rfl, -, -⟩ := hI.itS
  obtain ⟨aD, pD, rfl, -, -⟩ := hD.itS
  obtain ⟨aA, pA, rfl, -, -⟩ := hA.stS
  have HI := hide hI
  have HD := hide hD
  have HA := hide hA
  have HK := hide hq
  have HIFF : Hid (qOkP Q ↔ inB Q.now 0 1000000 = true ∧ isP Q.I 1000064 ∧ isP Q.D 0 ∧ (nmsI Q.I ++ nmsI Q.D).Nodup ∧ Q.A.Nodup ∧ ∀ s ∈ Q.A, s ∈ nmsI Q.D) := qOkP_impl
  have Hno0 : Hid (inB Q.now 0 1000000 = false → qOk Q = false) := fun h => qOk_false (fun g => by have := (HIFF.out.1 g).1; rw [h] at this; cases this)
  have HnoI : Hid (isB Q.I 1000064 = false → qOk Q = false) := fun h => qOk_false (fun g => by have := isB_true (HIFF.out.1 g).2.1; rw [h] at this; cases this)
  have HnoD : Hid (isB Q.D 0 = false → qOk Q = false) := fun h => qOk_false (fun g => by have := isB_true (HIFF.out.1 g).2.2.1; rw [h] at this; cases this)
  have HyI : Hid (isB Q.I 1000064 = true → isP Q.I 1000064) := fun h => isB_iff.1 h
  have HyD : Hid (isB Q.D 0 = true → isP Q.D 0) := fun h => isB_iff.1 h
  have HC1 : Hid (∀ wx, Calls Try.prog 24 #[.int .i64 Q.now, .int .i64 1000000] wx fun e w' => e = .returned (.bool (inB Q.now 0 1000000)) ∧ w' = wx) := fun wx => within_any _ _ wx
  have HC2 : Hid (∀ wx, Below w.heap.size w wx → Calls Try.prog 25 #[.slice aI Q.I.length pI, .int .i64 1000064] wx fun e w' => e = .returned (.bool (isB Q.I 1000064)) ∧ Below wx.heap.size wx w') := fun wx hb => itemsOk_any _ _ _ wx (HI.out.below hb) HK.out.1
  have HC3 : Hid (∀ wx, Below w.heap.size w wx → Calls Try.prog 25 #[.slice aD Q.D.length pD, .int .i64 0] wx fun e w' => e = .returned (.bool (isB Q.D 0)) ∧ Below wx.heap.size wx w') := fun wx hb => itemsOk_any _ _ _ wx (HD.out.below hb) HK.out.2.1
  clear hI hD hA hq
  have OX : Hid (objU (w.alloc (.cells #[.slice aI Q.I.length pI, .slice aD Q.D.length pD, .slice aA Q.A.length pA, .int .i64 Q.now] 27)) w.heap.size 27 [.slice aI Q.I.length pI, .slice aD Q.D.length pD, .slice aA Q.A.length pA, .int .i64 Q.now]) := objU.new _ _ _
  have BX : Hid (Below w.heap.size w (w.alloc (.cells #[.slice aI Q.I.length pI, .slice aD Q.D.length pD, .slice aA Q.A.length pA, .int .i64 Q.now] 27))) := below_alloc _ _
  generalize hb0 : inB Q.now 0 1000000 = b0 at *
  generalize hbI : isB Q.I 1000064 = bI at *
  generalize hbD : isB Q.D 0 = bD at *
  have HB0 := hide hb0
  clear hb0 hbI hbD
  go_enter Try.func9, Try.ntmps9
  cases b0 with
  | false =>
    have Hn := hide (Hno0.out rfl)
    clear Hno0 HnoI HnoD HyI HyD HIFF HB0 OX
    go_wp2_with (go_at_call 24; refine (HC1.out _).mono ?_; rintro e w' ⟨rfl, rfl⟩)
    go_ret
    exact ⟨ret_bool Hn.out.symm, BX.out⟩
  | true =>
    go_wp2_with (go_at_call 24; refine (HC1.out _).mono ?_; rintro e w' ⟨rfl, rfl⟩)
    refine (HC2.out _ BX.out).mono ?_
    rintro e w1 ⟨rfl, hb1⟩
    have OX1 := hide (OX.out.below hb1)
    have BX1 : Hid (Below w.heap.size w w1) := BX.out.trans (hb1.mono BX.out.size)
    have x1 := OX1.out.cell 1 _ rfl
    clear OX BX hb1
    cases bI with
    | false =>
      have Hn := hide (HnoI.out rfl)
      clear Hno0 HnoI HnoD HyI HyD HIFF HB0
      go_wp2
      go_ret
      exact ⟨ret_bool Hn.out.symm, BX1.out⟩
    | true =>
      go_wp2_with fail
      refine (HC3.out _ BX1.out).mono ?_
      rintro e w2 ⟨rfl, hb2⟩
      have OX2 := hide (OX1.out.below hb2)
      have BX2 : Hid (Below w.heap.size w w2) := BX1.out.trans (hb2.mono BX1.out.size)
      clear OX1 BX1 hb2 x1
      cases bD with
      | false =>
        have Hn := hide (HnoD.out rfl)
        clear Hno0 HnoI HnoD HyI HyD HIFF HB0
        go_wp2
        go_ret
        exact ⟨ret_bool Hn.out.symm, BX2.out⟩
      | true =>
        have HPI := hide (HyI.out (by first | rfl | trivial))
        have HPD := hide (HyD.out (by first | rfl | trivial))
        clear Hno0 HnoI HnoD HyI HyD HC1 HC2 HC3
        go_wp2
        refine wp_region_inv (fun i a b => Below a.heap.size a b) (fun _ => none) (fun w' => Below w.heap.size w w' ∧ objU w' w.heap.size 27 [.slice aI Q.I.length pI, .slice aD Q.D.length pD, .slice aA Q.A.length pA, .int .i64 Q.now])
          (FH w Q (.slice aI Q.I.length pI) (.slice aD Q.D.length pD)) (by kernel_rfl) (by kernel_rfl) (by kernel_rfl) ?hF ?hU ?hG ?hstep ?hend
        case hF =>
          intro i j γ γ' v w1 w2 hij hsp hnd hsd h hfr
          have ho := hfr.out
          match j, h with
          | 0, h => exact h
          | 1, h => exact h
          | 2, h => exact h
          | 3, h => exact h
          | 7, h => exact h
          | 8, h => exact h
          | 9, h => exact h
          | 10, h => exact h
          | 11, h => exact h
          | 12, h => exact h
          | 13, h => exact h
          | 4, ⟨g, t, h1, h2⟩ => exact ⟨g, t, h1, h2.below ho⟩
          | 5, ⟨b, h1, h2⟩ => exact ⟨b, h1, h2.below ho⟩
          | 6, ⟨m, h1, h2⟩ => exact ⟨m, h1, h2⟩
          | 14, ⟨m, h1, h2⟩ => exact ⟨m, h1, h2⟩
          | j + 15, h => exact h.elim
        case hU =>
          intro i o hi hd γ v w1 h
          match i, hi with
          | 0, hi => (injection hi with hi; subst hi; cases hd)
          | 1, hi => (injection hi with hi; subst hi; cases hd)
          | 2, hi => (injection hi with hi; subst hi; cases hd)
          | 3, hi => (injection hi with hi; subst hi; cases hd)
          | 4, hi => (injection hi with hi; subst hi; cases hd)
          | 5, hi => (injection hi with hi; subst hi; cases hd)
          | 6, hi => (injection hi with hi; subst hi; cases hd)
          | 7, hi => (injection hi with hi; subst hi; cases hd)
          | 8, hi => (injection hi with hi; subst hi; cases hd)
          | 9, hi => (injection hi with hi; subst hi; cases hd)
          | 10, hi => (injection hi with hi; subst hi; cases hd)
          | 11, hi => (injection hi with hi; subst hi; cases hd)
          | 12, hi => (injection hi with hi; subst hi; cases hd)
          | 13, hi => (injection hi with hi; subst hi; cases hd)
          | 14, hi => (injection hi with hi; subst hi; cases hd)
          | i + 15, hi => cases hi
        case hG => exact ⟨Below.drew BX2.out, objU.dr9 OX2.out⟩
        case hstep =>
          intro i o hi
          match i, hi with
          | 0, hi =>
            injection hi with hi; subst hi
            intro a w1 γ hG hK hD K hk
            have e1 := hK.at 1 (by kernel_rfl)
            refine wp_pure (.pointer (some ⟨w.heap.size, 0, none⟩)) ?_ (hk _ _ γ hG (Fr.same (Below.refl _ _)) rfl)
            simp [execOp, Act.eval, e1, go_sem]
          | 1, hi =>
            injection hi with hi; subst hi
            intro a w1 γ hG hK hD K hk
            have d := hD 0 (by decide) (by kernel_rfl) (.inl rfl)
            change a.tmps.getD 22 undef = .pointer (some ⟨w.heap.size, 0, none⟩) at d
            have x0 := hG.2.cell 0 _ rfl
            refine wp_pure _ ?_ (hk _ _ γ hG (Fr.same (Below.refl _ _)) rfl)
            simp [execOp, Act.eval, d, x0, go_sem]
          | 2, hi =>
            injection hi with hi; subst hi
            intro a w1 γ hG hK hD K hk
            have e1 := hK.at 1 (by kernel_rfl)
            refine wp_pure (.pointer (some ⟨w.heap.size, 1, none⟩)) ?_ (hk _ _ γ hG (Fr.same (Below.refl _ _)) rfl)
            simp [execOp, Act.eval, e1, go_sem]
          | 3, hi =>
            injection hi with hi; subst hi
            intro a w1 γ hG hK hD K hk
            have d := hD 0 (by decide) (by kernel_rfl) (.inl rfl)
            change a.tmps.getD 24 undef = .pointer (some ⟨w.heap.size, 1, none⟩) at d
            have x0 := hG.2.cell 1 _ rfl
            refine wp_pure _ ?_ (hk _ _ γ hG (Fr.same (Below.refl _ _)) rfl)
            simp [execOp, Act.eval, d, x0, go_sem]
          | 4, hi =>
            injection hi with hi; subst hi
            intro a w1 γ hG hK hD K hk
            have d0 := hD 0 (by decide) (by kernel_rfl) (.inl rfl)
            have d1 := hD 1 (by decide) (by kernel_rfl) (.inl rfl)
            change a.tmps.getD 23 undef = _ at d0
            change a.tmps.getD 25 undef = _ at d1
            refine wp_val (w' := w1.alloc (.cells #[.slice aI Q.I.length pI, .slice aD Q.D.length pD] 24)) (.slice (some ⟨w1.heap.size, 0, none⟩) 2 2) ?_ (hk _ _ γ ⟨hG.1.alloc hG.1.size _, hG.2.old _⟩ ⟨below_alloc _ _, fun _ _ => rfl⟩ ⟨_, _, rfl, objU.new _ _ _⟩)
            rw [Array.getD_eq_getD_getElem?] at d0 d1
            simp [execOp, Act.eval, d0, d1, go_sem]
          | 5, hi =>
            injection hi with hi; subst hi
            intro a w1 γ hG hK hD K hk
            have d0 := hD 0 (by decide) (by kernel_rfl) (.inl rfl)
            change ∃ g t, a.tmps.getD 26 undef = .slice (some ⟨g, 0, none⟩) 2 2 ∧ objU w1 g t _ at d0
            obtain ⟨g, t, g1, g2⟩ := d0
            refine wp_call 26 #[.tmp 26] _ rfl (callFunc_enter Try.func26 (by kernel_rfl) (by kernel_rfl)) #[.slice (some ⟨g, 0, none⟩) 2 2] (by simp only [List.map_toArray, List.map_cons, List.map_nil]; exact congrArg (fun v => #[v]) g1) (namesOf_any [(.slice aI Q.I.length pI, Q.I), (.slice aD Q.D.length pD, Q.D)] _ w1 (by simp) g2.rd1 (fun p hp => by
              rcases List.mem_cons.1 hp with rfl | hp
              · exact ⟨HI.out.below hG.1, HK.out.1⟩
              · obtain rfl := List.mem_singleton.1 hp
                exact ⟨HD.out.below hG.1, HK.out.2.1⟩)) ?_
            rintro e w' ⟨b, rfl, hm, hle, hb⟩
            refine ⟨_, rfl, hk _ _ γ ⟨hG.1.trans (hb.mono hG.1.size), hG.2.below hb⟩ ⟨hb, fun _ _ => rfl⟩ ⟨b, rfl, ?_⟩⟩
            simpa [nmsV] using hm
          | 6, hi =>
            injection hi with hi; subst hi
            intro a w1 γ hG hK hD K hk
            have d0 := hD 0 (by decide) (by kernel_rfl) (.inl rfl)
            change ∃ b, a.tmps.getD 27 undef = .map (some b) ∧ MS9 w1 b _ at d0
            obtain ⟨b, g1, n, D, hown, hn, h1, h2, h3⟩ := d0
            have hlen : (nmsI Q.I ++ nmsI Q.D).length = Q.I.length + Q.D.length := by rw [List.length_append]; unfold nmsI; rw [List.length_map, List.length_map]
            rw [hlen] at h2 h3
            refine wp_pure (.int .i64 (Maps.size D)) ?_ (hk _ _ γ hG (Fr.same (Below.refl _ _)) ⟨_, rfl, h2, by omega⟩)
            rw [Array.getD_eq_getD_getElem?] at g1
            have hr := fun ty => hown.len undM ty
            simp [execOp, Act.eval, g1, resolve, invoke, builtin, hr, Result.andThen]
          | 7, hi =>
            injection hi with hi; subst hi
            intro a w1 γ hG hK hD K hk
            have e1 := hK.at 1 (by kernel_rfl)
            refine wp_pure (.pointer (some ⟨w.heap.size, 0, none⟩)) ?_ (hk _ _ γ hG (Fr.same (Below.refl _ _)) rfl)
            simp [execOp, Act.eval, e1, go_sem]
          | 8, hi =>
            injection hi with hi; subst hi
            intro a w1 γ hG hK hD K hk
            have d := hD 0 (by decide) (by kernel_rfl) (.inl rfl)
            change a.tmps.getD 29 undef = .pointer (some ⟨w.heap.size, 0, none⟩) at d
            have x0 := hG.2.cell 0 _ rfl
            refine wp_pure _ ?_ (hk _ _ γ hG (Fr.same (Below.refl _ _)) rfl)
            simp [execOp, Act.eval, d, x0, go_sem]
          | 9, hi =>
            injection hi with hi; subst hi
            intro a w1 γ hG hK hD K hk
            have d := hD 0 (by decide) (by kernel_rfl) (.inl rfl)
            change a.tmps.getD 30 undef = _ at d
            refine wp_pure _ ?_ (hk _ _ γ hG (Fr.same (Below.refl _ _)) rfl)
            simp [execOp, Act.eval, d, go_sem]
          | 10, hi =>
            injection hi with hi; subst hi
            intro a w1 γ hG hK hD K hk
            have e1 := hK.at 1 (by kernel_rfl)
            refine wp_pure (.pointer (some ⟨w.heap.size, 1, none⟩)) ?_ (hk _ _ γ hG (Fr.same (Below.refl _ _)) rfl)
            simp [execOp, Act.eval, e1, go_sem]
          | 11, hi =>
            injection hi with hi; subst hi
            intro a w1 γ hG hK hD K hk
            have d := hD 0 (by decide) (by kernel_rfl) (.inl rfl)
            change a.tmps.getD 32 undef = .pointer (some ⟨w.heap.size, 1, none⟩) at d
            have x0 := hG.2.cell 1 _ rfl
            refine wp_pure _ ?_ (hk _ _ γ hG (Fr.same (Below.refl _ _)) rfl)
            simp [execOp, Act.eval, d, x0, go_sem]
          | 12, hi =>
            injection hi with hi; subst hi
            intro a w1 γ hG hK hD K hk
            have d := hD 0 (by decide) (by kernel_rfl) (.inl rfl)
            change a.tmps.getD 33 undef = _ at d
            refine wp_pure _ ?_ (hk _ _ γ hG (Fr.same (Below.refl _ _)) rfl)
            simp [execOp, Act.eval, d, go_sem]
          | 13, hi =>
            injection hi with hi; subst hi
            intro a w1 γ hG hK hD K hk
            have d0 := hD 0 (by decide) (by kernel_rfl) (.inl rfl)
            have d1 := hD 1 (by decide) (by kernel_rfl) (.inl rfl)
            change a.tmps.getD 31 undef = _ at d0
            change a.tmps.getD 34 undef = _ at d1
            have hw : IntKind.i64.wrap ((Q.I.length : Int) + (Q.D.length : Int)) = (Q.I.length : Int) + (Q.D.length : Int) := uwrap64 _ (by omega) (by omega)
            refine wp_pure _ ?_ (hk _ _ γ hG (Fr.same (Below.refl _ _)) rfl)
            rw [Array.getD_eq_getD_getElem?] at d0 d1
            simp [execOp, Act.eval, d0, d1, hw, go_sem]
          | 14, hi =>
            injection hi with hi; subst hi
            intro a w1 γ hG hK hD K hk
            have d0 := hD 0 (by decide) (by kernel_rfl) (.inl rfl)
            have d1 := hD 1 (by decide) (by kernel_rfl) (.inl rfl)
            change ∃ m : Nat, a.tmps.getD 28 undef = .int .i64 m ∧ _ at d0
            change a.tmps.getD 35 undef = _ at d1
            obtain ⟨m, g1, g2, g3⟩ := d0
            refine wp_pure (.bool (((m : Int)) != ((Q.I.length + Q.D.length : Nat) : Int))) ?_ (hk _ _ γ hG (Fr.same (Below.refl _ _)) ⟨_, rfl, ?_⟩)
            · rw [Array.getD_eq_getD_getElem?] at g1 d1
              simp [execOp, Act.eval, g1, d1, go_sem]
            · rw [← g2, bne_eq_false_iff_eq]
              omega
          | i + 15, hi => cases hi
        case hend =>
          intro x w3 γ hG hx
          obtain ⟨r, hr, hnd⟩ : ∃ r : Bool, x 14 = .bool r ∧ (r = false ↔ (nmsI Q.I ++ nmsI Q.D).Nodup) := hx 14 (by decide) rfl
          simp only [putAll, Act.put, List.setIfInBounds_toArray, List.set_cons_zero, List.set_cons_succ, Nat.zero_add, Nat.reduceAdd]
          rw [hr]
          have HB := hide hG.1
          have OB := hide hG.2
          have HND := hide hnd
          clear hG hx hr hnd OX2 BX2
          cases r with
          | true =>
            have Hn : Hid (qOk Q = false) := qOk_false (fun g => by have := HND.out.2 (HIFF.out.1 g).2.2.2.1; cases this)
            clear HIFF HND
            go_wp2
            go_ret
            exact ⟨ret_bool Hn.out.symm, HB.out⟩
          | false =>
            have HN := hide (HND.out.1 rfl)
            clear HND
            have x1 := OB.out.cell 1 _ rfl
            have BXx : Hid (Below w.heap.size w (w3.alloc (.cells #[.slice aD Q.D.length pD] 24))) := HB.out.alloc HB.out.size _
            have OBx : Hid (objU (w3.alloc (.cells #[.slice aD Q.D.length pD] 24)) w.heap.size 27 [.slice aI Q.I.length pI, .slice aD Q.D.length pD, .slice aA Q.A.length pA, .int .i64 Q.now]) := OB.out.old _
            have OGx : Hid (objU (w3.alloc (.cells #[.slice aD Q.D.length pD] 24)) w3.heap.size 24 [.slice aD Q.D.length pD]) := objU.new _ _ _
            go_wp2_with (go_at_call 26; refine (namesOf_any [(.slice aD Q.D.length pD, Q.D)] _ _ (by simp) OGx.out.rd1 (fun p hp => by
              obtain rfl := List.mem_singleton.1 hp
              exact ⟨HD.out.below BXx.out, HK.out.2.1⟩)).mono ?_; rintro e w4 ⟨b, rfl, hm, hle, hb⟩; have OB4 := hide (OBx.out.below hb); have BX4 : Hid (Below w.heap.size w w4) := BXx.out.trans (hb.mono BXx.out.size); have HM : Hid (MS9 w4 b (nmsI Q.D)) := (by simpa [nmsV, Hid] using hm); have HLE : Hid (w.heap.size + 1 ≤ b) := Nat.le_trans OBx.out.lt hle; have z2 := OB4.out.cell 2 _ rfl; clear hm hle hb OBx BXx OGx OB HB)
            have hle := HLE.out
            go_loopw [44] (fun i wr => ∃ (k : Nat), k ≤ Q.A.length ∧ i = .int .i64 k ∧ Hid (DS9 wr b (fun s => s ∈ nmsI Q.D ∧ s ∉ Q.A.take k)) ∧ Hid ((Q.A.take k).Nodup ∧ ∀ s ∈ Q.A.take k, s ∈ nmsI Q.D) ∧ Hid (Below w.heap.size w wr)) (fun i _ => Q.A.length - (intOf i).toNat)
            case atStart => exact ⟨0, Nat.zero_le _, rfl, HM.out.ds.congr (fun s => by simp), by simp [Hid], BX4⟩
            case round =>
              obtain ⟨k, hk, rfl, Hd, Hg, Hb⟩ := hrel
              by_cases hlt : k < Q.A.length
              · obtain ⟨bA, oA, rfl, hbA, ca⟩ := (HA.out.below Hb.out).stAt hlt
                have hsz := HK.out.2.2.1.2 _ (List.getElem_mem hlt)
                have HTk : Hid (Q.A.take (k + 1) = Q.A.take k ++ [Q.A[k]]) := by
                  show _ = _
                  rw [List.take_add_one, List.getElem?_eq_getElem hlt, Option.toList_some]
                have HSp : Hid (Q.A = Q.A.take k ++ (Q.A[k] :: Q.A.drop (k + 1))) := by
                  show _ = _
                  rw [← List.drop_eq_getElem_cons hlt, List.take_append_drop]
                have HDr := hide (drop_any b _ (Q.A[k]) wr hsz Hd.out)
                clear hsz Hd
                generalize Q.A[k] = s at *
                go_wp2_with fail
                refine HDr.out.mono ?_
                rintro e w5 ⟨r, rfl, hr, hd, ho⟩
                have Hr := hide hr
                have HD5 := hide hd
                have Hb5 : Hid (Below w.heap.size w w5) := Hb.out.trans (ho.below (fun t ht => by simp at ht; omega) Hb.out.size)
                clear hr hd ho HDr
                cases r with
                | false =>
                  have Hn : Hid (qOk Q = false) := qOk_false (fun g => by
                    obtain ⟨-, -, -, -, g1, g2⟩ := HIFF.out.1 g
                    have hm : s ∈ Q.A := by rw [HSp.out]; simp
                    have hni : s ∉ Q.A.take k := fun h => by
                      rw [HSp.out] at g1
                      exact (List.nodup_append.1 g1).2.2 s h s (by simp) rfl
                    have := Hr.out.2 ⟨g2 s hm, hni⟩
                    cases this)
                  clear HIFF Hr HD5 HTk HSp Hg
                  go_wp2
                  go_ret
                  exact ⟨ret_bool Hn.out.symm, Hb5.out⟩
                | true =>
                  obtain ⟨g1, g2⟩ := Hr.out.1 (by first | rfl | trivial)
                  have HG2 : Hid ((Q.A.take (k + 1)).Nodup ∧ ∀ s ∈ Q.A.take (k + 1), s ∈ nmsI Q.D) := by
                    show _ ∧ _
                    rw [HTk.out]
                    refine ⟨List.nodup_append.2 ⟨Hg.out.1, by simp, fun a ha b hb e => by simp at hb; exact g2 (by rw [← hb, ← e]; exact ha)⟩, fun t ht => ?_⟩
                    rcases List.mem_append.1 ht with ht | ht
                    · exact Hg.out.2 t ht
                    · simp at ht; rw [ht]; exact g1
                  have HD6 : Hid (DS9 w5 b (fun s => s ∈ nmsI Q.D ∧ s ∉ Q.A.take (k + 1))) := HD5.out.congr (fun t => by
                    rw [HTk.out]
                    simp only [List.mem_append, List.mem_singleton, not_or]
                    exact ⟨fun h => ⟨h.1.1, h.1.2, h.2⟩, fun h => ⟨⟨h.1, h.2.1⟩, h.2.2⟩⟩)
                  clear Hr HD5 HTk HSp Hg g1 g2
                  go_wp2
                  go_roundw
                  case rel => exact ⟨k + 1, by omega, by go_num, HD6, HG2, Hb5⟩
                  case measure => simp [intOf]; omega
              · have e : k = Q.A.length := by omega
                have Hn : Hid (qOk Q = true) := qOk_true (HIFF.out.2 ⟨(by first | exact HB0.out | trivial), HPI.out, HPD.out, HN.out, by have := Hg.out; rw [e, List.take_length] at this; exact this⟩)
                clear Hd Hg HIFF
                subst e
                go_wp2
                go_ret
                exact ⟨ret_bool Hn.out.symm, Hb.out⟩
end Go.Proofs.Ytddojjigijfgbaa
/- Queues: the program's places of items: slices.IndexFunc at its two closures, itemPlace. -/
namespace Go.Proofs.Ytddojjigijfgbaa
open Go.RowKit Go.BigFrame
set_option linter.unusedVariables false

def plcP (L : List It) (p : It → Bool) : Int := if L.findIdx p < L.length then (L.findIdx p : Int) else -1
theorem plcP_hit {L : List It} {p : It → Bool} {k : Nat} (hk : k < L.length) (h : p (L[k]'hk) = true) (ho : ∀ j (g : j < L.length), j < k → p (L[j]'g) = false) : plcP L p = (k : Int) := by
  have : L.findIdx p = k := (List.findIdx_eq hk).2 ⟨h, fun j hj => by simp [ho j (by omega) hj]⟩
  unfold plcP
  rw [this, if_pos hk]
theorem plcP_miss {L : List It} {p : It → Bool} (ho : ∀ j (g : j < L.length), p (L[j]'g) = false) : plcP L p = -1 := by
  have : L.findIdx p = L.length := List.findIdx_eq_length.2 (fun x hx => by obtain ⟨j, hj, rfl⟩ := List.mem_iff_getElem.1 hx; exact ho j hj)
  unfold plcP
  rw [this, if_neg (Nat.lt_irrefl _)]
theorem plcP_I (L : List It) (s : ByteArray) : plcP L (fun x => decide (x.1 = s)) = plcI L s := rfl
set_option maxRecDepth 20000 in
set_option maxHeartbeats 1600000 in
theorem ixNm_any (L : List It) (p : It → Bool) (cap : Addr) (c : Value) (w : World) (hn : L.length ≤ 4000000) (hx : rdR w 3 c (L.map encI)) (hc : ∀ wx, Below w.heap.size w wx → ∀ x ∈ L, Calls Try.prog 48 #[.agg #[.string x.1, .int .i64 x.2.1, .int .i64 x.2.2], .pointer (some cap)] wx fun e w' => e = .returned (.bool (p x)) ∧ Below wx.heap.size wx w') :
    Calls Try.prog 38 #[c, .func (.func 48) #[] #[.pointer (some cap)]] w fun e w' => e = .returned (.int .i64 (plcP L p)) ∧ Below w.heap.size w w' := by
  obtain ⟨a, pc, rfl, -, -⟩ := hx.itS
  have HX := hide hx
  have HC := hide hc
  clear hx hc
  go_enter Try.func38, Try.ntmps38
  go_wp2
  go_loopw [8] (fun i wr => ∃ (q : Nat), q ≤ L.length ∧ i = .int .i64 q ∧ Hid (∀ j (h : j < L.length), j < q → p (L[j]'h) = false) ∧ Hid (Below w.heap.size w wr)) (fun i _ => L.length - (intOf i).toNat)
  case atStart => exact ⟨0, Nat.zero_le _, rfl, (fun j _ h => by omega), Below.refl _ _⟩
  case round =>
    obtain ⟨q, hq, rfl, Ho, Hb⟩ := hrel
    by_cases hlt : q < L.length
    · obtain ⟨b, off, rfl, hbk, c0, c1, c2⟩ := (HX.out.below Hb.out).itAt hlt
      have HCx : Hid (∀ wx, Below wr.heap.size wr wx → Calls Try.prog 48 #[.agg #[.string (L[q].1), .int .i64 (L[q].2.1), .int .i64 (L[q].2.2)], .pointer (some cap)] wx fun e w' => e = .returned (.bool (p L[q])) ∧ Below wx.heap.size wx w') := fun wx hb => HC.out wx (Hb.out.trans (hb.mono Hb.out.size)) _ (List.getElem_mem hlt)
      have Hy : Hid (p L[q] = true → plcP L p = (q : Int)) := fun h => plcP_hit hlt h Ho.out
      have Hn : Hid (p L[q] = false → ∀ j (h : j < L.length), j < q + 1 → p (L[j]'h) = false) := fun h j hj hjq => by
        by_cases e : j = q
        · subst e; exact h
        · exact Ho.out j hj (by omega)
      clear Ho
      generalize p L[q] = r at *
      generalize L[q].1 = s at *
      generalize L[q].2.1 = rd at *
      generalize L[q].2.2 = fl at *
      cases r with
      | true =>
        have HN := hide (Hy.out (by first | rfl | trivial))
        clear Hy Hn
        go_wp2_with fail
        refine (HCx.out _ (by repeat (first | with_reducible exact Below.refl _ _ | with_reducible refine Below.setCell ?_ (by simp) _ | with_reducible refine Below.alloc ?_ (by simp) _))).mono ?_
        rintro e w1 ⟨rfl, hb1⟩
        have HB1 : Hid (Below w.heap.size w w1) := Hb.out.trans (Below.mono (Below.trans ((by repeat (first | with_reducible exact Below.refl _ _ | with_reducible refine Below.setCell ?_ (by simp) _ | with_reducible refine Below.alloc ?_ (by simp) _)) : Below wr.heap.size wr _) (hb1.mono (Below.size (B := wr.heap.size) (by repeat (first | with_reducible exact Below.refl _ _ | with_reducible refine Below.setCell ?_ (by simp) _ | with_reducible refine Below.alloc ?_ (by simp) _))))) Hb.out.size)
        clear hb1 HCx
        go_wp2
        go_ret
        exact ⟨ret_int HN.out.symm, HB1.out⟩
      | false =>
        have HN := hide (Hn.out (by first | rfl | trivial))
        clear Hy Hn
        go_wp2_with fail
        refine (HCx.out _ (by repeat (first | with_reducible exact Below.refl _ _ | with_reducible refine Below.setCell ?_ (by simp) _ | with_reducible refine Below.alloc ?_ (by simp) _))).mono ?_
        rintro e w1 ⟨rfl, hb1⟩
        have HB1 : Hid (Below w.heap.size w w1) := Hb.out.trans (Below.mono (Below.trans ((by repeat (first | with_reducible exact Below.refl _ _ | with_reducible refine Below.setCell ?_ (by simp) _ | with_reducible refine Below.alloc ?_ (by simp) _)) : Below wr.heap.size wr _) (hb1.mono (Below.size (B := wr.heap.size) (by repeat (first | with_reducible exact Below.refl _ _ | with_reducible refine Below.setCell ?_ (by simp) _ | with_reducible refine Below.alloc ?_ (by simp) _))))) Hb.out.size)
        clear hb1 HCx
        go_wp2
        go_roundw
        case rel => exact ⟨q + 1, by omega, by go_num, HN, HB1⟩
        case measure => simp [intOf]; omega
    · have e : q = L.length := by omega
      subst e
      have HN := hide (plcP_miss (p := p) (fun j hj => Ho.out j hj hj))
      clear Ho HX HC
      go_wp2
      go_ret
      exact ⟨ret_int HN.out.symm, Hb.out⟩
set_option maxRecDepth 20000 in
set_option maxHeartbeats 1600000 in
theorem ixRd_any (L : List It) (p : It → Bool) (cap : Addr) (c : Value) (w : World) (hn : L.length ≤ 4000000) (hx : rdR w 3 c (L.map encI)) (hc : ∀ wx, Below w.heap.size w wx → ∀ x ∈ L, Calls Try.prog 39 #[.agg #[.string x.1, .int .i64 x.2.1, .int .i64 x.2.2], .pointer (some cap)] wx fun e w' => e = .returned (.bool (p x)) ∧ Below wx.heap.size wx w') :
    Calls Try.prog 38 #[c, .func (.func 39) #[] #[.pointer (some cap)]] w fun e w' => e = .returned (.int .i64 (plcP L p)) ∧ Below w.heap.size w w' := by
  obtain ⟨a, pc, rfl, -, -⟩ := hx.itS
  have HX := hide hx
  have HC := hide hc
  clear hx hc
  go_enter Try.func38, Try.ntmps38
  go_wp2
  go_loopw [8] (fun i wr => ∃ (q : Nat), q ≤ L.length ∧ i = .int .i64 q ∧ Hid (∀ j (h : j < L.length), j < q → p (L[j]'h) = false) ∧ Hid (Below w.heap.size w wr)) (fun i _ => L.length - (intOf i).toNat)
  case atStart => exact ⟨0, Nat.zero_le _, rfl, (fun j _ h => by omega), Below.refl _ _⟩
  case round =>
    obtain ⟨q, hq, rfl, Ho, Hb⟩ := hrel
    by_cases hlt : q < L.length
    · obtain ⟨b, off, rfl, hbk, c0, c1, c2⟩ := (HX.out.below Hb.out).itAt hlt
      have HCx : Hid (∀ wx, Below wr.heap.size wr wx → Calls Try.prog 39 #[.agg #[.string (L[q].1), .int .i64 (L[q].2.1), .int .i64 (L[q].2.2)], .pointer (some cap)] wx fun e w' => e = .returned (.bool (p L[q])) ∧ Below wx.heap.size wx w') := fun wx hb => HC.out wx (Hb.out.trans (hb.mono Hb.out.size)) _ (List.getElem_mem hlt)
      have Hy : Hid (p L[q] = true → plcP L p = (q : Int)) := fun h => plcP_hit hlt h Ho.out
      have Hn : Hid (p L[q] = false → ∀ j (h : j < L.length), j < q + 1 → p (L[j]'h) = false) := fun h j hj hjq => by
        by_cases e : j = q
        · subst e; exact h
        · exact Ho.out j hj (by omega)
      clear Ho
      generalize p L[q] = r at *
      generalize L[q].1 = s at *
      generalize L[q].2.1 = rd at *
      generalize L[q].2.2 = fl at *
      cases r with
      | true =>
        have HN := hide (Hy.out (by first | rfl | trivial))
        clear Hy Hn
        go_wp2_with fail
        refine (HCx.out _ (by repeat (first | with_reducible exact Below.refl _ _ | with_reducible refine Below.setCell ?_ (by simp) _ | with_reducible refine Below.alloc ?_ (by simp) _))).mono ?_
        rintro e w1 ⟨rfl, hb1⟩
        have HB1 : Hid (Below w.heap.size w w1) := Hb.out.trans (Below.mono (Below.trans ((by repeat (first | with_reducible exact Below.refl _ _ | with_reducible refine Below.setCell ?_ (by simp) _ | with_reducible refine Below.alloc ?_ (by simp) _)) : Below wr.heap.size wr _) (hb1.mono (Below.size (B := wr.heap.size) (by repeat (first | with_reducible exact Below.refl _ _ | with_reducible refine Below.setCell ?_ (by simp) _ | with_reducible refine Below.alloc ?_ (by simp) _))))) Hb.out.size)
        clear hb1 HCx
        go_wp2
        go_ret
        exact ⟨ret_int HN.out.symm, HB1.out⟩
      | false =>
        have HN := hide (Hn.out (by first | rfl | trivial))
        clear Hy Hn
        go_wp2_with fail
        refine (HCx.out _ (by repeat (first | with_reducible exact Below.refl _ _ | with_reducible refine Below.setCell ?_ (by simp) _ | with_reducible refine Below.alloc ?_ (by simp) _))).mono ?_
        rintro e w1 ⟨rfl, hb1⟩
        have HB1 : Hid (Below w.heap.size w w1) := Hb.out.trans (Below.mono (Below.trans ((by repeat (first | with_reducible exact Below.refl _ _ | with_reducible refine Below.setCell ?_ (by simp) _ | with_reducible refine Below.alloc ?_ (by simp) _)) : Below wr.heap.size wr _) (hb1.mono (Below.size (B := wr.heap.size) (by repeat (first | with_reducible exact Below.refl _ _ | with_reducible refine Below.setCell ?_ (by simp) _ | with_reducible refine Below.alloc ?_ (by simp) _))))) Hb.out.size)
        clear hb1 HCx
        go_wp2
        go_roundw
        case rel => exact ⟨q + 1, by omega, by go_num, HN, HB1⟩
        case measure => simp [intOf]; omega
    · have e : q = L.length := by omega
      subst e
      have HN := hide (plcP_miss (p := p) (fun j hj => Ho.out j hj hj))
      clear Ho HX HC
      go_wp2
      go_ret
      exact ⟨ret_int HN.out.symm, Hb.out⟩
theorem nmClo_any (x : It) (s : ByteArray) (b : Nat) (w : World) (hc : w.cell? ⟨b, 0, none⟩ = some (.string s)) :
    Calls Try.prog 48 #[.agg #[.string x.1, .int .i64 x.2.1, .int .i64 x.2.2], .pointer (some ⟨b, 0, none⟩)] w fun e w' => e = .returned (.bool (decide (x.1 = s))) ∧ Below w.heap.size w w' := by
  have he := beq_str x.1 s
  have hbl := World.block_lt_of_cell? _ _ hc
  generalize decide (x.1 = s) = r at *
  go_enter Try.func48, Try.ntmps48
  go_wp2
  go_ret
  exact ⟨rfl, below_alloc _ _⟩
set_option maxHeartbeats 800000 in
theorem itemPlace_any (L : List It) (s : ByteArray) (c : Value) (w : World) (hn : L.length ≤ 4000000) (hx : rdR w 3 c (L.map encI)) :
    Calls Try.prog 35 #[c, .string s] w fun e w' => e = .returned (.int .i64 (plcI L s)) ∧ Below w.heap.size w w' := by
  have HO : Hid (objU (w.alloc (.cells #[.string s] 9)) w.heap.size 9 [.string s]) := objU.new _ _ _
  have HC : Hid (Calls Try.prog 38 #[c, .func (.func 48) #[] #[.pointer (some ⟨w.heap.size, 0, none⟩)]] (w.alloc (.cells #[.string s] 9)) fun e w' => e = .returned (.int .i64 (plcP L (fun x => decide (x.1 = s)))) ∧ Below (w.alloc (.cells #[.string s] 9)).heap.size (w.alloc (.cells #[.string s] 9)) w') :=
    ixNm_any L (fun x => decide (x.1 = s)) ⟨w.heap.size, 0, none⟩ c _ hn (hx.below (below_alloc _ _)) (fun wx hb x _ => nmClo_any x s w.heap.size wx ((HO.out.below hb).cell 0 _ rfl))
  clear hx
  go_enter Try.func35, Try.ntmps35
  go_wp2_with fail
  refine HC.out.mono ?_
  rintro e w1 ⟨rfl, hb⟩
  rw [plcP_I]
  have HB : Hid (Below w.heap.size w w1) := (below_alloc _ _).trans (hb.mono (below_alloc _ _).size)
  clear hb
  go_wp2
  go_ret
  exact ⟨rfl, HB.out⟩
end Go.Proofs.Ytddojjigijfgbaa
/- Queues: the program's add. -/
namespace Go.Proofs.Ytddojjigijfgbaa
open Go.RowKit Go.BigFrame
set_option linter.unusedVariables false

/-- a queue in a block of its own, its lists too -/
structure QB (w : World) (b base : Nat) (Q : Qu) (vI vD vA : Value) : Prop where
  o : objU w b 27 [vI, vD, vA, .int .i64 Q.now]
  q : ownQ w base Q vI vD vA
  ni : b ∉ blkOf vI
  nd : b ∉ blkOf vD
  na : b ∉ blkOf vA
theorem QB.below {w w' : World} {b base : Nat} {Q : Qu} {vI vD vA : Value} (h : QB w b base Q vI vD vA) (hb : Below w.heap.size w w') : QB w' b base Q vI vD vA := ⟨h.o.below hb, h.q.below hb, h.ni, h.nd, h.na⟩
theorem QB.lt {w : World} {b base : Nat} {Q : Qu} {vI vD vA : Value} (h : QB w b base Q vI vD vA) : b < w.heap.size := h.o.lt
def FJ (w0 : World) (b base : Nat) (Q : Qu) (x : It) (vI vD vA : Value) : Nat → (Nat → Nat) → Value → World → Prop
  | 0, γ, v, w => v = .pointer (some ⟨b, 0, none⟩)
  | 1, γ, v, w => v = .pointer (some ⟨b, 0, none⟩)
  | 2, γ, v, w => v = .pointer (some ⟨b, 0, none⟩)
  | 3, γ, v, w => v = .pointer (some ⟨b, 0, none⟩)
  | 4, γ, v, w => v = vI
  | 5, γ, v, w => v = .agg #[.string x.1, .int .i64 x.2.1, .int .i64 x.2.2]
  | 6, γ, v, w => ∃ g t, v = .slice (some ⟨g, 0, none⟩) 1 1 ∧ objU w g t (encI x) ∧ g ≠ b
  | 7, γ, v, w => ownR w base 36 3 v ((Q.I ++ [x]).map encI) ∧ b ∉ blkOf v ∧ (∀ g ∈ blkOf v, g ∉ blkOf vD) ∧ ∀ g ∈ blkOf v, g ∉ blkOf vA
  | 8, γ, v, w => v = .pointer (some ⟨b, 0, none⟩)
  | 9, γ, v, w => v = .pointer (some ⟨b, 0, none⟩)
  | 10, γ, v, w => ∃ vI', QB w b base { Q with I := Q.I ++ [x] } vI' vD vA
  | _, _, _, _ => False
structure GJ (w0 : World) (b base : Nat) (Q : Qu) (x : It) (vI vD vA : Value) (c : Bool) (w : World) : Prop where
  bel : Below base w0 w
  size : w0.heap.size < w.heap.size
  box : c = false → objU w b 27 [vI, vD, vA, .int .i64 Q.now] ∧ ownR w base 36 3 vI (Q.I.map encI)
  bx2 : ∃ u, objU w b 27 [u, vD, vA, .int .i64 Q.now]
  d : ownR w base 36 3 vD (Q.D.map encI)
  a : ownR w base 9 1 vA (Q.A.map encS)
  it : objU w w0.heap.size 36 (encI x)
theorem GJ.below {w0 w w' : World} {b base : Nat} {Q : Qu} {x : It} {vI vD vA : Value} {c : Bool} (h : GJ w0 b base Q x vI vD vA c w) (hs : base ≤ w0.heap.size) (hb : Below w.heap.size w w') : GJ w0 b base Q x vI vD vA c w' :=
  ⟨h.bel.trans (hb.mono (by have := h.size; omega)), by have := h.size; have := hb.size; omega, fun e => ⟨(h.box e).1.below hb, (h.box e).2.below hb⟩, by obtain ⟨u, hu⟩ := h.bx2; exact ⟨u, hu.below hb⟩, h.d.below hb, h.a.below hb, h.it.below hb⟩
set_option maxRecDepth 20000 in
set_option maxHeartbeats 1600000 in
theorem add_any (Q : Qu) (x : It) (b base : Nat) (vI vD vA : Value) (w : World) (hq : okIs Q.I) (h : QB w b base Q vI vD vA) (hbase : base ≤ b) :
    Calls Try.prog 37 #[.pointer (some ⟨b, 0, none⟩), .agg #[.string x.1, .int .i64 x.2.1, .int .i64 x.2.2]] w fun e w' => ∃ vI', e = .returned (.bool (!decide (Q.I.length = 60))) ∧ QB w' b base (addQ Q x) vI' vD vA ∧ Below base w w' := by
  obtain ⟨aI, pI, rfl⟩ := h.q.i.itS
  have H := hide h
  have hlq := hq.1
  have hbl := h.lt
  have x0 := h.o.cell 0 _ rfl
  clear h hq
  by_cases h60 : Q.I.length = 60
  · have hi60 : (Q.I.length : Int) = 60 := by omega
    have Hn : Hid (addQ Q x = Q) := if_pos h60
    have Hb : Hid ((!decide (Q.I.length = 60)) = false) := by show _ = _; rw [decide_eq_true h60]; rfl
    go_enter Try.func37, Try.ntmps37
    go_wp2
    go_ret
    exact ⟨_, ret_bool Hb.out.symm, by rw [Hn.out]; exact H.out.below (below_alloc _ _), (below_alloc _ _).mono (by omega)⟩
  · have hi60 : ¬ (Q.I.length : Int) = 60 := by omega
    have Hn : Hid (addQ Q x = { Q with I := Q.I ++ [x] }) := if_neg h60
    have Hb : Hid ((!decide (Q.I.length = 60)) = true) := by show _ = _; rw [decide_eq_false h60]; rfl
    have HE := hide elI
    have hb60 : ((Q.I.length : Int) == 60) = false := by rw [beq_eq_false_iff_ne]; exact hi60
    go_enter Try.func37, Try.ntmps37
    go_wp2
    refine wp_region_inv2 (fun i => if i = 7 then OutS (blkOf (.slice aI Q.I.length pI)) else if i = 10 then OutS [b] else fun u v => Below u.heap.size u v) (fun j => if j = 6 then some 7 else none) 7 (by decide)
      (GJ w b base Q x (.slice aI Q.I.length pI) vD vA) (FJ w b base Q x (.slice aI Q.I.length pI) vD vA) (by kernel_rfl) (by kernel_rfl) (by kernel_rfl) ?hF ?hU ?hG ?hstep ?hend
    case hF =>
      intro i j γ γ' v w1 w2 hij hsp hnd hsd h hfr
      have ho := hfr.out
      match j, h with
      | 0, h => exact h
      | 1, h => exact h
      | 2, h => exact h
      | 3, h => exact h
      | 4, h => exact h
      | 5, h => exact h
      | 6, ⟨g, t, h1, h2, h3⟩ =>
        rw [if_neg (fun e => hsp (by simp [e]))] at ho
        by_cases e10 : i = 10
        · rw [if_pos e10] at ho
          exact ⟨g, t, h1, h2.outS ho (by simpa using h3), h3⟩
        · rw [if_neg e10] at ho
          exact ⟨g, t, h1, h2.below ho, h3⟩
      | 7, ⟨h1, h2⟩ =>
        rw [if_neg hij] at ho
        by_cases e10 : i = 10
        · rw [if_pos e10] at ho
          exact ⟨h1.frame (fun g hg => ho.block g (h1.lt g hg).2 (fun hh => h2.1 (by simp at hh; exact hh ▸ hg))), h2⟩
        · rw [if_neg e10] at ho
          exact ⟨h1.below ho, h2⟩
      | 8, h => exact h
      | 9, h => exact h
      | 10, ⟨v', h⟩ =>
        by_cases e7 : i = 7
        · subst e7; cases (hnd.symm.trans (by kernel_rfl) : false = true)
        · rw [if_neg e7, if_neg hij] at ho
          exact ⟨v', h.below ho⟩
      | j + 11, h => exact h.elim
    case hU =>
      intro i o hi hd γ v w1 h
      match i, hi with
      | 0, hi => (injection hi with hi; subst hi; cases hd)
      | 1, hi => (injection hi with hi; subst hi; cases hd)
      | 2, hi => (injection hi with hi; subst hi; cases hd)
      | 3, hi => (injection hi with hi; subst hi; cases hd)
      | 4, hi => (injection hi with hi; subst hi; cases hd)
      | 5, hi => (injection hi with hi; subst hi; cases hd)
      | 6, hi => (injection hi with hi; subst hi; cases hd)
      | 7, hi => (injection hi with hi; subst hi; cases hd)
      | 8, hi => (injection hi with hi; subst hi; cases hd)
      | 9, hi => (injection hi with hi; subst hi; cases hd)
      | 10, hi => exact h
      | i + 11, hi => cases hi
    case hG =>
      obtain ⟨h1, h2, h3, h4, h5⟩ := H.out
      exact ⟨Below.drew ((Below.refl _ _).alloc (by omega) _), by simp, fun _ => ⟨objU.dr9 (h1.old _), ownR.below h2.i (Below.drew (below_alloc _ _))⟩, ⟨_, objU.dr9 (h1.old _)⟩, ownR.below h2.d (Below.drew (below_alloc _ _)), ownR.below h2.a (Below.drew (below_alloc _ _)), objU.dr9 (objU.new _ _ _)⟩
    case hstep =>
      intro i o hi
      match i, hi with
      | 0, hi =>
        injection hi with hi; subst hi
        intro c a w1 γ hc0 hc1 hG hK hD K hk
        have e1 := hK.at 0 (by kernel_rfl)
        refine wp_pure (.pointer (some ⟨b, 0, none⟩)) ?_ (hk _ _ γ hG (Fr.same (Below.refl _ _)) rfl)
        simp [execOp, Act.eval, e1, go_sem]
      | 1, hi =>
        injection hi with hi; subst hi
        intro c a w1 γ hc0 hc1 hG hK hD K hk
        have e1 := hK.at 0 (by kernel_rfl)
        refine wp_pure (.pointer (some ⟨b, 0, none⟩)) ?_ (hk _ _ γ hG (Fr.same (Below.refl _ _)) rfl)
        simp [execOp, Act.eval, e1, go_sem]
      | 2, hi =>
        injection hi with hi; subst hi
        intro c a w1 γ hc0 hc1 hG hK hD K hk
        have d := hD 0 (by decide) (by kernel_rfl) (.inl rfl)
        change a.tmps.getD 12 undef = .pointer (some ⟨b, 0, none⟩) at d
        refine wp_pure (.pointer (some ⟨b, 0, none⟩)) ?_ (hk _ _ γ hG (Fr.same (Below.refl _ _)) rfl)
        simp [execOp, Act.eval, d, go_sem]
      | 3, hi =>
        injection hi with hi; subst hi
        intro c a w1 γ hc0 hc1 hG hK hD K hk
        have d := hD 0 (by decide) (by kernel_rfl) (.inl rfl)
        change a.tmps.getD 13 undef = .pointer (some ⟨b, 0, none⟩) at d
        refine wp_pure (.pointer (some ⟨b, 0, none⟩)) ?_ (hk _ _ γ hG (Fr.same (Below.refl _ _)) rfl)
        simp [execOp, Act.eval, d, go_sem]
      | 4, hi =>
        injection hi with hi; subst hi
        intro c a w1 γ hc0 hc1 hG hK hD K hk
        have d := hD 0 (by decide) (by kernel_rfl) (.inl rfl)
        change a.tmps.getD 14 undef = .pointer (some ⟨b, 0, none⟩) at d
        have hc := hc0 (.inl (by kernel_rfl))
        have x0 := (hG.box hc).1.cell 0 _ rfl
        refine wp_pure _ ?_ (hk _ _ γ hG (Fr.same (Below.refl _ _)) rfl)
        simp [execOp, Act.eval, d, x0, go_sem]
      | 5, hi =>
        injection hi with hi; subst hi
        intro c a w1 γ hc0 hc1 hG hK hD K hk
        have e1 := hK.at 3 (by kernel_rfl)
        have y0 := hG.it.cell 0 _ rfl
        have y1 := hG.it.cell 1 _ rfl
        have y2 := hG.it.cell 2 _ rfl
        refine wp_pure (.agg #[.string x.1, .int .i64 x.2.1, .int .i64 x.2.2]) ?_ (hk _ _ γ hG (Fr.same (Below.refl _ _)) rfl)
        simp [execOp, Act.eval, e1, y0, y1, y2, go_sem]
      | 6, hi =>
        injection hi with hi; subst hi
        intro c a w1 γ hc0 hc1 hG hK hD K hk
        have d := hD 0 (by decide) (by kernel_rfl) (.inl rfl)
        change a.tmps.getD 16 undef = _ at d
        refine wp_val (w' := w1.alloc (.cells #[.string x.1, .int .i64 x.2.1, .int .i64 x.2.2] 36)) (.slice (some ⟨w1.heap.size, 0, none⟩) 1 1) ?_ (hk _ _ γ (hG.below (by omega) (below_alloc _ _)) ⟨below_alloc _ _, fun _ _ => rfl⟩ ⟨_, _, rfl, objU.new _ _ _, by have := hG.size; omega⟩)
        rw [Array.getD_eq_getD_getElem?] at d
        simp [execOp, Act.eval, d, go_sem]
      | 7, hi =>
        injection hi with hi; subst hi
        intro c a w1 γ hc0 hc1 hG hK hD K hk
        have d0 := hD 0 (by decide) (by kernel_rfl) (.inl rfl)
        change a.tmps.getD 15 undef = _ at d0
        have d1 := hD 1 (by decide) (by kernel_rfl) (.inr (.inl rfl))
        change ∃ g t, a.tmps.getD 17 undef = .slice (some ⟨g, 0, none⟩) 1 1 ∧ objU w1 g t (encI x) ∧ g ≠ b at d1
        obtain ⟨g, t, g1, g2, g3⟩ := d1
        have hc := hc0 (.inr rfl)
        obtain ⟨hbx, hoI⟩ := hG.box hc
        obtain ⟨v', w', r1, r2, r3, r4⟩ := run_append_rd HE.out (by decide) 24 base _ _ hoI _ _ (rdR.one g2) (rowsI [x]) (oneI [x]) (by simp; omega) (by have := hG.size; omega)
        have hO : OutS (blkOf (.slice aI Q.I.length pI)) w1 w' := ⟨r3.os, r3.tape, r3.output, r3.size, fun k hk hn => r3.block k hk (fun e => hn (blk_own.2 e.symm))⟩
        have hne : ∀ (v : Value) (e : TypeId) (k : Nat) (R : List (List Value)), ownR w1 base e k v R → (∀ g ∈ blkOf (.slice aI Q.I.length pI), g ∉ blkOf v) → ∀ g ∈ blkOf v', g ∉ blkOf v := fun v e k R hv hd g hg hh => by
          rw [blk_own] at hg
          rcases r4 with e | e
          · rw [e] at hg; exact hd g (blk_own.2 hg) hh
          · rw [e] at hg; cases hg; have := (hv.lt _ hh).2; omega
        have hbn : b ∉ blkOf v' := fun hg => by
          rw [blk_own] at hg
          rcases r4 with e | e
          · rw [e] at hg; exact H.out.ni (blk_own.2 hg)
          · rw [e] at hg; cases hg; have := hG.size; omega
        have hkd : ∀ (v : Value) (e : TypeId) (k : Nat) (R : List (List Value)), ownR w1 base e k v R → (∀ g ∈ blkOf (.slice aI Q.I.length pI), g ∉ blkOf v) → ownR w' base e k v R := fun v e k R hv hd => hv.frame (fun g hg => hO.block g (hv.lt g hg).2 (fun hh => hd g hh hg))
        have hobj : ∀ (g : Nat) (t : TypeId) (xs : List Value), objU w1 g t xs → g ∉ blkOf (.slice aI Q.I.length pI) → objU w' g t xs := fun g t xs ho hn => ho.outS hO hn
        refine wp_val v' ?_ (hk _ _ γ ⟨hG.bel.trans (hO.below (fun t ht => (hoI.lt t ht).1) (by have := hG.size; omega)), Nat.lt_of_lt_of_le hG.size hO.size, (fun e => by cases e), ⟨_, hobj _ _ _ hbx H.out.ni⟩, hkd _ _ _ _ hG.d H.out.q.id, hkd _ _ _ _ hG.a H.out.q.ia, hobj _ _ _ hG.it (fun hh => by have := H.out.q.i.lt _ hh; omega)⟩ ⟨hO, fun _ _ => rfl⟩ ⟨by rw [List.map_append]; exact r2, hbn, hne _ _ _ _ hG.d H.out.q.id, hne _ _ _ _ hG.a H.out.q.ia⟩)
        exact append_run (.tmp 15) (.tmp 17) 24 rfl d0 g1 r1
      | 8, hi =>
        injection hi with hi; subst hi
        intro c a w1 γ hc0 hc1 hG hK hD K hk
        have d := hD 0 (by decide) (by kernel_rfl) (.inl rfl)
        change a.tmps.getD 11 undef = .pointer (some ⟨b, 0, none⟩) at d
        refine wp_pure (.pointer (some ⟨b, 0, none⟩)) ?_ (hk _ _ γ hG (Fr.same (Below.refl _ _)) rfl)
        simp [execOp, Act.eval, d, go_sem]
      | 9, hi =>
        injection hi with hi; subst hi
        intro c a w1 γ hc0 hc1 hG hK hD K hk
        have d := hD 0 (by decide) (by kernel_rfl) (.inl rfl)
        change a.tmps.getD 19 undef = .pointer (some ⟨b, 0, none⟩) at d
        refine wp_pure (.pointer (some ⟨b, 0, none⟩)) ?_ (hk _ _ γ hG (Fr.same (Below.refl _ _)) rfl)
        simp [execOp, Act.eval, d, go_sem]
      | 10, hi =>
        injection hi with hi; subst hi
        intro c a w1 γ hc0 hc1 hG hK hD K hk
        have d0 := hD 0 (by decide) (by kernel_rfl) (.inl rfl)
        have d1 := hD 1 (by decide) (by kernel_rfl) (.inl rfl)
        change a.tmps.getD 20 undef = .pointer (some ⟨b, 0, none⟩) at d0
        change ownR w1 base _ 3 (a.tmps.getD 18 undef) ((Q.I ++ [x]).map encI) ∧ b ∉ blkOf (a.tmps.getD 18 undef) ∧ (∀ g ∈ blkOf (a.tmps.getD 18 undef), g ∉ blkOf vD) ∧ ∀ g ∈ blkOf (a.tmps.getD 18 undef), g ∉ blkOf vA at d1
        obtain ⟨k1, k2, k3, k4⟩ := d1
        have hc := hc1 (by kernel_rfl)
        obtain ⟨u, hu⟩ := hG.bx2
        obtain ⟨a3, p3, e3⟩ := k1.itS
        have h1c : (a.tmps.getD 18 undef).oneCell' = true := by rw [e3]; rfl
        have hO : OutS [b] w1 (w1.setCells b 0 [a.tmps.getD 18 undef]) := OutS.setCells _ _ _
        have hS := objU.setCells [a.tmps.getD 18 undef] [u] [] [vD, vA, .int .i64 Q.now] w1 hu rfl
        have hfr : ∀ (v : Value) (e : TypeId) (k : Nat) (R : List (List Value)), ownR w1 base e k v R → b ∉ blkOf v → ownR (w1.setCells b 0 [a.tmps.getD 18 undef]) base e k v R := fun v e k R hv hn => hv.frame (fun g hg => hO.block g (hv.lt g hg).2 (fun hh => hn (by simp at hh; exact hh ▸ hg)))
        refine wp_skip ?_ (hk undef _ γ ⟨hG.bel.trans (hO.below (fun t ht => by simp at ht; omega) (by have := hG.size; omega)), Nat.lt_of_lt_of_le hG.size hO.size, (fun e => by rw [hc] at e; cases e), ⟨_, hS⟩, hfr _ _ _ _ hG.d H.out.nd, hfr _ _ _ _ hG.a H.out.na, hG.it.outS hO (by simp; omega)⟩ ⟨hO, fun _ _ => rfl⟩ ⟨_, hS, ⟨hfr _ _ _ _ k1 k2, hfr _ _ _ _ hG.d H.out.nd, hfr _ _ _ _ hG.a H.out.na, k3, k4, H.out.q.da⟩, k2, H.out.nd, H.out.na⟩)
        exact store_run 24 (.tmp 20) (.tmp 18) rfl d0 rfl [a.tmps.getD 18 undef] (cells_one h1c) (one1 h1c) (by kernel_rfl) (hu.there 0 1 (by simp))
      | i + 11, hi => cases hi
    case hend =>
      intro x w3 γ hG hx
      obtain ⟨vI', hQB⟩ := hx 10 (by decide) rfl
      have hbel := hG.bel
      simp only [putAll, Act.put, List.setIfInBounds_toArray, List.set_cons_zero, List.set_cons_succ, Nat.zero_add, Nat.reduceAdd]
      have HQ := hide hQB
      have HB := hide hbel
      clear hQB hbel hx hG
      go_wp2
      go_ret
      exact ⟨vI', ret_bool Hb.out.symm, by rw [Hn.out]; exact HQ.out, HB.out⟩
end Go.Proofs.Ytddojjigijfgbaa
/- Queues: the program's put. -/
namespace Go.Proofs.Ytddojjigijfgbaa
open Go.RowKit Go.BigFrame
set_option linter.unusedVariables false

theorem QB.xs {w : World} {b base : Nat} {Q : Qu} {vI vD vA : Value} (h : QB w b base Q vI vD vA) : ∃ aI pI aD pD aA pA, vI = .slice aI Q.I.length pI ∧ vD = .slice aD Q.D.length pD ∧ vA = .slice aA Q.A.length pA := by
  obtain ⟨a1, p1, e1⟩ := h.q.i.itS
  obtain ⟨a2, p2, e2⟩ := h.q.d.itS
  obtain ⟨a3, p3, e3⟩ := h.q.a.stS
  exact ⟨_, _, _, _, _, _, e1, e2, e3⟩
/-- one item is another one -/
theorem QB.setI {w : World} {b base g k pI : Nat} {Q : Qu} {vD vA : Value} (h : QB w b base Q (.slice (some ⟨g, 0, none⟩) Q.I.length pI) vD vA) (hk : k < Q.I.length) (z : Int) :
    QB (w.setCell ⟨g, k * 3 + 1, none⟩ (.int .i64 z)) b base { Q with I := Q.I.set k ((Q.I[k]).1, z, (Q.I[k]).2.2) } (.slice (some ⟨g, 0, none⟩) Q.I.length pI) vD vA := by
  have hg : g ∈ blkOf (.slice (some ⟨g, 0, none⟩) Q.I.length pI) := by simp [blkOf, Value.ownBlock]
  have hr : (Q.I.map encI)[k]? = some (encI Q.I[k]) := by rw [List.getElem?_map, List.getElem?_eq_getElem hk]; rfl
  have hi := h.q.i.store k 1 (encI Q.I[k]) (.int .i64 z) hr (by decide)
  have he : (Q.I.map encI).set k ((encI Q.I[k]).set 1 (.int .i64 z)) = (Q.I.set k ((Q.I[k]).1, z, (Q.I[k]).2.2)).map encI := by rw [List.map_set]; rfl
  rw [he] at hi
  exact ⟨h.o.other _ (fun e => h.ni (by rw [e]; exact hg)) _, ⟨hi, h.q.d.setCell _ (fun hh => h.q.id g hg hh) _, h.q.a.setCell _ (fun hh => h.q.ia g hg hh) _, h.q.id, h.q.ia, h.q.da⟩, h.ni, h.nd, h.na⟩
theorem grown_outS {w w' : World} {v : Value} (h : w.grownBy w' v.ownBlock) : OutS (blkOf v) w w' := ⟨h.os, h.tape, h.output, h.size, fun k hk hn => h.block k hk (fun e => hn (blk_own.2 e.symm))⟩
theorem new_apart {X : World} {v v' u : Value} {base : Nat} {e : TypeId} {k : Nat} {R : List (List Value)} (hat : v'.ownBlock = v.ownBlock ∨ v'.ownBlock = some X.heap.size) (hu : ownR X base e k u R) (hd : ∀ g ∈ blkOf v, g ∉ blkOf u) : ∀ g ∈ blkOf v', g ∉ blkOf u := fun g hg hh => by
  rw [blk_own] at hg
  rcases hat with e | e
  · rw [e] at hg; exact hd g (blk_own.2 hg) hh
  · rw [e] at hg; cases hg; have := (hu.lt _ hh).2; omega
theorem new_not {X : World} {v v' : Value} {b : Nat} (hat : v'.ownBlock = v.ownBlock ∨ v'.ownBlock = some X.heap.size) (hb : b ∉ blkOf v) (hl : b < X.heap.size) : b ∉ blkOf v' := fun hg => by
  rw [blk_own] at hg
  rcases hat with e | e
  · rw [e] at hg; exact hb (blk_own.2 hg)
  · rw [e] at hg; cases hg; omega
theorem ownR.apart {w w' : World} {base : Nat} {e : TypeId} {k : Nat} {v : Value} {R : List (List Value)} {T : List Nat} (h : ownR w base e k v R) (ho : OutS T w w') (hd : ∀ g ∈ T, g ∉ blkOf v) : ownR w' base e k v R := h.frame (fun g hg => ho.block g (h.lt g hg).2 (fun hh => hd g hh hg))
theorem QB.appI {X w3 : World} {b base : Nat} {Q : Qu} {vI vD vA v' : Value} {L : List It} (h : QB X b base Q vI vD vA) (ho : ownR w3 base 36 3 v' (L.map encI)) (hg : X.grownBy w3 vI.ownBlock) (hat : v'.ownBlock = vI.ownBlock ∨ v'.ownBlock = some X.heap.size) :
    QB (w3.setCell ⟨b, 0, none⟩ v') b base { Q with I := L } v' vD vA := by
  have hO := grown_outS hg
  have hnb := new_not hat h.ni h.lt
  have hkD := h.q.d.apart hO h.q.id
  have hkA := h.q.a.apart hO h.q.ia
  have hnew := ho.setCell ⟨b, 0, none⟩ hnb v'
  have hobj := (h.o.outS hO h.ni).set 0 v'
  exact ⟨hobj, ⟨hnew, (hkD.setCell _ (fun hh => h.nd (by simpa using hh)) _), (hkA.setCell _ (fun hh => h.na (by simpa using hh)) _), new_apart hat h.q.d h.q.id, new_apart hat h.q.a h.q.ia, h.q.da⟩, hnb, h.nd, h.na⟩
theorem QB.appD {X w3 : World} {b base : Nat} {Q : Qu} {vI vD vA v' : Value} {L : List It} (h : QB X b base Q vI vD vA) (ho : ownR w3 base 36 3 v' (L.map encI)) (hg : X.grownBy w3 vD.ownBlock) (hat : v'.ownBlock = vD.ownBlock ∨ v'.ownBlock = some X.heap.size) :
    QB (w3.setCell ⟨b, 1, none⟩ v') b base { Q with D := L } vI v' vA := by
  have hO := grown_outS hg
  have hnb := new_not hat h.nd h.lt
  have hkI := h.q.i.apart hO (fun g hg hh => h.q.id g hh hg)
  have hkA := h.q.a.apart hO h.q.da
  have hnew := ho.setCell ⟨b, 1, none⟩ hnb v'
  have hobj := (h.o.outS hO h.nd).set 1 v'
  exact ⟨hobj, ⟨(hkI.setCell _ (fun hh => h.ni (by simpa using hh)) _), hnew, (hkA.setCell _ (fun hh => h.na (by simpa using hh)) _), (fun g hg hh => new_apart hat h.q.i (fun g hg hh => h.q.id g hh hg) g hh hg), h.q.ia, new_apart hat h.q.a h.q.da⟩, h.ni, hnb, h.na⟩
theorem QB.appA {X w3 : World} {b base : Nat} {Q : Qu} {vI vD vA v' : Value} {L : List ByteArray} (h : QB X b base Q vI vD vA) (ho : ownR w3 base 9 1 v' (L.map encS)) (hg : X.grownBy w3 vA.ownBlock) (hat : v'.ownBlock = vA.ownBlock ∨ v'.ownBlock = some X.heap.size) :
    QB (w3.setCell ⟨b, 2, none⟩ v') b base { Q with A := L } vI vD v' := by
  have hO := grown_outS hg
  have hnb := new_not hat h.na h.lt
  have hkI := h.q.i.apart hO (fun g hg hh => h.q.ia g hh hg)
  have hkD := h.q.d.apart hO (fun g hg hh => h.q.da g hh hg)
  have hnew := ho.setCell ⟨b, 2, none⟩ hnb v'
  have hobj := (h.o.outS hO h.na).set 2 v'
  exact ⟨hobj, ⟨(hkI.setCell _ (fun hh => h.ni (by simpa using hh)) _), (hkD.setCell _ (fun hh => h.nd (by simpa using hh)) _), hnew, h.q.id, (fun g hg hh => new_apart hat h.q.i (fun g hg hh => h.q.ia g hh hg) g hh hg), (fun g hg hh => new_apart hat h.q.d (fun g hg hh => h.q.da g hh hg) g hh hg)⟩, h.ni, h.nd, hnb⟩
theorem QB.grown {X w3 : World} {b base : Nat} {Q : Qu} {vI vD vA v' : Value} (h : QB X b base Q vI vD vA) {v : Value} {k e : Nat} {R : List (List Value)} (hv : ownR X base e k v R) (hg : X.grownBy w3 v.ownBlock) (hb : base ≤ b) (j : Nat) : Below base X (w3.setCell ⟨b, j, none⟩ v') :=
  ((grown_outS hg).below (fun t ht => (hv.lt t ht).1) (by have := h.lt; omega)).setCell (p := ⟨b, j, none⟩) hb _
def FK (b g k : Nat) (rd now : Int) (vI : Value) : Nat → (Nat → Nat) → Value → World → Prop
  | 3, γ, v, w => v = vI
  | 8, γ, v, w => v = vI
  | 4, γ, v, w => v = .int .i64 k
  | 9, γ, v, w => v = .int .i64 k
  | 15, γ, v, w => v = .pointer (some ⟨b, 3, none⟩)
  | 10, γ, v, w => v = .pointer (some ⟨g, k * 3, none⟩)
  | 18, γ, v, w => v = .pointer (some ⟨g, k * 3, none⟩)
  | 11, γ, v, w => v = .pointer (some ⟨g, k * 3 + 1, none⟩)
  | 19, γ, v, w => v = .pointer (some ⟨g, k * 3 + 1, none⟩)
  | 12, γ, v, w => v = .int .i64 rd
  | 16, γ, v, w => v = .int .i64 now
  | 17, γ, v, w => v = .int .i64 (min rd now)
  | 20, γ, v, w => True
  | _, γ, v, w => v = .pointer (some ⟨b, 0, none⟩)
theorem FK.pure {b g k : Nat} {rd now : Int} {vI : Value} : ∀ {j : Nat} {γ γ' : Nat → Nat} {v : Value} {w w' : World} (h : FK b g k rd now vI j γ v w), FK b g k rd now vI j γ' v w'
  | 0, _, _, _, _, _, h => h
  | 1, _, _, _, _, _, h => h
  | 2, _, _, _, _, _, h => h
  | 3, _, _, _, _, _, h => h
  | 4, _, _, _, _, _, h => h
  | 5, _, _, _, _, _, h => h
  | 6, _, _, _, _, _, h => h
  | 7, _, _, _, _, _, h => h
  | 8, _, _, _, _, _, h => h
  | 9, _, _, _, _, _, h => h
  | 10, _, _, _, _, _, h => h
  | 11, _, _, _, _, _, h => h
  | 12, _, _, _, _, _, h => h
  | 13, _, _, _, _, _, h => h
  | 14, _, _, _, _, _, h => h
  | 15, _, _, _, _, _, h => h
  | 16, _, _, _, _, _, h => h
  | 17, _, _, _, _, _, h => h
  | 18, _, _, _, _, _, h => h
  | 19, _, _, _, _, _, h => h
  | 20, _, _, _, _, _, h => h
  | j + 21, _, _, _, _, _, h => h
/-- the queue, before the store and behind it -/
def GK (w0 : World) (b base : Nat) (Q Q' : Qu) (vI vD vA : Value) (c : Bool) (w : World) : Prop := QB w b base (if c = true then Q' else Q) vI vD vA ∧ Below base w0 w
set_option maxRecDepth 20000 in
set_option maxHeartbeats 3200000 in
theorem put_any (Q : Qu) (s : ByteArray) (b base : Nat) (vI vD vA : Value) (w : World) (hq : okQ Q) (hs : s.size ≤ maxLen) (h : QB w b base Q vI vD vA) (hbase : base ≤ b) :
    Calls Try.prog 18 #[.pointer (some ⟨b, 0, none⟩), .string s] w fun e w' => ∃ vI' vD' vA', e = .returned (.bool (putC Q s).2) ∧ QB w' b base (putC Q s).1 vI' vD' vA' ∧ Below base w w' := by
  obtain ⟨aI, pI, aD, pD, aA, pA, rfl, rfl, rfl⟩ := h.xs
  have l1 := hq.1.1
  have l2 := hq.2.1.1
  have l3 := hq.2.2.1.1
  have H := hide h
  have HK := hide hq
  have x1 := h.o.cell 1 _ rfl
  have HP1 := hide (itemPlace_any Q.D s _ w (by omega) (h.q.d.rd (by decide)))
  have hbb : Hid (base ≤ w.heap.size) := by have := h.lt; show _ ≤ _; omega
  clear h hq
  go_enter Try.func18, Try.ntmps18
  by_cases hD : fndI Q.D s < Q.D.length
  · have hp : plcI Q.D s = (fndI Q.D s : Int) := if_pos hD
    rw [hp] at HP1
    have Hput : Hid (putC Q s = (if inA Q.A s = true then Q else { Q with A := Q.A ++ [s] }, true)) := if_pos hD
    generalize fndI Q.D s = kd at *
    have hk0 : (0 : Int) ≤ (kd : Int) := Int.natCast_nonneg _
    clear hp
    go_wp2_with (go_at_call 35; refine HP1.out.mono ?_; clear HP1; rintro e w1 ⟨rfl, hb1⟩; have H1 := hide (H.out.below hb1); have B1 : Hid (Below base w w1) := hb1.mono hbb.out; clear hb1 x1 H; have x2 := H1.out.o.cell 2 _ rfl)
    refine (coStr_any Q.A s _ w1 (H1.out.q.a.rd (by decide)) (by omega)).mono ?_
    rintro e w2 ⟨rfl, rfl⟩
    cases hA : inA Q.A s with
    | true =>
      have HR : Hid (putC Q s = (Q, true)) := by show _ = _; rw [Hput.out, hA]; rfl
      clear Hput hA
      go_wp2
      go_ret
      exact ⟨_, _, _, ret_bool (by rw [HR.out]), by rw [HR.out]; exact H1.out, B1.out⟩
    | false =>
      have HR : Hid (putC Q s = ({ Q with A := Q.A ++ [s] }, true)) := by show _ = _; rw [Hput.out, hA]; rfl
      have HES := hide elS
      clear Hput hA
      have H2 : Hid (QB (w2.alloc (.cells #[.string s] 9)) b base Q (.slice aI Q.I.length pI) (.slice aD Q.D.length pD) (.slice aA Q.A.length pA)) := H1.out.below (below_alloc _ _)
      have O2 : Hid (objU (w2.alloc (.cells #[.string s] 9)) w2.heap.size 9 (encS s)) := objU.new _ _ _
      go_wp2_with (at_builtin; refine wpList_append_rd rfl _ _ 25 rfl 9 1 HES.out (by decide) base _ _ rfl H2.out.q.a _ _ rfl (rdR.one O2.out) (rowsS [s]) (oneS [s]) (by simp; omega) (by have := H2.out.lt; omega) ?_)
      intro v3 w3 ho3 hg3 ha3
      rw [show (Q.A.map encS) ++ [encS s] = (Q.A ++ [s]).map encS by simp] at ho3
      have HQ3 : Hid (QB (w3.setCell ⟨b, 2, none⟩ v3) b base { Q with A := Q.A ++ [s] } (.slice aI Q.I.length pI) (.slice aD Q.D.length pD) v3) := H2.out.appA ho3 hg3 (by simpa using ha3)
      have HB3 : Hid (Below base w (w3.setCell ⟨b, 2, none⟩ v3)) := (B1.out.trans ((below_alloc _ _).mono (by have := H1.out.lt; omega))).trans (H2.out.grown H2.out.q.a hg3 hbase 2)
      obtain ⟨a3, n3, p3, rfl⟩ : ∃ a n p, v3 = .slice a n p := by obtain ⟨a, p, e⟩ := ho3.stS; exact ⟨_, _, _, e⟩
      have y2 := (H2.out.o.outS (grown_outS hg3) H2.out.na).cell 2 _ rfl
      have f2 := (H2.out.o.outS (grown_outS hg3) H2.out.na).fz 2
      clear ho3 hg3 ha3 x2
      go_wp2
      go_ret
      exact ⟨_, _, _, ret_bool (by rw [HR.out]), by rw [HR.out]; exact HQ3.out, HB3.out⟩
  · have hp : plcI Q.D s = -1 := if_neg hD
    rw [hp] at HP1
    clear hp
    have hr : Hid (∀ (k : Nat) (hk : k < Q.I.length), (Q.I.map encI)[k]? = some (encI Q.I[k])) := fun k hk => by rw [List.getElem?_map, List.getElem?_eq_getElem hk]; rfl
    by_cases hI : fndI Q.I s < Q.I.length
    · have hp : plcI Q.I s = (fndI Q.I s : Int) := if_pos hI
      have Hput : Hid (putC Q s = ({ Q with I := Q.I.set (fndI Q.I s) ((Q.I[fndI Q.I s]).1, min (Q.I[fndI Q.I s]).2.1 Q.now, (Q.I[fndI Q.I s]).2.2) }, true)) := by show _ = _; unfold putC; rw [if_neg hD, dif_pos hI]
      generalize fndI Q.I s = k at *
      have hk0 : (0 : Int) ≤ (k : Int) := Int.natCast_nonneg _
      go_wp2_with (first
        | (go_at_call 35; refine HP1.out.mono ?_; clear HP1; rintro e w1 ⟨rfl, hb1⟩; have H1 := hide (H.out.below hb1); have B1 : Hid (Below base w w1) := hb1.mono hbb.out; clear hb1 x1 H; have x0 := H1.out.o.cell 0 _ rfl; have HP2 := hide (itemPlace_any Q.I s _ w1 (by omega) (H1.out.q.i.rd (by decide))); rw [hp] at HP2)
        | (go_at_call 35; refine HP2.out.mono ?_; clear HP2; rintro e w2 ⟨rfl, hb2⟩; have H2 := hide (H1.out.below hb2); have B2 : Hid (Below base w w2) := B1.out.trans (hb2.mono (by have := H1.out.lt; omega)); clear hb2 x0 H1 B1))
      clear hp
      obtain ⟨g, pI', eI, hbg, hgl, hcp, -, hcell, hfz⟩ := H2.out.q.i.opened (by rw [List.length_map]; omega)
      rw [List.length_map] at eI hcp
      cases eI
      have hgb : g ∈ blkOf (.slice (some ⟨g, 0, none⟩) Q.I.length pI) := by simp [blkOf, Value.ownBlock]
      have hng : g ≠ b := fun e => H2.out.ni (e ▸ hgb)
      clear hcell hfz hgl
      have hki : (k : Int) < (Q.I.length : Int) := by omega
      refine wp_region_inv2 (fun i u v => True) (fun _ => none) 20 (by decide) (GK w b base Q { Q with I := Q.I.set k ((Q.I[k]).1, min (Q.I[k]).2.1 Q.now, (Q.I[k]).2.2) } (.slice (some ⟨g, 0, none⟩) Q.I.length pI) (.slice aD Q.D.length pD) (.slice aA Q.A.length pA))
        (FK b g k (Q.I[k]).2.1 Q.now (.slice (some ⟨g, 0, none⟩) Q.I.length pI)) (by kernel_rfl) (by kernel_rfl) (by kernel_rfl) (fun i j γ γ' v w1 w2 _ _ _ _ h _ => h.pure) ?hU ?hG ?hstep ?hend
      case hU =>
        intro i o hi hd γ v w1 h
        match i, hi with
        | 0, hi => (injection hi with hi; subst hi; cases hd)
        | 1, hi => (injection hi with hi; subst hi; cases hd)
        | 2, hi => (injection hi with hi; subst hi; cases hd)
        | 3, hi => (injection hi with hi; subst hi; cases hd)
        | 4, hi => (injection hi with hi; subst hi; cases hd)
        | 5, hi => (injection hi with hi; subst hi; cases hd)
        | 6, hi => (injection hi with hi; subst hi; cases hd)
        | 7, hi => (injection hi with hi; subst hi; cases hd)
        | 8, hi => (injection hi with hi; subst hi; cases hd)
        | 9, hi => (injection hi with hi; subst hi; cases hd)
        | 10, hi => (injection hi with hi; subst hi; cases hd)
        | 11, hi => (injection hi with hi; subst hi; cases hd)
        | 12, hi => (injection hi with hi; subst hi; cases hd)
        | 13, hi => (injection hi with hi; subst hi; cases hd)
        | 14, hi => (injection hi with hi; subst hi; cases hd)
        | 15, hi => (injection hi with hi; subst hi; cases hd)
        | 16, hi => (injection hi with hi; subst hi; cases hd)
        | 17, hi => (injection hi with hi; subst hi; cases hd)
        | 18, hi => (injection hi with hi; subst hi; cases hd)
        | 19, hi => (injection hi with hi; subst hi; cases hd)
        | 20, hi => exact h
        | i + 21, hi => cases hi
      case hG => exact ⟨(show QB w2.drew b base Q _ _ _ from H2.out.below (Below.drew (Below.refl _ _))), Below.drew B2.out⟩
      case hstep =>
        intro i o hi
        match i, hi with
        | 0, hi =>
          injection hi with hi; subst hi
          intro c a w1 γ hc0 hc1 hG hK hD K hk
          have e1 := hK.at 0 (by kernel_rfl)
          refine wp_pure (.pointer (some ⟨b, 0, none⟩)) ?_ (hk _ _ γ (by rw [if_neg (by decide)]; exact hG) ⟨trivial, fun _ _ => rfl⟩ rfl)
          simp [execOp, Act.eval, e1, go_sem]
        | 1, hi =>
          injection hi with hi; subst hi
          intro c a w1 γ hc0 hc1 hG hK hD K hk
          have d0 := hD 0 (by decide) (by kernel_rfl) (.inl rfl)
          change a.tmps.getD 38 undef = .pointer (some ⟨b, 0, none⟩) at d0
          refine wp_pure (.pointer (some ⟨b, 0, none⟩)) ?_ (hk _ _ γ (by rw [if_neg (by decide)]; exact hG) ⟨trivial, fun _ _ => rfl⟩ rfl)
          simp [execOp, Act.eval, d0, go_sem]
        | 2, hi =>
          injection hi with hi; subst hi
          intro c a w1 γ hc0 hc1 hG hK hD K hk
          have d0 := hD 0 (by decide) (by kernel_rfl) (.inl rfl)
          change a.tmps.getD 39 undef = .pointer (some ⟨b, 0, none⟩) at d0
          refine wp_pure (.pointer (some ⟨b, 0, none⟩)) ?_ (hk _ _ γ (by rw [if_neg (by decide)]; exact hG) ⟨trivial, fun _ _ => rfl⟩ rfl)
          simp [execOp, Act.eval, d0, go_sem]
        | 3, hi =>
          injection hi with hi; subst hi
          intro c a w1 γ hc0 hc1 hG hK hD K hk
          have d0 := hD 0 (by decide) (by kernel_rfl) (.inl rfl)
          change a.tmps.getD 40 undef = .pointer (some ⟨b, 0, none⟩) at d0
          have hc := hc0 (.inl (by kernel_rfl))
          subst hc
          have hQ : QB w1 b base Q _ _ _ := hG.1
          have x0 := hQ.o.cell 0 _ rfl
          refine wp_pure (.slice (some ⟨g, 0, none⟩) Q.I.length pI) ?_ (hk _ _ γ (by rw [if_neg (by decide)]; exact hG) ⟨trivial, fun _ _ => rfl⟩ rfl)
          simp [execOp, Act.eval, d0, x0, go_sem]
        | 4, hi =>
          injection hi with hi; subst hi
          intro c a w1 γ hc0 hc1 hG hK hD K hk
          have e1 := hK.at 5 (by kernel_rfl)
          refine wp_pure (.int .i64 k) ?_ (hk _ _ γ (by rw [if_neg (by decide)]; exact hG) ⟨trivial, fun _ _ => rfl⟩ rfl)
          simp [execOp, Act.eval, e1, go_sem]
        | 5, hi =>
          injection hi with hi; subst hi
          intro c a w1 γ hc0 hc1 hG hK hD K hk
          have e1 := hK.at 0 (by kernel_rfl)
          refine wp_pure (.pointer (some ⟨b, 0, none⟩)) ?_ (hk _ _ γ (by rw [if_neg (by decide)]; exact hG) ⟨trivial, fun _ _ => rfl⟩ rfl)
          simp [execOp, Act.eval, e1, go_sem]
        | 6, hi =>
          injection hi with hi; subst hi
          intro c a w1 γ hc0 hc1 hG hK hD K hk
          have d0 := hD 0 (by decide) (by kernel_rfl) (.inl rfl)
          change a.tmps.getD 43 undef = .pointer (some ⟨b, 0, none⟩) at d0
          refine wp_pure (.pointer (some ⟨b, 0, none⟩)) ?_ (hk _ _ γ (by rw [if_neg (by decide)]; exact hG) ⟨trivial, fun _ _ => rfl⟩ rfl)
          simp [execOp, Act.eval, d0, go_sem]
        | 7, hi =>
          injection hi with hi; subst hi
          intro c a w1 γ hc0 hc1 hG hK hD K hk
          have d0 := hD 0 (by decide) (by kernel_rfl) (.inl rfl)
          change a.tmps.getD 44 undef = .pointer (some ⟨b, 0, none⟩) at d0
          refine wp_pure (.pointer (some ⟨b, 0, none⟩)) ?_ (hk _ _ γ (by rw [if_neg (by decide)]; exact hG) ⟨trivial, fun _ _ => rfl⟩ rfl)
          simp [execOp, Act.eval, d0, go_sem]
        | 8, hi =>
          injection hi with hi; subst hi
          intro c a w1 γ hc0 hc1 hG hK hD K hk
          have d0 := hD 0 (by decide) (by kernel_rfl) (.inl rfl)
          change a.tmps.getD 45 undef = .pointer (some ⟨b, 0, none⟩) at d0
          have hc := hc0 (.inl (by kernel_rfl))
          subst hc
          have hQ : QB w1 b base Q _ _ _ := hG.1
          have x0 := hQ.o.cell 0 _ rfl
          refine wp_pure (.slice (some ⟨g, 0, none⟩) Q.I.length pI) ?_ (hk _ _ γ (by rw [if_neg (by decide)]; exact hG) ⟨trivial, fun _ _ => rfl⟩ rfl)
          simp [execOp, Act.eval, d0, x0, go_sem]
        | 9, hi =>
          injection hi with hi; subst hi
          intro c a w1 γ hc0 hc1 hG hK hD K hk
          have e1 := hK.at 5 (by kernel_rfl)
          refine wp_pure (.int .i64 k) ?_ (hk _ _ γ (by rw [if_neg (by decide)]; exact hG) ⟨trivial, fun _ _ => rfl⟩ rfl)
          simp [execOp, Act.eval, e1, go_sem]
        | 10, hi =>
          injection hi with hi; subst hi
          intro c a w1 γ hc0 hc1 hG hK hD K hk
          have d0 := hD 0 (by decide) (by kernel_rfl) (.inl rfl)
          change a.tmps.getD 46 undef = .slice (some ⟨g, 0, none⟩) Q.I.length pI at d0
          have d1 := hD 1 (by decide) (by kernel_rfl) (.inl rfl)
          change a.tmps.getD 47 undef = .int .i64 k at d1
          rw [Array.getD_eq_getD_getElem?] at d0 d1
          refine wp_pure (.pointer (some ⟨g, k * 3, none⟩)) ?_ (hk _ _ γ (by rw [if_neg (by decide)]; exact hG) ⟨trivial, fun _ _ => rfl⟩ rfl)
          simp [execOp, Act.eval, d0, d1, hki, hk0, go_sem]
        | 11, hi =>
          injection hi with hi; subst hi
          intro c a w1 γ hc0 hc1 hG hK hD K hk
          have d0 := hD 0 (by decide) (by kernel_rfl) (.inl rfl)
          change a.tmps.getD 48 undef = .pointer (some ⟨g, k * 3, none⟩) at d0
          refine wp_pure (.pointer (some ⟨g, k * 3 + 1, none⟩)) ?_ (hk _ _ γ (by rw [if_neg (by decide)]; exact hG) ⟨trivial, fun _ _ => rfl⟩ rfl)
          simp [execOp, Act.eval, d0, go_sem]
        | 12, hi =>
          injection hi with hi; subst hi
          intro c a w1 γ hc0 hc1 hG hK hD K hk
          have d0 := hD 0 (by decide) (by kernel_rfl) (.inl rfl)
          change a.tmps.getD 49 undef = .pointer (some ⟨g, k * 3 + 1, none⟩) at d0
          have hc := hc0 (.inl (by kernel_rfl))
          subst hc
          have hQ : QB w1 b base Q _ _ _ := hG.1
          have x0 := (hQ.q.i.opened (by rw [List.length_map]; omega)).elim (fun g' h => by obtain ⟨pI', eI, -, -, -, -, hcell, -⟩ := h; rw [List.length_map] at eI; cases eI; exact hcell k _ 1 _ (hr.out k hI) rfl)
          refine wp_pure (.int .i64 (Q.I[k]).2.1) ?_ (hk _ _ γ (by rw [if_neg (by decide)]; exact hG) ⟨trivial, fun _ _ => rfl⟩ rfl)
          simp [execOp, Act.eval, d0, x0, go_sem]
        | 13, hi =>
          injection hi with hi; subst hi
          intro c a w1 γ hc0 hc1 hG hK hD K hk
          have e1 := hK.at 0 (by kernel_rfl)
          refine wp_pure (.pointer (some ⟨b, 0, none⟩)) ?_ (hk _ _ γ (by rw [if_neg (by decide)]; exact hG) ⟨trivial, fun _ _ => rfl⟩ rfl)
          simp [execOp, Act.eval, e1, go_sem]
        | 14, hi =>
          injection hi with hi; subst hi
          intro c a w1 γ hc0 hc1 hG hK hD K hk
          have d0 := hD 0 (by decide) (by kernel_rfl) (.inl rfl)
          change a.tmps.getD 51 undef = .pointer (some ⟨b, 0, none⟩) at d0
          refine wp_pure (.pointer (some ⟨b, 0, none⟩)) ?_ (hk _ _ γ (by rw [if_neg (by decide)]; exact hG) ⟨trivial, fun _ _ => rfl⟩ rfl)
          simp [execOp, Act.eval, d0, go_sem]
        | 15, hi =>
          injection hi with hi; subst hi
          intro c a w1 γ hc0 hc1 hG hK hD K hk
          have d0 := hD 0 (by decide) (by kernel_rfl) (.inl rfl)
          change a.tmps.getD 52 undef = .pointer (some ⟨b, 0, none⟩) at d0
          refine wp_pure (.pointer (some ⟨b, 3, none⟩)) ?_ (hk _ _ γ (by rw [if_neg (by decide)]; exact hG) ⟨trivial, fun _ _ => rfl⟩ rfl)
          simp [execOp, Act.eval, d0, go_sem]
        | 16, hi =>
          injection hi with hi; subst hi
          intro c a w1 γ hc0 hc1 hG hK hD K hk
          have d0 := hD 0 (by decide) (by kernel_rfl) (.inl rfl)
          change a.tmps.getD 53 undef = .pointer (some ⟨b, 3, none⟩) at d0
          have hc := hc0 (.inl (by kernel_rfl))
          subst hc
          have hQ : QB w1 b base Q _ _ _ := hG.1
          have x0 := hQ.o.cell 3 _ rfl
          refine wp_pure (.int .i64 Q.now) ?_ (hk _ _ γ (by rw [if_neg (by decide)]; exact hG) ⟨trivial, fun _ _ => rfl⟩ rfl)
          simp [execOp, Act.eval, d0, x0, go_sem]
        | 17, hi =>
          injection hi with hi; subst hi
          intro c a w1 γ hc0 hc1 hG hK hD K hk
          have d0 := hD 0 (by decide) (by kernel_rfl) (.inl rfl)
          change a.tmps.getD 50 undef = .int .i64 (Q.I[k]).2.1 at d0
          have d1 := hD 1 (by decide) (by kernel_rfl) (.inl rfl)
          change a.tmps.getD 54 undef = .int .i64 Q.now at d1
          rw [Array.getD_eq_getD_getElem?] at d0 d1
          refine wp_pure (.int .i64 (min (Q.I[k]).2.1 Q.now)) ?_ (hk _ _ γ (by rw [if_neg (by decide)]; exact hG) ⟨trivial, fun _ _ => rfl⟩ rfl)
          simp [execOp, Act.eval, d0, d1, go_sem]
        | 18, hi =>
          injection hi with hi; subst hi
          intro c a w1 γ hc0 hc1 hG hK hD K hk
          have d0 := hD 0 (by decide) (by kernel_rfl) (.inl rfl)
          change a.tmps.getD 41 undef = .slice (some ⟨g, 0, none⟩) Q.I.length pI at d0
          have d1 := hD 1 (by decide) (by kernel_rfl) (.inl rfl)
          change a.tmps.getD 42 undef = .int .i64 k at d1
          rw [Array.getD_eq_getD_getElem?] at d0 d1
          refine wp_pure (.pointer (some ⟨g, k * 3, none⟩)) ?_ (hk _ _ γ (by rw [if_neg (by decide)]; exact hG) ⟨trivial, fun _ _ => rfl⟩ rfl)
          simp [execOp, Act.eval, d0, d1, hki, hk0, go_sem]
        | 19, hi =>
          injection hi with hi; subst hi
          intro c a w1 γ hc0 hc1 hG hK hD K hk
          have d0 := hD 0 (by decide) (by kernel_rfl) (.inl rfl)
          change a.tmps.getD 56 undef = .pointer (some ⟨g, k * 3, none⟩) at d0
          refine wp_pure (.pointer (some ⟨g, k * 3 + 1, none⟩)) ?_ (hk _ _ γ (by rw [if_neg (by decide)]; exact hG) ⟨trivial, fun _ _ => rfl⟩ rfl)
          simp [execOp, Act.eval, d0, go_sem]
        | 20, hi =>
          injection hi with hi; subst hi
          intro c a w1 γ hc0 hc1 hG hK hD K hk
          have d0 := hD 0 (by decide) (by kernel_rfl) (.inl rfl)
          change a.tmps.getD 57 undef = .pointer (some ⟨g, k * 3 + 1, none⟩) at d0
          have d1 := hD 1 (by decide) (by kernel_rfl) (.inl rfl)
          change a.tmps.getD 55 undef = .int .i64 (min (Q.I[k]).2.1 Q.now) at d1
          have hc := hc0 (.inr rfl)
          subst hc
          have hQ : QB w1 b base Q _ _ _ := hG.1
          obtain ⟨g', pI', eI, -, -, -, -, hcell, hfz⟩ := hQ.q.i.opened (by rw [List.length_map]; omega)
          rw [List.length_map] at eI
          cases eI
          have c1 := hcell k _ 1 _ (hr.out k hI) rfl
          have f1 := hfz (k * 3 + 1)
          refine wp_skip (w' := w1.setCell ⟨g, k * 3 + 1, none⟩ (.int .i64 (min (Q.I[k]).2.1 Q.now))) ?_ (hk undef _ γ (by rw [if_pos rfl]; exact ⟨hQ.setI hI _, hG.2.setCell (p := ⟨g, k * 3 + 1, none⟩) hbg _⟩) ⟨trivial, fun _ _ => rfl⟩ trivial)
          simp [execOp, Act.eval, d0, d1, c1, f1, go_sem]
        | i + 21, hi => cases hi
      case hend =>
        intro x w3 γ hG hx
        have HQ : Hid (QB w3 b base { Q with I := Q.I.set k ((Q.I[k]).1, min (Q.I[k]).2.1 Q.now, (Q.I[k]).2.2) } (.slice (some ⟨g, 0, none⟩) Q.I.length pI) (.slice aD Q.D.length pD) (.slice aA Q.A.length pA)) := hG.1
        have HB := hide hG.2
        clear hG hx
        simp only [putAll, Act.put, List.setIfInBounds_toArray, List.set_cons_zero, List.set_cons_succ, Nat.zero_add, Nat.reduceAdd]
        go_wp2
        refine bodyPost_ret (v := .bool true) ?_ rfl ⟨_, _, _, ret_bool (by rw [Hput.out]), by rw [Hput.out]; exact HQ.out, HB.out⟩
        simp [results, Try.results18, go_sem]
    · have hp : plcI Q.I s = -1 := if_neg hI
      have Hput : Hid (putC Q s = (addQ Q (s, Q.now, 0), !decide (Q.I.length = 60))) := by
        show _ = _
        unfold putC addQ
        rw [if_neg hD, dif_neg hI]
        by_cases h60 : Q.I.length = 60
        · rw [if_pos h60, if_pos h60, decide_eq_true h60]; rfl
        · rw [if_neg h60, if_neg h60, decide_eq_false h60]; rfl
      go_wp2_with (first
        | (go_at_call 35; refine HP1.out.mono ?_; clear HP1; rintro e w1 ⟨rfl, hb1⟩; have H1 := hide (H.out.below hb1); have B1 : Hid (Below base w w1) := hb1.mono hbb.out; clear hb1 x1 H; have x0 := H1.out.o.cell 0 _ rfl; have HP2 := hide (itemPlace_any Q.I s _ w1 (by omega) (H1.out.q.i.rd (by decide))); rw [hp] at HP2)
        | (go_at_call 35; refine HP2.out.mono ?_; clear HP2; rintro e w2 ⟨rfl, hb2⟩; have H2 := hide (H1.out.below hb2); have B2 : Hid (Below base w w2) := B1.out.trans (hb2.mono (by have := H1.out.lt; omega)); clear hb2 x0 H1 B1; have x3 := H2.out.o.cell 3 _ rfl; have HAD := hide (add_any Q (s, Q.now, 0) b base _ _ _ w2 HK.out.1 H2.out hbase)))
      refine HAD.out.mono ?_
      rintro e w3 ⟨vI', rfl, hQ3, hb3⟩
      have HQ3 := hide hQ3
      have HB3 : Hid (Below base w w3) := B2.out.trans hb3
      clear hQ3 hb3 x3 HAD
      go_wp2
      go_ret
      exact ⟨_, _, _, ret_bool (by rw [Hput.out]), by rw [Hput.out]; exact HQ3.out, HB3.out⟩
end Go.Proofs.Ytddojjigijfgbaa
/- Queues: Pass on both sides. -/
namespace Go.Proofs.Ytddojjigijfgbaa
open Go.RowKit Go.BigFrame
set_option linter.unusedVariables false

theorem OutS.setFar {T : List Nat} {a w : World} (h : OutS T a w) {p : Addr} (hp : a.heap.size ≤ p.block) (u : Value) : OutS T a (w.setCell p u) :=
  ⟨h.os, h.tape, h.output, by simpa [World.setCell] using h.size, fun k hk hn => (Below.heap_setCell w p u k (by omega)).trans (h.block k hk hn)⟩
theorem QO.now {w : World} {base : Nat} {tI tS : TypeId} {Q : Qu} {vI vD vA : Value} (h : QO w base tI tS Q vI vD vA) {z : Int} : QO w base tI tS { Q with now := z } vI vD vA := ⟨h.i, h.d, h.a, h.id, h.ia, h.da⟩
theorem okQ_pass {Q : Qu} (hq : okQ Q) {z : Int} (hz : inK .i64 z) : okQ (passQ Q z) := by
  unfold passQ
  split
  · exact ⟨hq.1, hq.2.1, hq.2.2.1, hz⟩
  · exact hq
set_option maxRecDepth 20000 in
set_option maxHeartbeats 1600000 in
theorem sPass_any (Q : Qu) (z : Int) (xs : List Value) (w : World) (hq : okQ Q) (hx : rdQ w Q xs) :
    Calls Try.prog 45 #[.agg xs.toArray, .int .i64 z] w fun e w' => ∃ vI vD vA, e = .returned (.agg #[vI, vD, vA, .int .i64 (passQ Q z).now]) ∧ ownQ w' w.heap.size (passQ Q z) vI vD vA ∧ Below w.heap.size w w' := by
  have hxx := hx
  obtain ⟨cI, cD, cA, rfl, hI, hD, hA⟩ := hx
  have l1 := hq.1.1
  have l2 := hq.2.1.1
  have l3 := hq.2.2.1.1
  obtain ⟨aI, pI, rfl, -, -⟩ := hI.itS
  obtain ⟨aD, pD, rfl, -, -⟩ := hD.itS
  obtain ⟨aA, pA, rfl, -, -⟩ := hA.stS
  have HX := hide hxx
  have HK := hide hq
  have HI := hide hI
  have HD := hide hD
  have HA := hide hA
  clear hI hD hA hxx hq
  have HCP : Hid (∀ wx, Below w.heap.size w wx → Calls Try.prog 19 #[.agg #[.slice aI Q.I.length pI, .slice aD Q.D.length pD, .slice aA Q.A.length pA, .int .i64 Q.now]] wx fun e w' => ∃ vI vD vA, e = .returned (.agg #[vI, vD, vA, .int .i64 Q.now]) ∧ ownQ w' wx.heap.size Q vI vD vA ∧ Below wx.heap.size wx w') := fun wx hb => l9Copy_N Q _ wx HK.out (HX.out.below hb)
  have HOK : Hid (∀ wx, Below w.heap.size w wx → Calls Try.prog 8 #[.agg #[.slice aI Q.I.length pI, .slice aD Q.D.length pD, .slice aA Q.A.length pA, .int .i64 Q.now]] wx fun e w' => e = .returned (.bool (qOk Q)) ∧ Below wx.heap.size wx w') := fun wx hb => sQueueOk_any Q _ wx HK.out (HX.out.below hb)
  obtain ⟨w0, ew0⟩ : ∃ w0, w0 = ((w.alloc (.cells #[.slice aI Q.I.length pI, .slice aD Q.D.length pD, .slice aA Q.A.length pA, .int .i64 Q.now] 27)).alloc (.cells #[.slice none 0 0, .slice none 0 0, .slice none 0 0, .int .i64 0] 27)) := ⟨_, rfl⟩
  have BX : Hid (Below w.heap.size w w0) := by show Below _ _ _; rw [ew0]; exact ((Below.refl _ _).alloc (Nat.le_refl _) _).alloc (by simp) _
  have OX : Hid (objU w0 w.heap.size 27 [.slice aI Q.I.length pI, .slice aD Q.D.length pD, .slice aA Q.A.length pA, .int .i64 Q.now]) := by show objU _ _ _ _; rw [ew0]; exact (objU.new _ _ _).old _
  have OZ : Hid (objU w0 (w.heap.size + 1) 27 [.slice none 0 0, .slice none 0 0, .slice none 0 0, .int .i64 0]) := by show objU _ _ _ _; rw [ew0]; exact objU.new2 _ _ (by simp)
  have SZ : Hid (w0.heap.size = w.heap.size + 2) := by show _ = _; rw [ew0]; simp
  have EW := hide ew0
  clear ew0
  go_enter Try.func45, Try.ntmps45
  go_wp2_with fail
  refine (HCP.out _ (EW.out ▸ BX.out)).mono ?_
  rintro e w1 ⟨vI, vD, vA, rfl, ho, hb⟩
  replace ho : ownQ w1 (w.heap.size + 2) Q vI vD vA := by have h := ho; rw [← SZ.out, EW.out]; exact h
  replace hb : Below w0.heap.size w0 w1 := by have h := hb; rw [EW.out]; exact h
  have HO := hide ho
  have OX1 := hide (OX.out.below hb)
  have OZ1 := hide (OZ.out.below hb)
  have B1 : Hid (Below w.heap.size w w1) := BX.out.trans (hb.mono BX.out.size)
  have S1 : Hid (w.heap.size + 2 ≤ w1.heap.size) := by show _ ≤ _; rw [← SZ.out]; exact hb.size
  obtain ⟨b1, c1, rfl⟩ := ho.i.itS
  obtain ⟨b2, c2, rfl⟩ := ho.d.itS
  obtain ⟨b3, c3, rfl⟩ := ho.a.stS
  have x0 := OX1.out.cell 0 _ rfl
  have x1 := OX1.out.cell 1 _ rfl
  have x2 := OX1.out.cell 2 _ rfl
  have x3 := OX1.out.cell 3 _ rfl
  have hBl := OX1.out.lt
  clear ho hb OX OZ BX SZ EW HCP
  have HX1 : Hid (Below w.heap.size w (w1.alloc (.cells #[.slice b1 Q.I.length c1, .slice b2 Q.D.length c2, .slice b3 Q.A.length c3, .int .i64 Q.now] 27))) := B1.out.alloc B1.out.size _
  have HRn : Hid (qOk Q = false → passQ Q z = Q) := fun h => if_neg (fun g => by rw [h] at g; cases g.1)
  have HR1 : Hid (¬ z > Q.now → passQ Q z = Q) := fun h => if_neg (fun g => h g.2.1)
  have HR2 : Hid (¬ z ≤ 1000000 → passQ Q z = Q) := fun h => if_neg (fun g => h g.2.2)
  have HRy : Hid (qOk Q = true → z > Q.now → z ≤ 1000000 → passQ Q z = { Q with now := z }) := fun a b c => if_pos ⟨a, b, c⟩
  generalize qOk Q = ok at *
  go_wp2_with fail
  refine (HOK.out _ HX1.out).mono ?_
  rintro e w2 ⟨rfl, hb2⟩
  have OX2 := hide ((OX1.out.old _).below hb2)
  have OZ2 := hide ((OZ1.out.old _).below hb2)
  have OB2 : Hid (objU w2 w1.heap.size 27 [.slice b1 Q.I.length c1, .slice b2 Q.D.length c2, .slice b3 Q.A.length c3, .int .i64 Q.now]) := (objU.new _ _ _).below hb2
  have B2 : Hid (Below w.heap.size w w2) := HX1.out.trans (hb2.mono HX1.out.size)
  have OU2 : Hid (OutS [w.heap.size, w.heap.size + 1] w1 w2) := (OutS.of_below (below_alloc _ _)).trans (OutS.of_below hb2)
  have hn1 : ¬ (w1.heap.size = w.heap.size + 1) := by have := S1.out; omega
  have hn2 : ¬ (w1.heap.size = w.heap.size) := by have := S1.out; omega
  have hn3 : ¬ (w.heap.size + 1 = w1.heap.size) := by have := S1.out; omega
  have hn4 : ¬ (w.heap.size = w1.heap.size) := by have := S1.out; omega
  clear hb2 x0 x1 x2 x3 hBl HX1
  have y0 := OB2.out.cell 0 _ rfl
  have y1 := OB2.out.cell 1 _ rfl
  have y2 := OB2.out.cell 2 _ rfl
  have y3 := OB2.out.cell 3 _ rfl
  have z0 := OZ2.out.cell 0 _ rfl
  have z1 := OZ2.out.cell 1 _ rfl
  have z2 := OZ2.out.cell 2 _ rfl
  have z3 := OZ2.out.cell 3 _ rfl
  have g0 := OZ2.out.fz 0
  have g1 := OZ2.out.fz 1
  have g2 := OZ2.out.fz 2
  have g3 := OZ2.out.fz 3
  have x3 := OX2.out.cell 3 _ rfl
  have f3 := OB2.out.fz 3
  cases ok with
  | false =>
    have HR : Hid (passQ Q z = Q) := HRn.out (by first | rfl | trivial)
    clear HRn HR1 HR2 HRy
    go_wp2
    have HOU : Hid (OutS [w.heap.size, w.heap.size + 1] w1 ((((w2.setCell ⟨w.heap.size + 1, 0, none⟩ (.slice b1 Q.I.length c1)).setCell ⟨w.heap.size + 1, 1, none⟩ (.slice b2 Q.D.length c2)).setCell ⟨w.heap.size + 1, 2, none⟩ (.slice b3 Q.A.length c3)).setCell ⟨w.heap.size + 1, 3, none⟩ (.int .i64 Q.now))) := by
      show OutS _ _ _
      repeat (first | with_reducible exact OU2.out | with_reducible refine OutS.setFar ?_ (Nat.le_refl _) _ | with_reducible refine OutS.setCell ?_ (show _ ∈ [w.heap.size, w.heap.size + 1] by simp) _)
    refine bodyPost_ret (v := .agg #[.slice b1 Q.I.length c1, .slice b2 Q.D.length c2, .slice b3 Q.A.length c3, .int .i64 Q.now]) ?_ rfl ⟨_, _, _, by rw [HR.out], by rw [HR.out]; exact QO.now ((HO.out.outS HOU.out (fun t ht => by simp at ht; omega)).mono (by omega)), B1.out.trans (HOU.out.below (fun t ht => by simp at ht; omega) B1.out.size)⟩
    simp [results, Try.results45, go_sem, z0, z1, z2, z3]
  | true =>
    by_cases h1 : z > Q.now
    · by_cases h2 : z ≤ 1000000
      · have HR : Hid (passQ Q z = { Q with now := z }) := HRy.out (by first | rfl | trivial) h1 h2
        clear HRn HR1 HR2 HRy
        go_wp2
        have HOU : Hid (OutS [w.heap.size, w.heap.size + 1] w1 (((((w2.setCell ⟨w1.heap.size, 3, none⟩ (.int .i64 z)).setCell ⟨w.heap.size + 1, 0, none⟩ (.slice b1 Q.I.length c1)).setCell ⟨w.heap.size + 1, 1, none⟩ (.slice b2 Q.D.length c2)).setCell ⟨w.heap.size + 1, 2, none⟩ (.slice b3 Q.A.length c3)).setCell ⟨w.heap.size + 1, 3, none⟩ (.int .i64 z))) := by
          show OutS _ _ _
          repeat (first | with_reducible exact OU2.out | with_reducible refine OutS.setFar ?_ (Nat.le_refl _) _ | with_reducible refine OutS.setCell ?_ (show _ ∈ [w.heap.size, w.heap.size + 1] by simp) _)
        refine bodyPost_ret (v := .agg #[.slice b1 Q.I.length c1, .slice b2 Q.D.length c2, .slice b3 Q.A.length c3, .int .i64 z]) ?_ rfl ⟨_, _, _, by rw [HR.out], by rw [HR.out]; exact QO.now ((HO.out.outS HOU.out (fun t ht => by simp at ht; omega)).mono (by omega)), B1.out.trans (HOU.out.below (fun t ht => by simp at ht; omega) B1.out.size)⟩
        simp [results, Try.results45, go_sem, z0, z1, z2, z3]
      · have HR : Hid (passQ Q z = Q) := HR2.out (by omega)
        clear HRn HR1 HR2 HRy
        go_wp2
        have HOU : Hid (OutS [w.heap.size, w.heap.size + 1] w1 ((((w2.setCell ⟨w.heap.size + 1, 0, none⟩ (.slice b1 Q.I.length c1)).setCell ⟨w.heap.size + 1, 1, none⟩ (.slice b2 Q.D.length c2)).setCell ⟨w.heap.size + 1, 2, none⟩ (.slice b3 Q.A.length c3)).setCell ⟨w.heap.size + 1, 3, none⟩ (.int .i64 Q.now))) := by
          show OutS _ _ _
          repeat (first | with_reducible exact OU2.out | with_reducible refine OutS.setFar ?_ (Nat.le_refl _) _ | with_reducible refine OutS.setCell ?_ (show _ ∈ [w.heap.size, w.heap.size + 1] by simp) _)
        refine bodyPost_ret (v := .agg #[.slice b1 Q.I.length c1, .slice b2 Q.D.length c2, .slice b3 Q.A.length c3, .int .i64 Q.now]) ?_ rfl ⟨_, _, _, by rw [HR.out], by rw [HR.out]; exact QO.now ((HO.out.outS HOU.out (fun t ht => by simp at ht; omega)).mono (by omega)), B1.out.trans (HOU.out.below (fun t ht => by simp at ht; omega) B1.out.size)⟩
        simp [results, Try.results45, go_sem, z0, z1, z2, z3]
    · have HR : Hid (passQ Q z = Q) := HR1.out (by omega)
      clear HRn HR1 HR2 HRy
      go_wp2
      have HOU : Hid (OutS [w.heap.size, w.heap.size + 1] w1 ((((w2.setCell ⟨w.heap.size + 1, 0, none⟩ (.slice b1 Q.I.length c1)).setCell ⟨w.heap.size + 1, 1, none⟩ (.slice b2 Q.D.length c2)).setCell ⟨w.heap.size + 1, 2, none⟩ (.slice b3 Q.A.length c3)).setCell ⟨w.heap.size + 1, 3, none⟩ (.int .i64 Q.now))) := by
        show OutS _ _ _
        repeat (first | with_reducible exact OU2.out | with_reducible refine OutS.setFar ?_ (Nat.le_refl _) _ | with_reducible refine OutS.setCell ?_ (show _ ∈ [w.heap.size, w.heap.size + 1] by simp) _)
      refine bodyPost_ret (v := .agg #[.slice b1 Q.I.length c1, .slice b2 Q.D.length c2, .slice b3 Q.A.length c3, .int .i64 Q.now]) ?_ rfl ⟨_, _, _, by rw [HR.out], by rw [HR.out]; exact QO.now ((HO.out.outS HOU.out (fun t ht => by simp at ht; omega)).mono (by omega)), B1.out.trans (HOU.out.below (fun t ht => by simp at ht; omega) B1.out.size)⟩
      simp [results, Try.results45, go_sem, z0, z1, z2, z3]
end Go.Proofs.Ytddojjigijfgbaa
/- Queues: Put on both sides. -/
namespace Go.Proofs.Ytddojjigijfgbaa
open Go.RowKit Go.BigFrame
set_option linter.unusedVariables false

theorem nodup_len {A B : List ByteArray} (h : A.Nodup) (hs : ∀ s ∈ A, s ∈ B) : A.length ≤ B.length := by
  induction A generalizing B with
  | nil => simp
  | cons a A ih =>
    obtain ⟨h1, h2⟩ := List.nodup_cons.1 h
    obtain ⟨B1, B2, rfl⟩ := List.append_of_mem (hs a (.head _))
    have := ih (B := B1 ++ B2) h2 (fun s hm => by
      have := hs s (.tail _ hm)
      simp only [List.mem_append, List.mem_cons] at this ⊢
      rcases this with h | rfl | h
      · exact .inl h
      · exact (h1 hm).elim
      · exact .inr h)
    simp only [List.length_append, List.length_cons] at this ⊢
    omega
theorem okQ_put {Q : Qu} (hq : okQ Q) {s : ByteArray} (hs : s.size ≤ maxLen) : okQ (putQ Q s).1 := by
  unfold putQ
  split
  · rename_i h
    have hp := qOk_iff.1 h.1
    obtain ⟨p1, p2, p3, p4, p5, p6, p7, p8⟩ := hp
    obtain ⟨⟨a1, a2⟩, hD, ⟨b1, b2⟩, hN⟩ := hq
    unfold putC
    have hnow : inK .i64 Q.now := hN
    split
    · split
      · exact ⟨⟨a1, a2⟩, hD, ⟨b1, b2⟩, hN⟩
      · refine ⟨⟨a1, a2⟩, hD, ⟨?_, fun x hx => ?_⟩, hN⟩
        · show (Q.A ++ [s]).length ≤ _
          have hle : Q.A.length ≤ (Q.D.map (fun x => x.1)).length := nodup_len p7 p8
          rw [List.length_map] at hle
          rw [List.length_append, List.length_singleton]
          omega
        · rcases List.mem_append.1 hx with hx | hx
          · exact b2 x hx
          · simp at hx; rw [hx]; exact hs
    · split
      · rename_i hk
        refine ⟨⟨by show (Q.I.set _ _).length ≤ _; rw [List.length_set]; exact a1, fun x hx => ?_⟩, hD, ⟨b1, b2⟩, hN⟩
        rcases List.mem_or_eq_of_mem_set hx with hx | rfl
        · exact a2 x hx
        · obtain ⟨k1, k2, k3⟩ := a2 _ (List.getElem_mem hk)
          refine ⟨k1, ?_, k3⟩
          show inK .i64 (min _ _)
          rcases Int.le_total (Q.I[fndI Q.I s]).2.1 Q.now with hh | hh
          · rw [Int.min_eq_left hh]; exact k2
          · rw [Int.min_eq_right hh]; exact hN
      · split
        · exact ⟨⟨a1, a2⟩, hD, ⟨b1, b2⟩, hN⟩
        · refine ⟨⟨by show (Q.I ++ [_]).length ≤ _; rw [List.length_append, List.length_singleton]; omega, fun x hx => ?_⟩, hD, ⟨b1, b2⟩, hN⟩
          rcases List.mem_append.1 hx with hx | hx
          · exact a2 x hx
          · simp at hx; rw [hx]; exact ⟨hs, hN, by show inK .i64 0; unfold inK; omega⟩
  · exact hq
set_option maxRecDepth 20000 in
set_option maxHeartbeats 1600000 in
theorem iPut_any (Q : Qu) (s : ByteArray) (xs : List Value) (w : World) (hq : okQ Q) (hs : s.size ≤ maxLen) (hx : rdQ w Q xs) :
    Calls Try.prog 6 #[.agg xs.toArray, .string s] w fun e w' => ∃ vI vD vA, e = .returned (.tuple #[.agg #[vI, vD, vA, .int .i64 (putQ Q s).1.now], .bool (putQ Q s).2]) ∧ ownQ w' w.heap.size (putQ Q s).1 vI vD vA ∧ Below w.heap.size w w' := by
  have hxx := hx
  obtain ⟨cI, cD, cA, rfl, hI, hD, hA⟩ := hx
  have l1 := hq.1.1
  have l2 := hq.2.1.1
  have l3 := hq.2.2.1.1
  obtain ⟨aI, pI, rfl, -, -⟩ := hI.itS
  obtain ⟨aD, pD, rfl, -, -⟩ := hD.itS
  obtain ⟨aA, pA, rfl, -, -⟩ := hA.stS
  have HX := hide hxx
  have HK := hide hq
  have HI := hide hI
  have HD := hide hD
  have HA := hide hA
  clear hI hD hA hxx hq
  have HCP : Hid (∀ wx, Below w.heap.size w wx → Calls Try.prog 16 #[.agg #[.slice aI Q.I.length pI, .slice aD Q.D.length pD, .slice aA Q.A.length pA, .int .i64 Q.now]] wx fun e w' => ∃ vI vD vA, e = .returned (.agg #[vI, vD, vA, .int .i64 Q.now]) ∧ ownQ w' wx.heap.size Q vI vD vA ∧ Below wx.heap.size wx w') := fun wx hb => copyQ_N Q _ wx HK.out (HX.out.below hb)
  have HOK : Hid (∀ wx, Below w.heap.size w wx → Calls Try.prog 9 #[.agg #[.slice aI Q.I.length pI, .slice aD Q.D.length pD, .slice aA Q.A.length pA, .int .i64 Q.now]] wx fun e w' => e = .returned (.bool (qOk Q)) ∧ Below wx.heap.size wx w') := fun wx hb => iQueueOk_any Q _ wx HK.out (HX.out.below hb)
  obtain ⟨w0, ew0⟩ : ∃ w0, w0 = ((w.alloc (.cells #[.slice aI Q.I.length pI, .slice aD Q.D.length pD, .slice aA Q.A.length pA, .int .i64 Q.now] 27)).alloc (.cells #[.slice none 0 0, .slice none 0 0, .slice none 0 0, .int .i64 0] 27)) := ⟨_, rfl⟩
  have BX : Hid (Below w.heap.size w w0) := by show Below _ _ _; rw [ew0]; exact ((Below.refl _ _).alloc (Nat.le_refl _) _).alloc (by simp) _
  have OX : Hid (objU w0 w.heap.size 27 [.slice aI Q.I.length pI, .slice aD Q.D.length pD, .slice aA Q.A.length pA, .int .i64 Q.now]) := by show objU _ _ _ _; rw [ew0]; exact (objU.new _ _ _).old _
  have OZ : Hid (objU w0 (w.heap.size + 1) 27 [.slice none 0 0, .slice none 0 0, .slice none 0 0, .int .i64 0]) := by show objU _ _ _ _; rw [ew0]; exact objU.new2 _ _ (by simp)
  have SZ : Hid (w0.heap.size = w.heap.size + 2) := by show _ = _; rw [ew0]; simp
  have EW := hide ew0
  clear ew0
  go_enter Try.func6, Try.ntmps6
  go_wp2_with fail
  refine (HCP.out _ (EW.out ▸ BX.out)).mono ?_
  rintro e w1 ⟨vI, vD, vA, rfl, ho, hb⟩
  replace ho : ownQ w1 (w.heap.size + 2) Q vI vD vA := by have h := ho; rw [← SZ.out, EW.out]; exact h
  replace hb : Below w0.heap.size w0 w1 := by have h := hb; rw [EW.out]; exact h
  have HO := hide ho
  have OX1 := hide (OX.out.below hb)
  have OZ1 := hide (OZ.out.below hb)
  have B1 : Hid (Below w.heap.size w w1) := BX.out.trans (hb.mono BX.out.size)
  have S1 : Hid (w.heap.size + 2 ≤ w1.heap.size) := by show _ ≤ _; rw [← SZ.out]; exact hb.size
  obtain ⟨b1, c1, rfl⟩ := ho.i.itS
  obtain ⟨b2, c2, rfl⟩ := ho.d.itS
  obtain ⟨b3, c3, rfl⟩ := ho.a.stS
  have x0 := OX1.out.cell 0 _ rfl
  have x1 := OX1.out.cell 1 _ rfl
  have x2 := OX1.out.cell 2 _ rfl
  have x3 := OX1.out.cell 3 _ rfl
  have hBl := OX1.out.lt
  clear ho hb OX OZ BX SZ EW HCP
  have HX1 : Hid (Below w.heap.size w (w1.alloc (.cells #[.slice b1 Q.I.length c1, .slice b2 Q.D.length c2, .slice b3 Q.A.length c3, .int .i64 Q.now] 27))) := B1.out.alloc B1.out.size _
  have HRn : Hid (qOk Q = false → putQ Q s = (Q, false)) := fun h => if_neg (fun g => by rw [h] at g; cases g.1)
  have HRm : Hid (nameB s = false → putQ Q s = (Q, false)) := fun h => if_neg (fun g => by rw [h] at g; cases g.2)
  have HRy : Hid (qOk Q = true → nameB s = true → putQ Q s = putC Q s) := fun a b => if_pos ⟨a, b⟩
  have HNM := hide (fun wx => iname_any s wx)
  have HPT : Hid (∀ (b : Nat) (wx : World) (vI vD vA : Value), QB wx b (w.heap.size + 2) Q vI vD vA → w.heap.size + 2 ≤ b → Calls Try.prog 18 #[.pointer (some ⟨b, 0, none⟩), .string s] wx fun e w' => ∃ vI' vD' vA', e = .returned (.bool (putC Q s).2) ∧ QB w' b (w.heap.size + 2) (putC Q s).1 vI' vD' vA' ∧ Below (w.heap.size + 2) wx w') := fun b wx vI vD vA h hb => put_any Q s b _ vI vD vA wx HK.out hs h hb
  generalize qOk Q = ok at *
  generalize nameB s = nb at *
  go_wp2_with fail
  refine (HOK.out _ HX1.out).mono ?_
  rintro e w2 ⟨rfl, hb2⟩
  have OX2 := hide ((OX1.out.old _).below hb2)
  have OZ2 := hide ((OZ1.out.old _).below hb2)
  have OB2 : Hid (objU w2 w1.heap.size 27 [.slice b1 Q.I.length c1, .slice b2 Q.D.length c2, .slice b3 Q.A.length c3, .int .i64 Q.now]) := (objU.new _ _ _).below hb2
  have B2 : Hid (Below w.heap.size w w2) := HX1.out.trans (hb2.mono HX1.out.size)
  have OU2 : Hid (OutS [w.heap.size, w.heap.size + 1] w1 w2) := (OutS.of_below (below_alloc _ _)).trans (OutS.of_below hb2)
  have hn1 : ¬ (w1.heap.size = w.heap.size + 1) := by have := S1.out; omega
  have hn2 : ¬ (w1.heap.size = w.heap.size) := by have := S1.out; omega
  have hn3 : ¬ (w.heap.size + 1 = w1.heap.size) := by have := S1.out; omega
  have hn4 : ¬ (w.heap.size = w1.heap.size) := by have := S1.out; omega
  clear hb2 x0 x1 x2 x3 hBl HX1
  have HQB : Hid (QB w2 w1.heap.size (w.heap.size + 2) Q (.slice b1 Q.I.length c1) (.slice b2 Q.D.length c2) (.slice b3 Q.A.length c3)) := ⟨OB2.out, (HO.out.outS OU2.out (fun t ht => by simp at ht; omega)), (fun h => by have := (HO.out.i.lt _ h).2; omega), (fun h => by have := (HO.out.d.lt _ h).2; omega), (fun h => by have := (HO.out.a.lt _ h).2; omega)⟩
  have hS1 := S1.out
  cases ok with
  | false =>
    have HR := hide (HRn.out (by first | rfl | trivial))
    clear HRn HRm HRy HPT HNM HOK
    have u0 := HQB.out.o.cell 0 _ rfl
    have u1 := HQB.out.o.cell 1 _ rfl
    have u2 := HQB.out.o.cell 2 _ rfl
    have u3 := HQB.out.o.cell 3 _ rfl
    have z0 := OZ2.out.cell 0 _ rfl
    have z1 := OZ2.out.cell 1 _ rfl
    have z2 := OZ2.out.cell 2 _ rfl
    have z3 := OZ2.out.cell 3 _ rfl
    have g0 := OZ2.out.fz 0
    have g1 := OZ2.out.fz 1
    have g2 := OZ2.out.fz 2
    have g3 := OZ2.out.fz 3
    have HOU : Hid (OutS [w.heap.size + 1] w2 ((((w2.setCell ⟨w.heap.size + 1, 0, none⟩ (.slice b1 Q.I.length c1)).setCell ⟨w.heap.size + 1, 1, none⟩ (.slice b2 Q.D.length c2)).setCell ⟨w.heap.size + 1, 2, none⟩ (.slice b3 Q.A.length c3)).setCell ⟨w.heap.size + 1, 3, none⟩ (.int .i64 Q.now))) := by
      show OutS _ _ _
      repeat (first | with_reducible exact OutS.refl _ _ | with_reducible refine OutS.setCell ?_ (show _ ∈ [w.heap.size + 1] by simp) _)
    go_wp2
    refine bodyPost_ret (v := .tuple #[.agg #[.slice b1 Q.I.length c1, .slice b2 Q.D.length c2, .slice b3 Q.A.length c3, .int .i64 Q.now], .bool false]) ?_ rfl ⟨_, _, _, by rw [HR.out], by rw [HR.out]; exact QO.mono (HQB.out.q.outS HOU.out (fun t ht => by simp at ht; omega)) (by omega), B2.out.trans (HOU.out.below (fun t ht => by simp at ht; omega) B2.out.size)⟩
    simp [results, Try.results6, go_sem, z0, z1, z2, z3]
  | true =>
    go_wp2_with fail
    refine (HNM.out _).mono ?_
    rintro e w3 ⟨rfl, hb3⟩
    have HQB3 := hide (HQB.out.below hb3)
    have OZ3 := hide (OZ2.out.below hb3)
    have B3 : Hid (Below w.heap.size w w3) := B2.out.trans (hb3.mono B2.out.size)
    clear hb3 HQB OZ2 B2 OX2 OB2 OU2
    cases nb with
    | false =>
      have HR := hide (HRm.out (by first | rfl | trivial))
      clear HRn HRm HRy HPT HNM HOK
      have u0 := HQB3.out.o.cell 0 _ rfl
      have u1 := HQB3.out.o.cell 1 _ rfl
      have u2 := HQB3.out.o.cell 2 _ rfl
      have u3 := HQB3.out.o.cell 3 _ rfl
      have z0 := OZ3.out.cell 0 _ rfl
      have z1 := OZ3.out.cell 1 _ rfl
      have z2 := OZ3.out.cell 2 _ rfl
      have z3 := OZ3.out.cell 3 _ rfl
      have g0 := OZ3.out.fz 0
      have g1 := OZ3.out.fz 1
      have g2 := OZ3.out.fz 2
      have g3 := OZ3.out.fz 3
      have HOU : Hid (OutS [w.heap.size + 1] w3 ((((w3.setCell ⟨w.heap.size + 1, 0, none⟩ (.slice b1 Q.I.length c1)).setCell ⟨w.heap.size + 1, 1, none⟩ (.slice b2 Q.D.length c2)).setCell ⟨w.heap.size + 1, 2, none⟩ (.slice b3 Q.A.length c3)).setCell ⟨w.heap.size + 1, 3, none⟩ (.int .i64 Q.now))) := by
        show OutS _ _ _
        repeat (first | with_reducible exact OutS.refl _ _ | with_reducible refine OutS.setCell ?_ (show _ ∈ [w.heap.size + 1] by simp) _)
      go_wp2
      refine bodyPost_ret (v := .tuple #[.agg #[.slice b1 Q.I.length c1, .slice b2 Q.D.length c2, .slice b3 Q.A.length c3, .int .i64 Q.now], .bool false]) ?_ rfl ⟨_, _, _, by rw [HR.out], by rw [HR.out]; exact QO.mono (HQB3.out.q.outS HOU.out (fun t ht => by simp at ht; omega)) (by omega), B3.out.trans (HOU.out.below (fun t ht => by simp at ht; omega) B3.out.size)⟩
      simp [results, Try.results6, go_sem, z0, z1, z2, z3]
    | true =>
      have HR := hide (HRy.out (by first | rfl | trivial) (by first | rfl | trivial))
      clear HRn HRm HRy HNM HOK
      go_wp2_with fail
      refine (HPT.out _ _ _ _ _ HQB3.out hS1).mono ?_
      rintro e w4 ⟨vI', vD', vA', rfl, hq4, hb4⟩
      have HQB4 := hide hq4
      have OZ4 : Hid (objU w4 (w.heap.size + 1) 27 [.slice none 0 0, .slice none 0 0, .slice none 0 0, .int .i64 0]) := (hb4.block _ (Nat.lt_succ_self _)).trans OZ3.out
      have B4 : Hid (Below w.heap.size w w4) := B3.out.trans (hb4.mono (by omega))
      clear hq4 hb4 HPT HQB3 OZ3 B3
      generalize putC Q s = R at *
      obtain ⟨R1, R2⟩ := R
      dsimp only at HQB4
      obtain ⟨e1, f1, e2, f2, e3, f3, rfl, rfl, rfl⟩ := HQB4.out.xs
      have u0 := HQB4.out.o.cell 0 _ rfl
      have u1 := HQB4.out.o.cell 1 _ rfl
      have u2 := HQB4.out.o.cell 2 _ rfl
      have u3 := HQB4.out.o.cell 3 _ rfl
      have z0 := OZ4.out.cell 0 _ rfl
      have z1 := OZ4.out.cell 1 _ rfl
      have z2 := OZ4.out.cell 2 _ rfl
      have z3 := OZ4.out.cell 3 _ rfl
      have g0 := OZ4.out.fz 0
      have g1 := OZ4.out.fz 1
      have g2 := OZ4.out.fz 2
      have g3 := OZ4.out.fz 3
      have HOU : Hid (OutS [w.heap.size + 1] w4 ((((w4.setCell ⟨w.heap.size + 1, 0, none⟩ (.slice e1 R1.I.length f1)).setCell ⟨w.heap.size + 1, 1, none⟩ (.slice e2 R1.D.length f2)).setCell ⟨w.heap.size + 1, 2, none⟩ (.slice e3 R1.A.length f3)).setCell ⟨w.heap.size + 1, 3, none⟩ (.int .i64 R1.now))) := by
        show OutS _ _ _
        repeat (first | with_reducible exact OutS.refl _ _ | with_reducible refine OutS.setCell ?_ (show _ ∈ [w.heap.size + 1] by simp) _)
      go_wp2
      refine bodyPost_ret (v := .tuple #[.agg #[.slice e1 R1.I.length f1, .slice e2 R1.D.length f2, .slice e3 R1.A.length f3, .int .i64 R1.now], .bool R2]) ?_ rfl ⟨_, _, _, by rw [HR.out], by rw [HR.out]; exact QO.mono (HQB4.out.q.outS HOU.out (fun t ht => by simp at ht; omega)) (by omega), B4.out.trans (HOU.out.below (fun t ht => by simp at ht; omega) B4.out.size)⟩
      simp [results, Try.results6, go_sem, z0, z1, z2, z3]
end Go.Proofs.Ytddojjigijfgbaa
