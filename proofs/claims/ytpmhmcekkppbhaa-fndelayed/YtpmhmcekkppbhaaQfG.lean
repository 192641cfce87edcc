/- Queues: the program's itemsOk and QueueOk. -/
import Derived.Test.YtpmhmcekkppbhaaQfF
import Derived.Test.YtpmhmcekkppbhaaQfE
namespace Go.Proofs.Ytpmhmcekkppbhaa
open Go.RowKit Go.BigFrame Go.Maps
set_option linter.unusedVariables false

def isP (L : List It) (rdy : Int) : Prop := L.length ≤ 60 ∧ ∀ x ∈ L, nameB x.1 = true ∧ inB x.2.1 0 rdy = true ∧ inB x.2.2 0 1000 = true
noncomputable def isB (L : List It) (rdy : Int) : Bool := @decide (isP L rdy) (Classical.propDecidable _)
theorem isB_true {L : List It} {rdy : Int} (h : isP L rdy) : isB L rdy = true := @decide_eq_true _ (Classical.propDecidable _) h
theorem isB_false {L : List It} {rdy : Int} (h : ¬ isP L rdy) : isB L rdy = false := @decide_eq_false _ (Classical.propDecidable _) h
theorem isB_iff {L : List It} {rdy : Int} : isB L rdy = true ↔ isP L rdy := @decide_eq_true_iff _ (Classical.propDecidable _)
set_option maxRecDepth 20000 in
set_option maxHeartbeats 1600000 in
theorem itemsOk_any (L : List It) (rdy : Int) (c : Value) (w : World) (hx : rdR w 3 c (L.map encI)) (hk : okIs L) :
    Calls Try.prog 94 #[c, .int .i64 rdy] w fun e w' => e = .returned (.bool (isB L rdy)) ∧ Below w.heap.size w w' := by
  obtain ⟨aL, pL, rfl, -, -⟩ := hx.itS
  have HX := hide hx
  have HK := hide hk.2
  have hLl := hk.1
  clear hx hk
  by_cases h60 : L.length ≤ 60
  · have h60' : ¬ (60 : Int) < (L.length : Int) := by omega
    go_enter Try.func94, Try.ntmps94
    go_wp2
    go_loopw [12] (fun i wr => ∃ (q : Nat), q ≤ L.length ∧ i = .int .i64 q ∧ Hid (∀ j (h : j < L.length), j < q → nameB (L[j].1) = true ∧ inB (L[j].2.1) 0 rdy = true ∧ inB (L[j].2.2) 0 1000 = true) ∧ Hid (Below w.heap.size w wr)) (fun i _ => L.length - (intOf i).toNat)
    case atStart => exact ⟨0, Nat.zero_le _, rfl, (fun j _ h => by omega), Below.refl _ _⟩
    case round =>
      obtain ⟨q, hq, rfl, Ho, Hb⟩ := hrel
      by_cases hlt : q < L.length
      · obtain ⟨b, off, rfl, hbk, c0, c1, c2⟩ := (HX.out.below Hb.out).itAt hlt
        have hs := (HK.out _ (List.getElem_mem hlt)).1
        have Hno : Hid (¬ (nameB (L[q].1) = true ∧ inB (L[q].2.1) 0 rdy = true ∧ inB (L[q].2.2) 0 1000 = true) → isB L rdy = false) := fun h => isB_false (fun g => h (g.2 _ (List.getElem_mem hlt)))
        have Hye : Hid (nameB (L[q].1) = true ∧ inB (L[q].2.1) 0 rdy = true ∧ inB (L[q].2.2) 0 1000 = true → ∀ j (h : j < L.length), j < q + 1 → nameB (L[j].1) = true ∧ inB (L[j].2.1) 0 rdy = true ∧ inB (L[j].2.2) 0 1000 = true) := fun h j hj hjq => by
          by_cases e : j = q
          · subst e; exact h
          · exact Ho.out j hj (by omega)
        have HN : Hid (∀ wx, Calls Try.prog 69 #[.string (L[q].1)] wx fun e w' => e = .returned (.bool (nameB (L[q].1))) ∧ Below wx.heap.size wx w') := fun wx => iname_any _ wx
        have H1 : Hid (∀ wx, Calls Try.prog 61 #[.int .i64 (L[q].2.1), .int .i64 rdy] wx fun e w' => e = .returned (.bool (inB (L[q].2.1) 0 rdy)) ∧ w' = wx) := fun wx => within_any _ _ wx
        have H2 : Hid (∀ wx, Calls Try.prog 61 #[.int .i64 (L[q].2.2), .int .i64 1000] wx fun e w' => e = .returned (.bool (inB (L[q].2.2) 0 1000)) ∧ w' = wx) := fun wx => within_any _ _ wx
        have hq0 : (0 : Int) ≤ (q : Int) := Int.natCast_nonneg _
        clear hs Ho
        generalize L[q].1 = s at *
        generalize L[q].2.1 = rd at *
        generalize L[q].2.2 = fl at *
        generalize nameB s = nb at *
        generalize inB rd 0 rdy = r1 at *
        generalize inB fl 0 1000 = r2 at *
        have OB : Hid (objU ((wr.alloc (.cells #[.string s, .int .i64 rd, .int .i64 fl] 75))) wr.heap.size 75 [.string s, .int .i64 rd, .int .i64 fl]) := objU.new _ _ _
        have HBx : Hid (Below w.heap.size w (wr.alloc (.cells #[.string s, .int .i64 rd, .int .i64 fl] 75))) := Hb.out.alloc Hb.out.size _
        go_wp2_with fail
        refine (HN.out _).mono ?_
        rintro e w1 ⟨rfl, hb1⟩
        have OB1 := OB.out.below hb1
        have HB1 : Hid (Below w.heap.size w w1) := HBx.out.trans (hb1.mono HBx.out.size)
        have y1 := OB1.cell 1 _ rfl
        have y2 := OB1.cell 2 _ rfl
        clear OB OB1 HBx hb1
        cases nb with
        | false =>
          have Hn := hide (Hno.out (fun h => by have := h.1; cases this))
          clear Hno Hye
          go_wp2_with (first
                        | (go_at_call 61; refine (H1.out _).mono ?_; clear H1; rintro e w' ⟨rfl, rfl⟩)
                        | (go_at_call 61; refine (H2.out _).mono ?_; rintro e w' ⟨rfl, rfl⟩))
          go_ret
          exact ⟨ret_bool Hn.out.symm, HB1.out⟩
        | true =>
          cases r1 with
          | false =>
            have Hn := hide (Hno.out (fun h => by have := h.2.1; cases this))
            clear Hno Hye
            go_wp2_with (first
                          | (go_at_call 61; refine (H1.out _).mono ?_; clear H1; rintro e w' ⟨rfl, rfl⟩)
                          | (go_at_call 61; refine (H2.out _).mono ?_; rintro e w' ⟨rfl, rfl⟩))
            go_ret
            exact ⟨ret_bool Hn.out.symm, HB1.out⟩
          | true =>
            cases r2 with
            | false =>
              have Hn := hide (Hno.out (fun h => by have := h.2.2; cases this))
              clear Hno Hye
              go_wp2_with (first
                            | (go_at_call 61; refine (H1.out _).mono ?_; clear H1; rintro e w' ⟨rfl, rfl⟩)
                            | (go_at_call 61; refine (H2.out _).mono ?_; rintro e w' ⟨rfl, rfl⟩))
              go_ret
              exact ⟨ret_bool Hn.out.symm, HB1.out⟩
            | true =>
              have Hn := hide (Hye.out ⟨rfl, rfl, rfl⟩)
              clear Hno Hye
              go_wp2_with (first
              | (go_at_call 61; refine (H1.out _).mono ?_; clear H1; rintro e w' ⟨rfl, rfl⟩)
              | (go_at_call 61; refine (H2.out _).mono ?_; rintro e w' ⟨rfl, rfl⟩))
              go_roundw
              case rel => exact ⟨q + 1, by omega, by go_num, Hn, HB1⟩
              case measure => simp [intOf]; omega
      · have e : q = L.length := by omega
        have Hn : Hid (isB L rdy = true) := isB_true ⟨h60, fun x hx => by
          obtain ⟨j, hj, rfl⟩ := List.mem_iff_getElem.1 hx
          exact Ho.out j hj (by omega)⟩
        clear Ho HX HK
        subst e
        go_wp2
        go_ret
        exact ⟨ret_bool Hn.out.symm, Hb.out⟩
  · have h60' : (60 : Int) < (L.length : Int) := by omega
    have Hn : Hid (isB L rdy = false) := isB_false (fun h => h60 h.1)
    go_enter Try.func94, Try.ntmps94
    go_wp2
    go_ret
    exact ⟨ret_bool Hn.out.symm, Below.refl _ _⟩
end Go.Proofs.Ytpmhmcekkppbhaa
