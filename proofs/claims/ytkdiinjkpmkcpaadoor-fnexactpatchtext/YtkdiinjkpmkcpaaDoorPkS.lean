/- spec.PatchOk over the ops of a list. -/
import Derived.Test.YtkdiinjkpmkcpaaDoorPkL
namespace Go.Proofs.YtkdiinjkpmkcpaaDoor
open Go.RowKit Go.BigFrame
set_option linter.unusedVariables false
/-- an op's cells in hand -/
theorem uH.op {w : World} {lo hi : Nat} {d : UD} {xs : List Value} (ht : tyL d (uE 7)) (h : uH w lo hi d xs) : ∃ (z0 : Int) (n1 : Nat) (c1 dv : UD) (a1 : Option Addr) (p1 : Nat) (y0 : Int) (y1 : ByteArray) (y2 : Int) (m3 : Nat) (e3 : UD) (m4 : Nat) (e4 : UD) (a3 : Option Addr) (p3 : Nat) (a4 : Option Addr) (p4 : Nat),
    d = .p (.int .i64 z0) (.l 1 n1 c1 dv) ∧ tyS 1 n1 c1 0 ∧ tyL dv (uE 6) ∧ dv = .p (.int .i64 y0) (.p (.string y1) (.p (.int .i64 y2) (.l 1 m3 e3 (.l 5 m4 e4 .nil)))) ∧ tyS 1 m3 e3 0 ∧ tyS 5 m4 e4 6 ∧
      xs = [.int .i64 z0, .slice a1 n1 p1, .int .i64 y0, .string y1, .int .i64 y2, .slice a3 m3 p3, .slice a4 m4 p4] ∧ uS w lo hi 1 n1 c1 (.slice a1 n1 p1) ∧ uH w lo hi dv [.int .i64 y0, .string y1, .int .i64 y2, .slice a3 m3 p3, .slice a4 m4 p4] := by
  obtain ⟨z0, r1, rfl, g0, ht1⟩ := tyL.i ht
  obtain ⟨n1, c1, dv, rfl, g1, htv⟩ := tyL.l ht1
  obtain ⟨_, rfl, ⟨v1, ys, rfl, hs1, hov⟩⟩ := h
  obtain ⟨a1, p1, rfl, s1⟩ := hs1
  have htv' := htv
  obtain ⟨y0, y1, y2, m3, e3, m4, e4, rfl, k0, k1, k2, k3, k4⟩ := partsValue htv
  have hov' := hov
  obtain ⟨_, rfl, ⟨_, rfl, ⟨_, rfl, ⟨v3, _, rfl, s3, ⟨v4, _, rfl, s4, rfl⟩⟩⟩⟩⟩ := hov
  obtain ⟨b3, q3, rfl, -⟩ := s3
  obtain ⟨b4, q4, rfl, -⟩ := s4
  exact ⟨z0, n1, c1, _, a1, p1, y0, y1, y2, m3, e3, m4, e4, b3, q3, b4, q4, rfl, g1, htv', rfl, k3, k4, rfl, ⟨_, _, rfl, s1⟩, hov'⟩
set_option maxRecDepth 20000 in
set_option maxHeartbeats 3200000 in
theorem sPatchOk_any (n : Nat) (cs : UD) (c : Value) (lo hi : Nat) (w : World) (f : Nat → Bool) (r : Bool) (ht : tyS 7 n cs 7) (hx : uS w lo hi 7 n cs c) (hn : n ≤ 1048576) (hf : ∀ q, q < n → ∀ z0 n1 c1 dv, rowU cs 7 q = .p z0 (.l 1 n1 c1 dv) → vokS dv (f q)) (hr : r = true ↔ n ≤ 20 ∧ ∀ q, q < n → okU (rowU cs 7 q) (f q)) :
    Calls Tryd.prog 10 #[c] w fun e w' => e = .returned (.bool r) ∧ Below w.heap.size w w' := by
  obtain ⟨a, cap, rfl, hx2⟩ := hx
  have Hx : Hid (uS w lo hi 7 n cs (.slice a n cap)) := ⟨_, _, rfl, hx2⟩
  have Ht := uhide ht
  have Hf := uhide hf
  have HR := uhide hr
  clear ht hx2 hf hr
  go_enter Tryd.func10, Tryd.ntmps10
  go_wp2
  go_loopw [3] (fun i wr => ∃ (q : Nat), q ≤ n ∧ i = .int .i64 q ∧ Hid (∀ j, j < q → okU (rowU cs 7 j) (f j)) ∧ Hid (Below w.heap.size w wr)) (fun i _ => n - (intOf i).toNat)
  case atStart => exact ⟨0, Nat.zero_le _, rfl, (fun j h => by omega), Below.refl _ _⟩
  case round =>
    obtain ⟨q, hq, rfl, HE, HB⟩ := hrel
    by_cases hlt : q < n
    · obtain ⟨b, off, rfl, hbb, hm⟩ := (Hx.out.below HB.out).cells (by omega)
      have htr := Ht.out.row hlt
      obtain ⟨xs, hh, hcl⟩ := (hm.row 7 q).hand
      obtain ⟨z0, n1, c1, dv, a1, p1, y0, y1, y2, m3, e3, m4, e4, a3, p3, a4, p4, hR, g1, gv, hdv, k3, k4, rfl, s1, hv⟩ := hh.op htr
      have q0 : wr.cell? ⟨b, off + q * 7, none⟩ = some (.int .i64 z0) := hcl 0 _ rfl
      have q1 : wr.cell? ⟨b, off + q * 7 + 1, none⟩ = some (.slice a1 n1 p1) := hcl 1 _ rfl
      have q2 : wr.cell? ⟨b, off + q * 7 + 2, none⟩ = some (.int .i64 y0) := hcl 2 _ rfl
      have q3 : wr.cell? ⟨b, off + q * 7 + 3, none⟩ = some (.string y1) := hcl 3 _ rfl
      have q4 : wr.cell? ⟨b, off + q * 7 + 4, none⟩ = some (.int .i64 y2) := hcl 4 _ rfl
      have q5 : wr.cell? ⟨b, off + q * 7 + 5, none⟩ = some (.slice a3 m3 p3) := hcl 5 _ rfl
      have q6 : wr.cell? ⟨b, off + q * 7 + 6, none⟩ = some (.slice a4 m4 p4) := hcl 6 _ rfl
      obtain ⟨rp, hrp⟩ := bool_iff ((1 ≤ n1 ∧ n1 ≤ 5) ∧ allNm c1)
      obtain ⟨rz, hrz⟩ := bool_iff (dv = zV)
      have HOK : Hid (okU (rowU cs 7 q) (f q) ↔ rp = true ∧ ((z0 = 1 ∨ z0 = 3) ∧ f q = true ∨ z0 = 2 ∧ rz = true)) := by
        show _ ↔ _
        rw [hR, hrp, hrz]; rfl
      have HP : Hid (∀ wx, Below wr.heap.size wr wx → Calls Tryd.prog 19 #[.slice a1 n1 p1] wx fun e w' => e = .returned (.bool rp) ∧ Below wx.heap.size wx w') := fun wx hb => l5Path_any n1 c1 a1 p1 lo hi wx rp g1 (s1.below hb) hrp
      have HZ : Hid (∀ wx, Calls Tryd.prog 20 #[.agg #[.int .i64 y0, .string y1, .int .i64 y2, .slice a3 m3 p3, .slice a4 m4 p4]] wx fun e w' => e = .returned (.bool rz) ∧ Below wx.heap.size wx w') := fun wx => l5Zero_any y0 y2 y1 m3 m4 a3 a4 p3 p4 wx rz k3.2.2.1 k4.2.2.1 (by rw [hrz, hdv, zV_iff k3 k4])
      have HV : Hid (∀ wx, Below wr.heap.size wr wx → Calls Tryd.prog 21 #[.agg #[.int .i64 y0, .string y1, .int .i64 y2, .slice a3 m3 p3, .slice a4 m4 p4]] wx fun e w' => e = .returned (.bool (f q)) ∧ Below wx.heap.size wx w') := fun wx hb => Hf.out q hlt _ _ _ _ hR wx lo hi _ (hv.below hb)
      have HI := uhide (l1In_any z0 1 3)
      have OB : Hid (∀ wx, Below (wr.alloc (.cells #[.int .i64 z0, .slice a1 n1 p1, .int .i64 y0, .string y1, .int .i64 y2, .slice a3 m3 p3, .slice a4 m4 p4] 41)).heap.size (wr.alloc (.cells #[.int .i64 z0, .slice a1 n1 p1, .int .i64 y0, .string y1, .int .i64 y2, .slice a3 m3 p3, .slice a4 m4 p4] 41)) wx → objU wx wr.heap.size 41 [.int .i64 z0, .slice a1 n1 p1, .int .i64 y0, .string y1, .int .i64 y2, .slice a3 m3 p3, .slice a4 m4 p4]) := fun wx hbx => (objU.new _ _ _).below hbx
      have HB0 : Hid (∀ o, Below wr.heap.size wr (wr.alloc o)) := fun o => (Below.refl _ _).alloc (Nat.le_refl _) _
      have BAD : Hid (¬ okU (rowU cs 7 q) (f q) → r = false) := fun h => by
        cases hh : r with
        | false => rfl
        | true => exact (h ((HR.out.1 hh).2 q hlt)).elim
      have NXT : Hid (okU (rowU cs 7 q) (f q) → ∀ j, j < q + 1 → okU (rowU cs 7 j) (f j)) := fun h j hj => by
        by_cases e : j = q
        · subst e; exact h
        · exact HE.out j (by omega)
      generalize f q = fq at *
      clear hm htr hh hcl hR g1 gv hdv k3 k4 s1 hv hrp hrz HE
      by_cases hk : 1 ≤ z0 ∧ z0 ≤ 3
      rotate_left
      · have hrf := BAD.out (fun h => by have := HOK.out.1 h; omega)
        subst hrf
        have hin : inB z0 1 3 = false := by unfold inB; rw [decide_eq_false_iff_not]; exact hk
        rw [hin] at HI
        clear HP HZ HV OB BAD NXT HOK hk hin HR Hf Ht Hx
        go_wp2_with fail
        refine (HI.out _).mono ?_
        rintro e w1 ⟨rfl, rfl⟩
        go_wp2
        go_ret
        exact ⟨rfl, HB.out.trans ((HB0.out _).mono HB.out.size)⟩
      have hin : inB z0 1 3 = true := by unfold inB; rw [decide_eq_true_eq]; exact hk
      rw [hin] at HI
      cases rp
      · have hrf := BAD.out (fun h => by have := HOK.out.1 h; cases this.1)
        subst hrf
        clear HZ HV BAD NXT HOK hin HR Hf Ht Hx
        go_wp2_with fail
        refine (HI.out _).mono ?_
        rintro e w1 ⟨rfl, rfl⟩
        go_wp2_with fail
        refine (HP.out _ (HB0.out _)).mono ?_
        rintro e w2 ⟨rfl, hb2⟩
        have HB2 : Hid (Below w.heap.size w w2) := HB.out.trans (((HB0.out _).trans (hb2.mono (by simp))).mono HB.out.size)
        clear hb2
        go_wp2
        go_ret
        exact ⟨rfl, HB2.out⟩
      have HOK2 : Hid (okU (rowU cs 7 q) fq ↔ (z0 = 1 ∨ z0 = 3) ∧ fq = true ∨ z0 = 2 ∧ rz = true) := HOK.out.trans ⟨fun h => h.2, fun h => ⟨rfl, h⟩⟩
      clear HOK hin
      go_wp2_with fail
      refine (HI.out _).mono ?_
      rintro e w1 ⟨rfl, rfl⟩
      go_wp2_with fail
      refine (HP.out _ (HB0.out _)).mono ?_
      rintro e w2 ⟨rfl, hb2⟩
      have OB2 := uhide (OB.out _ hb2)
      have HB2 : Hid (Below wr.heap.size wr w2) := (HB0.out _).trans (hb2.mono (by simp))
      have x0 := OB2.out.cell 0 _ rfl
      have x2 := OB2.out.cell 2 _ rfl
      have x3 := OB2.out.cell 3 _ rfl
      have x4 := OB2.out.cell 4 _ rfl
      have x5 := OB2.out.cell 5 _ rfl
      have x6 := OB2.out.cell 6 _ rfl
      have HBw : Hid (Below w.heap.size w w2) := HB.out.trans (HB2.out.mono HB.out.size)
      clear hb2 OB HP HI HB0 q0 q1 q2 q3 q4 q5 q6 Hx Ht Hf
      by_cases h2 : z0 = 2
      · subst h2
        have HOK3 : Hid (okU (rowU cs 7 q) fq ↔ rz = true) := HOK2.out.trans ⟨fun h => h.elim (fun h => by omega) (fun h => h.2), fun h => .inr ⟨rfl, h⟩⟩
        clear HOK2 HV hk
        cases rz
        · have hrf := BAD.out (fun h => by have := HOK3.out.1 h; cases this)
          subst hrf
          clear BAD NXT HOK3 HR
          go_wp2_with fail
          refine (HZ.out _).mono ?_
          rintro e w3 ⟨rfl, hb3⟩
          have HB3 : Hid (Below w.heap.size w w3) := HBw.out.trans (hb3.mono HBw.out.size)
          clear hb3
          go_wp2
          go_ret
          exact ⟨rfl, HB3.out⟩
        · have HN := uhide (NXT.out (HOK3.out.2 rfl))
          clear BAD NXT HOK3
          go_wp2_with fail
          refine (HZ.out _).mono ?_
          rintro e w3 ⟨rfl, hb3⟩
          have HB3 : Hid (Below w.heap.size w w3) := HBw.out.trans (hb3.mono HBw.out.size)
          have x0 := (OB2.out.below hb3).cell 0 _ rfl
          clear hb3
          go_wp2
          go_roundw
          case rel => exact ⟨q + 1, by omega, by go_num, HN, HB3⟩
          case measure => simp [intOf]; omega
      · have HOK3 : Hid (okU (rowU cs 7 q) fq ↔ fq = true) := HOK2.out.trans ⟨fun h => h.elim (fun h => h.2) (fun h => (h2 h.1).elim), fun h => .inl ⟨by omega, h⟩⟩
        have f2 : (z0 == 2) = false := by rw [beq_eq_false_iff_ne]; exact h2
        have f2' : (z0 != 2) = true := by rw [bne_iff_ne]; exact h2
        clear HOK2 HZ hk h2
        cases fq
        · have hrf := BAD.out (fun h => by have := HOK3.out.1 h; cases this)
          subst hrf
          clear BAD NXT HOK3 HR
          go_wp2_with fail
          refine (HV.out _ HB2.out).mono ?_
          rintro e w3 ⟨rfl, hb3⟩
          have HB3 : Hid (Below w.heap.size w w3) := HBw.out.trans (hb3.mono HBw.out.size)
          clear hb3
          go_wp2
          go_ret
          exact ⟨rfl, HB3.out⟩
        · have HN := uhide (NXT.out (HOK3.out.2 rfl))
          clear BAD NXT HOK3
          go_wp2_with fail
          refine (HV.out _ HB2.out).mono ?_
          rintro e w3 ⟨rfl, hb3⟩
          have HB3 : Hid (Below w.heap.size w w3) := HBw.out.trans (hb3.mono HBw.out.size)
          clear hb3
          go_wp2
          go_roundw
          case rel => exact ⟨q + 1, by omega, by go_num, HN, HB3⟩
          case measure => simp [intOf]; omega
    · have e1 : q = n := by omega
      subst e1
      have hre : decide ((q : Int) ≤ 20) = r := by
        rw [Bool.eq_iff_iff, HR.out, decide_eq_true_eq]
        exact ⟨fun h => ⟨by omega, HE.out⟩, fun h => by omega⟩
      clear HE HR Hx Ht Hf
      by_cases h20 : (q : Int) ≤ 20
      · rw [decide_eq_true h20] at hre
        subst hre
        go_wp2
        go_ret
        exact ⟨rfl, HB.out⟩
      · rw [decide_eq_false h20] at hre
        subst hre
        go_wp2
        go_ret
        exact ⟨rfl, HB.out⟩
/-- both PatchOk -/
theorem patchOk_rows (n : Nat) (cs : UD) (ht : tyS 7 n cs 7) : ∃ f : Nat → Bool, ∀ q, q < n → (∀ z0 n1 c1 dv, rowU cs 7 q = .p z0 (.l 1 n1 c1 dv) → vokI dv (f q)) ∧ (∀ z0 n1 c1 dv, rowU cs 7 q = .p z0 (.l 1 n1 c1 dv) → vokS dv (f q)) ∧ (f q = true → ∀ z0 n1 c1 dv, rowU cs 7 q = .p z0 (.l 1 n1 c1 dv) → ∃ N, rgtU N dv) := by
  have each : ∀ q, q < n → ∃ b : Bool, (∀ z0 n1 c1 dv, rowU cs 7 q = .p z0 (.l 1 n1 c1 dv) → vokI dv b) ∧ (∀ z0 n1 c1 dv, rowU cs 7 q = .p z0 (.l 1 n1 c1 dv) → vokS dv b) ∧ (b = true → ∀ z0 n1 c1 dv, rowU cs 7 q = .p z0 (.l 1 n1 c1 dv) → ∃ N, rgtU N dv) := by
    intro q hq
    have htr := ht.row hq
    obtain ⟨z0, r1, e, g0, ht1⟩ := tyL.i htr
    obtain ⟨n1, c1, dv, rfl, g1, htv⟩ := tyL.l ht1
    obtain ⟨b, h1, h2, h3⟩ := vok_both dv htv
    have inj : ∀ {z0' : Value} {n1' : Nat} {c1' dv' : UD}, rowU cs 7 q = .p z0' (.l 1 n1' c1' dv') → dv' = dv := fun h => by rw [e] at h; cases h; rfl
    exact ⟨b, fun _ _ _ _ h => by rw [inj h]; exact h3, fun _ _ _ _ h => by rw [inj h]; exact h2, fun hb _ _ _ _ h => by rw [inj h]; exact h1 hb⟩
  exact Go.Deep.choose_lt each
end Go.Proofs.YtkdiinjkpmkcpaaDoor
