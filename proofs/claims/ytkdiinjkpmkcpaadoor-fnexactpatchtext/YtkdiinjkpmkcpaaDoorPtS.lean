/- spec.PatchText. -/
import Derived.Test.YtkdiinjkpmkcpaaDoorPtT
namespace Go.Proofs.YtkdiinjkpmkcpaaDoor
open Go.RowKit Go.BigFrame
set_option linter.unusedVariables false

theorem sl_zero (o : ByteArray) (ps : List ByteArray) (k : Nat) (h : k < ps.length) (hk : k = 0) : (o ++ jn 47 (ps.take k)) ++ ps[k] = o ++ jn 47 (ps.take (k + 1)) := by subst hk; rw [jn_zero 47 ps h, List.take_zero, jn_nil, bs_none]
theorem sl_succ (o : ByteArray) (ps : List ByteArray) (k : Nat) (h : k < ps.length) (hk : 0 < k) : ((o ++ jn 47 (ps.take k)) ++ ⟨#[47]⟩) ++ ps[k] = o ++ jn 47 (ps.take (k + 1)) := by
  rw [jn_succ 47 ps k h hk, bs_assoc, bs_assoc, bs_assoc]
/-- what is known of a right list's rows -/
structure RowT (cs : UD) (T : Nat → ByteArray) (q : Nat) : Prop where
  size : (T q).size ≤ 76800
  parts : ∃ (z0 : Int) (n1 : Nat) (c1 dv : UD), rowU cs 7 q = .p (.int .i64 z0) (.l 1 n1 c1 dv) ∧ tyS 1 n1 c1 0 ∧ tyL dv (uE 6) ∧ (1 ≤ n1 ∧ n1 ≤ 5) ∧ allNm c1 ∧ ((z0 = 1 ∨ z0 = 3) ∧ txS dv (T q) ∧ txI dv (T q) ∨ z0 = 2)
theorem line_size {cs : UD} {T : Nat → ByteArray} {q : Nat} (h : RowT cs T q) : (lineU (rowU cs 7 q) (T q)).size ≤ 77001 := by
  obtain ⟨hs, z0, n1, c1, dv, e, h1, h2, h3, h4, h5⟩ := h
  rw [e]
  show (opB z0 c1 (T q) ++ ⟨#[10]⟩).size ≤ _
  rw [ByteArray.size_append, one_size]
  have := opB_size (z0 := z0) h4 (by rw [strL_len h1]; exact h3.2) hs
  omega
theorem ptx_size {cs : UD} {T : Nat → ByteArray} {n : Nat} (h : ∀ q, q < n → RowT cs T q) : ∀ k, k ≤ n → (ptxTo cs T k).size ≤ 77001 * k
  | 0, _ => Nat.le_refl _
  | k + 1, hk => by
    have h1 := ptx_size h k (by omega)
    have h2 := line_size (h k (by omega))
    show (ptxTo cs T k ++ _).size ≤ _
    rw [ByteArray.size_append]; omega
set_option maxRecDepth 20000 in
set_option maxHeartbeats 3200000 in
theorem sPatchText_any (n : Nat) (cs : UD) (c : Value) (lo hi : Nat) (w : World) (f : Nat → Bool) (T : Nat → ByteArray) (r : Bool) (ht : tyS 7 n cs 7) (hx : uS w lo hi 7 n cs c) (hn : n ≤ 1048576) (hf : ∀ q, q < n → ∀ z0 n1 c1 dv, rowU cs 7 q = .p z0 (.l 1 n1 c1 dv) → vokS dv (f q)) (hr : r = true ↔ n ≤ 20 ∧ ∀ q, q < n → okU (rowU cs 7 q) (f q)) (hT : r = true → ∀ q, q < n → RowT cs T q) :
    Calls Tryd.prog 5 #[c] w fun e w' => e = .returned (.string (if r = true then ptxTo cs T n else ⟨#[]⟩)) ∧ Below w.heap.size w w' := by
  have HP := uhide (sPatchOk_any n cs c lo hi w f r ht hx hn hf hr)
  obtain ⟨a, cap, rfl, hx2⟩ := hx
  have Hx : Hid (uS w lo hi 7 n cs (.slice a n cap)) := ⟨_, _, rfl, hx2⟩
  cases r
  · clear ht hx2 hf hr hT Hx
    rw [if_neg (by decide)]
    go_enter Tryd.func5, Tryd.ntmps5
    go_wp2_with fail
    refine HP.out.mono ?_
    rintro e w1 ⟨rfl, hb⟩
    go_wp2
    go_ret
    exact ⟨rfl, hb⟩
  rw [if_pos rfl]
  have hn20 : n ≤ 20 := (hr.1 rfl).1
  have HT := uhide (hT rfl)
  have Hps : Hid (∀ k, k ≤ n → ∀ S : ByteArray, S = ptxTo cs T k → S.size ≤ 1540020) := fun k hk S hS => by
    rw [hS]
    have := ptx_size (hT rfl) k hk
    have := Nat.mul_le_mul_left 77001 (Nat.le_trans hk hn20)
    omega
  clear ht hx2 hf hr hT
  go_enter Tryd.func5, Tryd.ntmps5
  go_wp2_with fail
  refine HP.out.mono ?_
  rintro e w1 ⟨rfl, hb⟩
  have HB1 := uhide hb
  clear hb HP
  go_wp2
  have OW0 : Hid (objU (w1.alloc (.cells #[.string ⟨#[]⟩, .string ⟨#[115, 101, 116, 32]⟩, .string ⟨#[100, 114, 111, 112, 32]⟩, .string ⟨#[110, 101, 101, 100, 32]⟩] 9)) w1.heap.size 9 [.string ⟨#[]⟩, .string ⟨#[115, 101, 116, 32]⟩, .string ⟨#[100, 114, 111, 112, 32]⟩, .string ⟨#[110, 101, 101, 100, 32]⟩]) := objU.new _ _ _
  have HB2 : Hid (Below w.heap.size w (w1.alloc (.cells #[.string ⟨#[]⟩, .string ⟨#[115, 101, 116, 32]⟩, .string ⟨#[100, 114, 111, 112, 32]⟩, .string ⟨#[110, 101, 101, 100, 32]⟩] 9))) := HB1.out.alloc HB1.out.size _
  go_loopw [4, 5] (fun s i wr => ∃ (q : Nat) (S : ByteArray), q ≤ n ∧ i = .int .i64 q ∧ s = .string S ∧ S.size ≤ 1540020 ∧ Hid (S = ptxTo cs T q) ∧ Hid (objU wr w1.heap.size 9 [.string ⟨#[]⟩, .string ⟨#[115, 101, 116, 32]⟩, .string ⟨#[100, 114, 111, 112, 32]⟩, .string ⟨#[110, 101, 101, 100, 32]⟩]) ∧ Hid (Below w.heap.size w wr)) (fun _ i _ => n - (intOf i).toNat)
  case atStart => exact ⟨0, ⟨#[]⟩, Nat.zero_le _, rfl, rfl, by decide, rfl, OW0, HB2⟩
  case round =>
    clear OW0 HB2
    obtain ⟨q, S, hq, rfl, rfl, hS, HS, OW, HB⟩ := hrel
    by_cases hlt : q < n
    · obtain ⟨b, off, rfl, hbb, hm⟩ := (Hx.out.below HB.out).cells (by omega)
      obtain ⟨hTz, z0, n1, c1, dv, hR, g1, gv, hn1, hnm, hk⟩ := HT.out q hlt
      obtain ⟨xs, hh, hcl⟩ := (hm.row 7 q).hand
      have htr : tyL (rowU cs 7 q) (uE 7) := by rw [hR]; exact ⟨_, _, rfl, ⟨z0, rfl, by rcases hk with ⟨h | h, _⟩ | h <;> (show (-9223372036854775808 : Int) ≤ z0 ∧ z0 ≤ 9223372036854775807; omega)⟩, _, _, rfl, g1, gv⟩
      obtain ⟨z0', n1', c1', dv', a1, p1, y0, y1, y2, m3, e3, m4, e4, a3, p3, a4, p4, hR', -, -, hdv, k3, k4, rfl, s1, hv⟩ := hh.op htr
      rw [hR] at hR'
      cases hR'
      have q0 : wr.cell? ⟨b, off + q * 7, none⟩ = some (.int .i64 z0) := hcl 0 _ rfl
      have q1 : wr.cell? ⟨b, off + q * 7 + 1, none⟩ = some (.slice a1 n1 p1) := hcl 1 _ rfl
      have q2 : wr.cell? ⟨b, off + q * 7 + 2, none⟩ = some (.int .i64 y0) := hcl 2 _ rfl
      have q3 : wr.cell? ⟨b, off + q * 7 + 2 + 1, none⟩ = some (.string y1) := hcl 3 _ rfl
      have q4 : wr.cell? ⟨b, off + q * 7 + 2 + 2, none⟩ = some (.int .i64 y2) := hcl 4 _ rfl
      have q5 : wr.cell? ⟨b, off + q * 7 + 2 + 3, none⟩ = some (.slice a3 m3 p3) := hcl 5 _ rfl
      have q6 : wr.cell? ⟨b, off + q * 7 + 2 + 4, none⟩ = some (.slice a4 m4 p4) := hcl 6 _ rfl
      obtain ⟨zi, WD, hzi, hz4, hWD, hW5, uw⟩ : ∃ (zi : Nat) (WD : ByteArray), z0 = (zi : Int) ∧ (0 < zi ∧ zi < 4) ∧ Hid (WD = wdB z0) ∧ WD.size ≤ 5 ∧ wr.cell? ⟨w1.heap.size, zi, none⟩ = some (.string WD) := by
        have hz : z0 = 1 ∨ z0 = 2 ∨ z0 = 3 := by rcases hk with ⟨h | h, _⟩ | h <;> omega
        rcases hz with rfl | rfl | rfl
        · exact ⟨1, _, rfl, by omega, rfl, wdB_size 1, OW.out.cell 1 _ rfl⟩
        · exact ⟨2, _, rfl, by omega, rfl, wdB_size 2, OW.out.cell 2 _ rfl⟩
        · exact ⟨3, _, rfl, by omega, rfl, wdB_size 3, OW.out.cell 3 _ rfl⟩
      have hl1 := strL_len g1
      obtain ⟨pb, poff, ha1, -, hpm⟩ := s1.cells (by omega)
      subst ha1
      have hpc : Hid (∀ k (h : k < (strL c1).length), wr.cell? ⟨pb, poff + k, none⟩ = some (.string ((strL c1)[k]'h))) := fun k h => txt_at g1 s1 k h
      have hps : Hid (∀ k (h : k < (strL c1).length), ((strL c1)[k]'h).size ≤ 20) := fun k h => name_size (hnm k h)
      have hnext := Hps.out (q + 1) (by omega)
      have hlu : ptxTo cs T (q + 1) = S ++ (opB z0 c1 (T q) ++ ⟨#[10]⟩) := by rw [HS.out]; show _ ++ lineU _ _ = _; rw [hR]; rfl
      rw [hlu] at hnext
      have HJ := uhide (nm_jn hnm (by omega))
      have HK := uhide hk
      have HV := uhide hv
      have HX2 : Hid (ptxTo cs T (q + 1) = S ++ (opB z0 c1 (T q) ++ ⟨#[10]⟩)) := hlu
      have Hnext := uhide hnext
      have hn18 : n1 ≤ 5 := hn1.2
      have Hl1 := uhide hl1
      clear hm hh hcl hR htr g1 gv hnm hk hv s1 hpm hdv k3 k4 hnext hlu Hps HS hn1 hl1 HT
      subst hzi
      have hz41 := hz4.1
      have hz42 := hz4.2
      have HE : Hid (∀ k (h : k < (strL c1).length), k = 0 → ∀ X : ByteArray, X = (S ++ WD) ++ jn 47 ((strL c1).take k) → X ++ (strL c1)[k]'h = (S ++ WD) ++ jn 47 ((strL c1).take (k + 1))) := fun k h hk X hX => by rw [hX]; exact sl_zero _ _ k h hk
      have HF : Hid (∀ k (h : k < (strL c1).length), 0 < k → ∀ X : ByteArray, X = (S ++ WD) ++ jn 47 ((strL c1).take k) → (X ++ ⟨#[47]⟩) ++ (strL c1)[k]'h = (S ++ WD) ++ jn 47 ((strL c1).take (k + 1))) := fun k h hk X hX => by rw [hX]; exact sl_succ _ _ k h hk
      have HSZ : Hid (∀ k, k ≤ (strL c1).length → ∀ X : ByteArray, X = (S ++ WD) ++ jn 47 ((strL c1).take k) → X.size ≤ 1600000) := fun k hk X hX => by
        have := HJ.out k hk
        rw [hX, ByteArray.size_append, ByteArray.size_append]; omega
      go_wp2
      go_loop [4, 6] (fun s j => ∃ (k : Nat) (X : ByteArray), k ≤ n1 ∧ j = .int .i64 k ∧ s = .string X ∧ X.size ≤ 1600000 ∧ Hid (X = (S ++ WD) ++ jn 47 ((strL c1).take k))) (fun _ j => n1 - (intOf j).toNat)
      case atStart =>
        have h0 : S ++ WD = (S ++ WD) ++ jn 47 ((strL c1).take 0) := by rw [List.take_zero, jn_nil, bs_none]
        exact ⟨0, _, Nat.zero_le _, rfl, rfl, HSZ.out 0 (Nat.zero_le _) _ h0, h0⟩
      case round =>
        obtain ⟨k, X, hk, rfl, rfl, hX, HX⟩ := hrel
        by_cases hlk : k < n1
        · have hkl : k < (strL c1).length := by have := Hl1.out; omega
          have hcell := hpc.out k hkl
          have hsz20 := hps.out k hkl
          by_cases hk0 : k = 0
          · have HN := uhide (HE.out k hkl hk0 X HX.out)
            have HN2 := HSZ.out (k + 1) (by omega) _ HN.out
            have g0 : decide ((0 : Int) < (k : Int)) = false := by rw [decide_eq_false_iff_not]; omega
            have g1 : (k : Int) ≤ 0 := by omega
            generalize (strL c1)[k]'hkl = TX at *
            clear hk0 HX HE HF
            go_wp2
            go_round
            case rel => exact ⟨k + 1, _, by omega, by go_num, rfl, HN2, HN⟩
            case measure => simp [intOf]; omega
          · have HN := uhide (HF.out k hkl (by omega) X HX.out)
            have HN2 := HSZ.out (k + 1) (by omega) _ HN.out
            have g1 : (0 : Int) < (k : Int) := by omega
            generalize (strL c1)[k]'hkl = TX at *
            clear hk0 HX HE HF
            go_wp2
            go_round
            case rel => exact ⟨k + 1, _, by omega, by go_num, rfl, HN2, HN⟩
            case measure => simp [intOf]; omega
        · have ek : k = n1 := by omega
          subst ek
          have HXX : Hid (X = (S ++ WD) ++ jn 47 (strL c1)) := by show _ = _; rw [HX.out, List.take_of_length_le (by have := Hl1.out; omega)]
          clear HE HF HSZ HX hpc hps HJ
          by_cases h2 : zi = 2
          · subst h2
            have HL : Hid (X ++ ⟨#[10]⟩ = ptxTo cs T (q + 1)) := by
              show _ = _
              rw [HX2.out, HXX.out, hWD.out]
              unfold opB
              rw [if_pos (by rfl)]
              simp only [bs_assoc]
            have HLz : (X ++ ⟨#[10]⟩).size ≤ 1540020 := by rw [HL.out, HX2.out]; exact Hnext.out _ rfl
            clear HX2 HXX Hnext HK HV
            go_wp2
            go_roundw
            case rel => exact ⟨q + 1, _, by omega, by go_num, rfl, HLz, HL, OW, HB⟩
            case measure => simp [intOf]; omega
          · have f2 : ((zi : Int) != 2) = true := by rw [bne_iff_ne]; omega
            have HL : Hid (((X ++ ⟨#[32]⟩) ++ T q) ++ ⟨#[10]⟩ = ptxTo cs T (q + 1)) := by
              show _ = _
              rw [HX2.out, HXX.out, hWD.out]
              unfold opB
              rw [if_neg (by omega)]
              simp only [bs_assoc]
            have HLz : (((X ++ ⟨#[32]⟩) ++ T q) ++ ⟨#[10]⟩).size ≤ 1540020 := by rw [HL.out, HX2.out]; exact Hnext.out _ rfl
            have HC : Hid (∀ wx, Below wr.heap.size wr wx → Calls Tryd.prog 11 #[.agg #[.int .i64 y0, .string y1, .int .i64 y2, .slice a3 m3 p3, .slice a4 m4 p4]] wx fun e w' => e = .returned (.string (T q)) ∧ Below wx.heap.size wx w') := fun wx hb => (HK.out.resolve_right (by omega)).2.1 wx lo hi _ (HV.out.below hb)
            have hTs := hTz
            clear HX2 HXX Hnext HK HV
            generalize T q = TQ at *
            go_wp2_with fail
            refine (HC.out _ (by repeat (first | with_reducible exact Below.refl _ _))).mono ?_
            rintro e w2 ⟨rfl, hb2⟩
            have OW2 := uhide (OW.out.below hb2)
            have HB2 : Hid (Below w.heap.size w w2) := HB.out.trans (hb2.mono HB.out.size)
            clear hb2
            go_wp2
            go_roundw
            case rel => exact ⟨q + 1, _, by omega, by go_num, rfl, HLz, HL, OW2, HB2⟩
            case measure => simp [intOf]; omega
    · have e1 : q = n := by omega
      subst e1
      clear Hps HT
      go_wp2
      go_ret
      exact ⟨ret_str HS.out, HB.out⟩
end Go.Proofs.YtkdiinjkpmkcpaaDoor
