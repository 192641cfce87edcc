/- impl.opText, impl.PatchText. -/
import Derived.Test.YtkdiinjkpmkcpaaDoorPtS
import Derived.Deep.RegionHeld3
namespace Go.Proofs.YtkdiinjkpmkcpaaDoor
open Go.RowKit Go.BigFrame
set_option linter.unusedVariables false

/-- the tables that the program reads: the digits' and the words of ops -/
structure PTab (w : World) : Prop where
  tbs : ∃ m, Tbs m w
  wd : ∀ zi : Nat, 0 < zi → zi < 4 → w.cell? ⟨0, zi, none⟩ = some (.string (wd0 zi))
theorem PTab.below {w w' : World} (h : PTab w) (hb : Below w.heap.size w w') : PTab w' := by
  obtain ⟨⟨m, h1⟩, h2⟩ := h
  exact ⟨⟨m, h1.below hb⟩, fun zi h0 h4 => (hb.cell (p := ⟨0, zi, none⟩) (World.block_lt_of_cell? _ _ (h2 zi h0 h4))).trans (h2 zi h0 h4)⟩
theorem wd0_size (z0 : Int) : (wd0 z0).size ≤ 4 := by
  unfold wd0
  split
  · exact Nat.le_succ 3
  · split
    · exact Nat.le_refl 4
    · exact Nat.le_refl 4
theorem strOf_u {w : World} {lo hi n : Nat} {c : UD} {a : Option Addr} {cap : Nat} (ht : tyS 1 n c 0) (h : uS w lo hi 1 n c (.slice a n cap)) : strOf w a (strL c) ∧ n ≤ cap := by
  have h' := h
  obtain ⟨a', cap', e, g1, _⟩ := h'
  cases e
  refine ⟨fun hp => ?_, g1.1⟩
  have hl := strL_len ht
  obtain ⟨b, off, rfl, _, _⟩ := h.cells (by omega)
  exact ⟨b, off, rfl, fun i hi => txt_at ht h i hi⟩
set_option maxRecDepth 20000 in
set_option maxHeartbeats 3200000 in
theorem opText_any (z0 : Int) (n1 : Nat) (c1 dv : UD) (a1 : Option Addr) (p1 : Nat) (y0 : Int) (y1 : ByteArray) (y2 : Int) (m3 : Nat) (a3 : Option Addr) (p3 : Nat) (m4 : Nat) (a4 : Option Addr) (p4 : Nat) (t : ByteArray) (lo hi : Nat) (w : World)
    (g1 : tyS 1 n1 c1 0) (hn1 : 1 ≤ n1 ∧ n1 ≤ 5) (hnm : allNm c1) (hk : (z0 = 1 ∨ z0 = 3) ∧ txI dv t ∨ z0 = 2) (ht : t.size ≤ 76800) (s1 : uS w lo hi 1 n1 c1 (.slice a1 n1 p1)) (hv : uH w lo hi dv [.int .i64 y0, .string y1, .int .i64 y2, .slice a3 m3 p3, .slice a4 m4 p4]) (hp : PTab w) :
    Calls Tryd.prog 14 #[.agg #[.int .i64 z0, .slice a1 n1 p1, .int .i64 y0, .string y1, .int .i64 y2, .slice a3 m3 p3, .slice a4 m4 p4]] w fun e w' => e = .returned (.string (opB z0 c1 t)) ∧ Below w.heap.size w w' := by
  obtain ⟨zi, hzi, hz41, hz42⟩ : ∃ zi : Nat, z0 = (zi : Int) ∧ 0 < zi ∧ zi < 4 := by
    rcases hk with ⟨h | h, _⟩ | h
    · exact ⟨1, h, by omega⟩
    · exact ⟨3, h, by omega⟩
    · exact ⟨2, h, by omega⟩
  subst hzi
  have hl := strL_len g1
  have HJ : Hid (∀ wx, Below w.heap.size w wx → Calls Tryd.prog 28 #[.slice a1 n1 p1, .string ⟨#[47]⟩] wx fun e w' => e = .returned (.string (jn 47 (strL c1))) ∧ Below wx.heap.size wx w') := fun wx hb => by
    obtain ⟨h1, h2⟩ := strOf_u g1 (s1.below hb)
    have := join_of a1 p1 (strL c1) 47 wx (by omega) (by omega) (by have := nm_jn hnm (by omega) _ (Nat.le_refl _); rw [List.take_length] at this; omega) h1
    rw [hl] at this
    exact this
  have hjs : (jn 47 (strL c1)).size ≤ 105 := by have := nm_jn hnm (by omega) _ (Nat.le_refl _); rwa [List.take_length] at this
  have HV : Hid (¬ zi = 2 → ∀ wx, Below w.heap.size w wx → Calls Tryd.prog 29 #[.agg #[.int .i64 y0, .string y1, .int .i64 y2, .slice a3 m3 p3, .slice a4 m4 p4]] wx fun e w' => e = .returned (.string t) ∧ Below wx.heap.size wx w') := fun h2 wx hb => by
    obtain ⟨m, hm⟩ := (hp.below hb).tbs
    exact (hk.resolve_right (by omega)).2 m wx lo hi _ hm (hv.below hb)
  have hwd := hp.wd zi hz41 hz42
  have hws := wd0_size zi
  have HO : Hid (opB zi c1 t = if (zi : Int) = 2 then ((wd0 zi ++ ⟨#[32]⟩) ++ jn 47 (strL c1)) else ((((wd0 zi ++ ⟨#[32]⟩) ++ jn 47 (strL c1)) ++ ⟨#[32]⟩) ++ t)) := by
    show _ = _
    rw [wd_blank]; rfl
  have hgl : 0 < w.heap.size := World.block_lt_of_cell? _ _ hwd
  generalize jn 47 (strL c1) = JN at *
  generalize wd0 zi = WD at *
  generalize opB zi c1 t = RES at *
  have HBA : Hid (∀ o, Below w.heap.size w (w.alloc o)) := fun o => (Below.refl _ _).alloc (Nat.le_refl _) _
  have OB : Hid (objU (w.alloc (.cells #[.int .i64 zi, .slice a1 n1 p1, .int .i64 y0, .string y1, .int .i64 y2, .slice a3 m3 p3, .slice a4 m4 p4] 41)) w.heap.size 41 [.int .i64 zi, .slice a1 n1 p1, .int .i64 y0, .string y1, .int .i64 y2, .slice a3 m3 p3, .slice a4 m4 p4]) := objU.new _ _ _
  have hwd1 : (w.alloc (.cells #[.int .i64 zi, .slice a1 n1 p1, .int .i64 y0, .string y1, .int .i64 y2, .slice a3 m3 p3, .slice a4 m4 p4] 41)).cell? ⟨0, zi, none⟩ = some (.string WD) := ((HBA.out _).cell (p := ⟨0, zi, none⟩) hgl).trans hwd
  have HW1 := uhide (HBA.out (.cells #[.int .i64 zi, .slice a1 n1 p1, .int .i64 y0, .string y1, .int .i64 y2, .slice a3 m3 p3, .slice a4 m4 p4] 41))
  clear g1 hn1 hnm hk s1 hv hp hl hwd HBA
  go_enter Tryd.func14, Tryd.ntmps14
  go_wp2
  generalize w.alloc (.cells #[.int .i64 zi, .slice a1 n1 p1, .int .i64 y0, .string y1, .int .i64 y2, .slice a3 m3 p3, .slice a4 m4 p4] 41) = w1 at *
  have x0 := OB.out.cell 0 _ rfl
  have x1 := OB.out.cell 1 _ rfl
  have hi0 : (0 : Int) ≤ (zi : Int) := by omega
  have hi4 : (zi : Int) < 4 := by omega
  have hs1 : ¬ (9223372036854775807 < WD.size + 1) := by omega
  have hs1' : ¬ (9223372036854775807 < WD.size + (⟨#[32]⟩ : ByteArray).size) := by rw [one_size]; omega
  have hs2 : ¬ (9223372036854775807 < WD.size + 1 + JN.size) := by omega
  have hs2' : ¬ (9223372036854775807 < (WD ++ ⟨#[32]⟩).size + JN.size) := by rw [ByteArray.size_append, one_size]; omega
  by_cases h2 : zi = 2
  · have f2 : ((zi : Int) == 2) = true := by rw [beq_iff_eq]; omega
    have HRES : Hid (RES = (WD ++ ⟨#[32]⟩) ++ JN) := by
      show _ = _
      rw [HO.out, if_pos (by omega)]
    clear HO HV h2
    go_region_held3 (fun w' => w'.cell? ⟨w.heap.size, 0, none⟩ = some (.int .i64 zi) ∧ w'.cell? ⟨w.heap.size, 1, none⟩ = some (.slice a1 n1 p1) ∧ w'.cell? ⟨0, zi, none⟩ = some (.string WD)) (first | assumption | exact ⟨z0', z1', z2'⟩ | go_keep)
      (first
        | (go_at_call 28; refine (HJ.out _ (by repeat (first | with_reducible exact HW1.out | with_reducible refine Below.drew ?_ | with_reducible refine below_drewN ?_ _))).mono ?_; rintro e w2 ⟨rfl, hb2⟩; have HB2 : Hid (Below w1.heap.size w1 w2) := Below.trans (by repeat (first | with_reducible exact Below.refl _ _ | with_reducible refine Below.drew ?_ | with_reducible refine below_drewN ?_ _)) (hb2.mono (by (try simp) <;> omega)); have z0' := (OB.out.below HB2.out).cell 0 _ rfl; have z1' := (OB.out.below HB2.out).cell 1 _ rfl; have z2' := (HB2.out.cell (p := ⟨0, zi, none⟩) (World.block_lt_of_cell? _ _ hwd1)).trans hwd1; have v2 := (OB.out.below HB2.out).cell 2 _ rfl; have v3 := (OB.out.below HB2.out).cell 3 _ rfl; have v4 := (OB.out.below HB2.out).cell 4 _ rfl; have v5 := (OB.out.below HB2.out).cell 5 _ rfl; have v6 := (OB.out.below HB2.out).cell 6 _ rfl; clear hb2))
    go_wp2
    go_ret
    exact ⟨ret_str HRES.out.symm, HW1.out.trans (Below.mono (by repeat (first | with_reducible exact HB2.out | with_reducible refine Below.drew ?_ | with_reducible refine below_drewN ?_ _)) HW1.out.size)⟩
  · have f2 : ((zi : Int) == 2) = false := by rw [beq_eq_false_iff_ne]; omega
    have HRES : Hid (RES = (((WD ++ ⟨#[32]⟩) ++ JN) ++ ⟨#[32]⟩) ++ t) := by
      show _ = _
      rw [HO.out, if_neg (by omega)]
    have HV2 := uhide (HV.out h2)
    clear HO HV h2
    go_region_held3 (fun w' => w'.cell? ⟨w.heap.size, 0, none⟩ = some (.int .i64 zi) ∧ w'.cell? ⟨w.heap.size, 1, none⟩ = some (.slice a1 n1 p1) ∧ w'.cell? ⟨0, zi, none⟩ = some (.string WD)) (first | assumption | exact ⟨z0', z1', z2'⟩ | go_keep)
      (first
        | (go_at_call 28; refine (HJ.out _ (by repeat (first | with_reducible exact HW1.out | with_reducible refine Below.drew ?_ | with_reducible refine below_drewN ?_ _))).mono ?_; rintro e w2 ⟨rfl, hb2⟩; have HB2 : Hid (Below w1.heap.size w1 w2) := Below.trans (by repeat (first | with_reducible exact Below.refl _ _ | with_reducible refine Below.drew ?_ | with_reducible refine below_drewN ?_ _)) (hb2.mono (by (try simp) <;> omega)); have z0' := (OB.out.below HB2.out).cell 0 _ rfl; have z1' := (OB.out.below HB2.out).cell 1 _ rfl; have z2' := (HB2.out.cell (p := ⟨0, zi, none⟩) (World.block_lt_of_cell? _ _ hwd1)).trans hwd1; have v2 := (OB.out.below HB2.out).cell 2 _ rfl; have v3 := (OB.out.below HB2.out).cell 3 _ rfl; have v4 := (OB.out.below HB2.out).cell 4 _ rfl; have v5 := (OB.out.below HB2.out).cell 5 _ rfl; have v6 := (OB.out.below HB2.out).cell 6 _ rfl; clear hb2))
    go_wp2_with fail
    refine (HV2.out _ (HW1.out.trans (Below.mono (by repeat (first | with_reducible exact HB2.out | with_reducible refine Below.drew ?_ | with_reducible refine below_drewN ?_ _)) HW1.out.size))).mono ?_
    rintro e w3 ⟨rfl, hb3⟩
    have HB3 : Hid (Below w1.heap.size w1 w3) := Below.trans (by repeat (first | with_reducible exact HB2.out | with_reducible refine Below.drew ?_ | with_reducible refine below_drewN ?_ _)) (hb3.mono (by (try simp) <;> exact HB2.out.size))
    clear hb3
    go_wp2
    go_ret
    exact ⟨ret_str HRES.out.symm, HW1.out.trans (HB3.out.mono HW1.out.size)⟩
set_option maxRecDepth 20000 in
set_option maxHeartbeats 3200000 in
theorem iPatchText_any (n : Nat) (cs : UD) (c : Value) (S : List Nat) (lo hi : Nat) (w : World) (f : Nat → Bool) (T : Nat → ByteArray) (r : Bool) (ht : tyS 7 n cs 7) (ho : oS w 7 n cs c S) (hS : own2 S lo hi) (hw : n + wt cs ≤ 1048576) (hf : ∀ q, q < n → ∀ z0 n1 c1 dv, rowU cs 7 q = .p z0 (.l 1 n1 c1 dv) → vokI dv (f q)) (hr : r = true ↔ n ≤ 20 ∧ ∀ q, q < n → okU (rowU cs 7 q) (f q)) (hT : r = true → ∀ q, q < n → RowT cs T q) (hp : PTab w) :
    Calls Tryd.prog 7 #[c] w fun e w' => e = .returned (.string (if r = true then ptxTo cs T n else ⟨#[]⟩)) ∧ Below w.heap.size w w' := by
  have HP := uhide (iPatchOk_any n cs c S lo hi w f r ht ho hS hw hf hr)
  have hx : uS w 0 w.heap.size 7 n cs c := ho.u (fun g hg => ⟨Nat.zero_le _, ho.lt g hg⟩)
  obtain ⟨a, cap, rfl, hx2⟩ := hx
  have Hx : Hid (uS w 0 w.heap.size 7 n cs (.slice a n cap)) := ⟨_, _, rfl, hx2⟩
  have hn : n ≤ 1048576 := by omega
  have Hp := uhide hp
  cases r
  · clear ht hx2 ho hS hw hf hr hT Hx hp
    rw [if_neg (by decide)]
    go_enter Tryd.func7, Tryd.ntmps7
    go_wp2_with fail
    refine HP.out.mono ?_
    rintro e w1 ⟨rfl, hb⟩
    go_wp2
    go_ret
    exact ⟨rfl, hb⟩
  rw [if_pos rfl]
  have hn20 : n ≤ 20 := (hr.1 rfl).1
  have HT := uhide (hT rfl)
  have Hps : Hid (∀ k, k ≤ n → ∀ S : ByteArray, S = ptxTo cs T k → S.size ≤ 1540020) := fun k hk S hS => by
    rw [hS]
    have := ptx_size (hT rfl) k hk
    have := Nat.mul_le_mul_left 77001 (Nat.le_trans hk hn20)
    omega
  clear ht hx2 ho hS hw hf hr hT hp
  go_enter Tryd.func7, Tryd.ntmps7
  go_wp2_with fail
  refine HP.out.mono ?_
  rintro e w1 ⟨rfl, hb⟩
  have HB1 := uhide hb
  clear hb HP
  go_wp2
  go_loopw [3, 11] (fun s i wr => ∃ (q : Nat) (S : ByteArray), q ≤ n ∧ i = .int .i64 q ∧ s = .string S ∧ S.size ≤ 1540020 ∧ Hid (S = ptxTo cs T q) ∧ Hid (Below w.heap.size w wr)) (fun _ i _ => n - (intOf i).toNat)
  case atStart => exact ⟨0, ⟨#[]⟩, Nat.zero_le _, rfl, rfl, by decide, rfl, HB1⟩
  case round =>
    clear HB1
    obtain ⟨q, S, hq, rfl, rfl, hS, HS, HB⟩ := hrel
    by_cases hlt : q < n
    · obtain ⟨b, off, rfl, hbb, hm⟩ := (Hx.out.below HB.out).cells (by omega)
      obtain ⟨hTz, z0, n1, c1, dv, hR, g1, gv, hn1, hnm, hk⟩ := HT.out q hlt
      obtain ⟨xs, hh, hcl⟩ := (hm.row 7 q).hand
      have htr : tyL (rowU cs 7 q) (uE 7) := by rw [hR]; exact ⟨_, _, rfl, ⟨z0, rfl, by rcases hk with ⟨h | h, _⟩ | h <;> (show (-9223372036854775808 : Int) ≤ z0 ∧ z0 ≤ 9223372036854775807; omega)⟩, _, _, rfl, g1, gv⟩
      obtain ⟨z0', n1', c1', dv', a1, p1, y0, y1, y2, m3, e3, m4, e4, a3, p3, a4, p4, hR', -, -, hdv, k3, k4, rfl, s1, hv⟩ := hh.op htr
      rw [hR] at hR'
      cases hR'
      have q0 : wr.cell? ⟨b, off + q * 7, none⟩ = some (.int .i64 z0) := hcl 0 _ rfl
      have q1 : wr.cell? ⟨b, off + q * 7 + 1, none⟩ = some (.slice a1 n1 p1) := hcl 1 _ rfl
      have q2 : wr.cell? ⟨b, off + q * 7 + 2, none⟩ = some (.int .i64 y0) := hcl 2 _ rfl
      have q3 : wr.cell? ⟨b, off + q * 7 + 3, none⟩ = some (.string y1) := hcl 3 _ rfl
      have q4 : wr.cell? ⟨b, off + q * 7 + 4, none⟩ = some (.int .i64 y2) := hcl 4 _ rfl
      have q5 : wr.cell? ⟨b, off + q * 7 + 5, none⟩ = some (.slice a3 m3 p3) := hcl 5 _ rfl
      have q6 : wr.cell? ⟨b, off + q * 7 + 6, none⟩ = some (.slice a4 m4 p4) := hcl 6 _ rfl
      have HC : Hid (∀ wx, Below wr.heap.size wr wx → Calls Tryd.prog 14 #[.agg #[.int .i64 z0, .slice a1 n1 p1, .int .i64 y0, .string y1, .int .i64 y2, .slice a3 m3 p3, .slice a4 m4 p4]] wx fun e w' => e = .returned (.string (opB z0 c1 (T q))) ∧ Below wx.heap.size wx w') := fun wx hb => opText_any z0 n1 c1 dv a1 p1 y0 y1 y2 m3 a3 p3 m4 a4 p4 (T q) _ _ wx g1 hn1 hnm (hk.imp (fun h => ⟨h.1, h.2.2⟩) id) hTz (s1.below hb) (hv.below hb) (Hp.out.below (HB.out.trans (hb.mono HB.out.size)))
      have hos := opB_size (z0 := z0) hnm (by rw [strL_len g1]; exact hn1.2) hTz
      have HL : Hid (S ++ (opB z0 c1 (T q) ++ ⟨#[10]⟩) = ptxTo cs T (q + 1)) := by
        show _ = _
        rw [HS.out]
        show _ = _ ++ lineU _ _
        rw [hR]; rfl
      have HLz := Hps.out (q + 1) (by omega) _ HL.out
      have HA : Hid (∀ o, Below wr.heap.size wr (wr.alloc o)) := fun o => (Below.refl _ _).alloc (Nat.le_refl _) _
      clear hm hh hcl hR htr g1 gv hnm hk hv s1 hdv k3 k4 Hps HS hn1 HT hTz
      generalize opB z0 c1 (T q) = OT at *
      go_wp2_with fail
      refine (HC.out _ (HA.out _)).mono ?_
      rintro e w2 ⟨rfl, hb2⟩
      have HB2 : Hid (Below w.heap.size w w2) := HB.out.trans (((HA.out _).trans (hb2.mono (by simp))).mono HB.out.size)
      clear hb2
      go_wp2
      go_roundw
      case rel => exact ⟨q + 1, _, by omega, by go_num, rfl, HLz, HL, HB2⟩
      case measure => simp [intOf]; omega
    · have e1 : q = n := by omega
      subst e1
      clear Hps HT
      go_wp2
      go_ret
      exact ⟨ret_str HS.out, HB.out⟩
end Go.Proofs.YtkdiinjkpmkcpaaDoor
