/- Data as cells: the helpers of the laws over Obj. -/
import Derived.Test.YtamlgjmboljcdaaGreatULeaf
import Derived.Test.YtamlgjmboljcdaaGreatULd
import Derived.Test.YtamlgjmboljcdaaGreatUFObj
import Derived.Test.YtamlgjmboljcdaaGreatUTValue
namespace Go.Proofs.YtamlgjmboljcdaaGreat
open Go.RowKit Go.BigFrame
set_option linter.unusedVariables false

set_option maxRecDepth 20000 in
set_option maxHeartbeats 1600000 in
theorem uheldObjS_any {lo hi : Nat} (n k0 : Nat) (cs : UD) (c : Value) (w : World) (ht : tyS 17 n cs 8) (hk0 : 1 ≤ k0) (hk1 : k0 + cnt cs ≤ 100000000) (hx : uS w lo hi 17 n (mk cs k0) c) :
    Calls Tryz.prog 122 #[c, .int .i64 k0] w fun e w' => e = .returned (.int .i64 (k0 + cnt cs : Nat)) ∧ Below w.heap.size w w' := by
  obtain ⟨a, cap, rfl, hx2⟩ := hx
  have Hx : Hid (uS w lo hi 17 n (mk cs k0) (.slice a n cap)) := ⟨a, cap, rfl, hx2⟩
  have hmx := ht.2.2.1
  unfold maxLen at hmx
  have Ht := uhide ht
  have Hkk : Hid (∀ q, k0 + cnt (cs.takeN (q * 17)) ≤ 100000000) := fun q => by have := cnt_le cs (q * 17); omega
  clear hx2 ht
  go_enter Tryz.func122, Tryz.ntmps122
  go_wp2
  go_loopw [1, 5] (fun s i wr => ∃ (q : Nat), q ≤ n ∧ i = .int .i64 q ∧ s = .int .i64 (k0 + cnt (cs.takeN (q * 17)) : Nat) ∧ Below w.heap.size w wr) (fun _ i _ => n - (intOf i).toNat)
  case atStart => exact ⟨0, Nat.zero_le _, rfl, by rw [Nat.zero_mul]; rfl, Below.refl _ _⟩
  case round =>
    obtain ⟨q, hq, rfl, rfl, hbw⟩ := hrel
    by_cases hlt : q < n
    · obtain ⟨b, off, rfl, hbb, hm⟩ := (Hx.out.below hbw).cells (by omega)
      have htr := Ht.out.row hlt
      have hsz := uszD_row cs 17 q
      have hkn := cnt_row cs 17 q
      have hkb := Hkk.out (q + 1)
      have hkr := hkn
      have hrow := hm.row 17 q
      rw [mk_row] at hrow
      obtain ⟨z0, z1, z2, z3, z4, z5, n6, c6, z7, z8, z9, n10, c10, n11, c11, z12, z13, z14, n15, c15, n16, c16, hR, g0, g1, g2, g3, g4, g6, g7, g8, g9, g10, g11, g12, g13, g14, g15, g16⟩ := partsObj htr
      rw [hR] at hrow hkn hsz
      simp only [cnt, Nat.add_zero] at hkn
      obtain ⟨xs, hh, hcl⟩ := hrow.hand
      obtain ⟨_, rfl, ⟨_, rfl, ⟨_, rfl, ⟨_, rfl, ⟨_, rfl, ⟨_, rfl, ⟨v6, _, rfl, s6, ⟨_, rfl, ⟨_, rfl, ⟨_, rfl, ⟨v10, _, rfl, s10, ⟨v11, _, rfl, s11, ⟨_, rfl, ⟨_, rfl, ⟨_, rfl, ⟨v15, _, rfl, s15, ⟨v16, _, rfl, s16, rfl⟩⟩⟩⟩⟩⟩⟩⟩⟩⟩⟩⟩⟩⟩⟩⟩⟩ := hh
      obtain ⟨a6, p6, rfl, t6⟩ := s6
      obtain ⟨a10, p10, rfl, t10⟩ := s10
      obtain ⟨a11, p11, rfl, t11⟩ := s11
      obtain ⟨a15, p15, rfl, t15⟩ := s15
      obtain ⟨a16, p16, rfl, t16⟩ := s16
      generalize hKd : k0 + cnt (cs.takeN (q * 17)) = kq at *
      have hK0 : 1 ≤ kq := by omega
      have hend : k0 + cnt (cs.takeN ((q + 1) * 17)) = (((((((((((((((((kq + 1) + 1) + 1) + 1) + 1) + 1) + cnt c6) + 1) + 1) + 1) + cnt c10) + cnt c11) + 1) + 1) + 1) + cnt c15) + cnt c16) := by rw [hkn]; omega
      rw [hend] at hkb
      have q0 : wr.cell? ⟨b, off + q * 17, none⟩ = some (.int .i64 (kq : Nat)) := (show wr.cell? ⟨b, off + q * 17, none⟩ = _ from hcl 0 _ rfl).trans (congrArg some (mkP_int _ _ (by omega)))
      have q1 : wr.cell? ⟨b, off + q * 17 + 1, none⟩ = some (.string (umtx (kq + 1))) := hcl 1 _ rfl
      have q2 : wr.cell? ⟨b, off + q * 17 + 2, none⟩ = some (.int .i64 (((kq + 1) + 1) : Nat)) := (show wr.cell? ⟨b, off + q * 17 + 2, none⟩ = _ from hcl 2 _ rfl).trans (congrArg some (mkP_int _ _ (by omega)))
      have q3 : wr.cell? ⟨b, off + q * 17 + 3, none⟩ = some (.int .i64 ((((kq + 1) + 1) + 1) : Nat)) := (show wr.cell? ⟨b, off + q * 17 + 3, none⟩ = _ from hcl 3 _ rfl).trans (congrArg some (mkP_int _ _ (by omega)))
      have q4 : wr.cell? ⟨b, off + q * 17 + 4, none⟩ = some (.int .i64 (((((kq + 1) + 1) + 1) + 1) : Nat)) := (show wr.cell? ⟨b, off + q * 17 + 4, none⟩ = _ from hcl 4 _ rfl).trans (congrArg some (mkP_int _ _ (by omega)))
      have q5 : wr.cell? ⟨b, off + q * 17 + 5, none⟩ = some (.bool ((((((kq + 1) + 1) + 1) + 1) + 1) % 3 == 0)) := hcl 5 _ rfl
      have q6 : wr.cell? ⟨b, off + q * 17 + 6, none⟩ = some (.slice a6 n6 p6) := hcl 6 _ rfl
      have q7 : wr.cell? ⟨b, off + q * 17 + 7, none⟩ = some (.int .i64 ((((((((kq + 1) + 1) + 1) + 1) + 1) + 1) + cnt c6) : Nat)) := (show wr.cell? ⟨b, off + q * 17 + 7, none⟩ = _ from hcl 7 _ rfl).trans (congrArg some (mkP_int _ _ (by omega)))
      have q8 : wr.cell? ⟨b, off + q * 17 + 8, none⟩ = some (.string (umtx ((((((((kq + 1) + 1) + 1) + 1) + 1) + 1) + cnt c6) + 1))) := hcl 8 _ rfl
      have q9 : wr.cell? ⟨b, off + q * 17 + 9, none⟩ = some (.int .i64 ((((((((((kq + 1) + 1) + 1) + 1) + 1) + 1) + cnt c6) + 1) + 1) : Nat)) := (show wr.cell? ⟨b, off + q * 17 + 9, none⟩ = _ from hcl 9 _ rfl).trans (congrArg some (mkP_int _ _ (by omega)))
      have q10 : wr.cell? ⟨b, off + q * 17 + 10, none⟩ = some (.slice a10 n10 p10) := hcl 10 _ rfl
      have q11 : wr.cell? ⟨b, off + q * 17 + 11, none⟩ = some (.slice a11 n11 p11) := hcl 11 _ rfl
      have q12 : wr.cell? ⟨b, off + q * 17 + 12, none⟩ = some (.int .i64 (((((((((((((kq + 1) + 1) + 1) + 1) + 1) + 1) + cnt c6) + 1) + 1) + 1) + cnt c10) + cnt c11) : Nat)) := (show wr.cell? ⟨b, off + q * 17 + 12, none⟩ = _ from hcl 12 _ rfl).trans (congrArg some (mkP_int _ _ (by omega)))
      have q13 : wr.cell? ⟨b, off + q * 17 + 13, none⟩ = some (.string (umtx (((((((((((((kq + 1) + 1) + 1) + 1) + 1) + 1) + cnt c6) + 1) + 1) + 1) + cnt c10) + cnt c11) + 1))) := hcl 13 _ rfl
      have q14 : wr.cell? ⟨b, off + q * 17 + 14, none⟩ = some (.int .i64 (((((((((((((((kq + 1) + 1) + 1) + 1) + 1) + 1) + cnt c6) + 1) + 1) + 1) + cnt c10) + cnt c11) + 1) + 1) : Nat)) := (show wr.cell? ⟨b, off + q * 17 + 14, none⟩ = _ from hcl 14 _ rfl).trans (congrArg some (mkP_int _ _ (by omega)))
      have q15 : wr.cell? ⟨b, off + q * 17 + 15, none⟩ = some (.slice a15 n15 p15) := hcl 15 _ rfl
      have q16 : wr.cell? ⟨b, off + q * 17 + 16, none⟩ = some (.slice a16 n16 p16) := hcl 16 _ rfl
      have HQ0 : Hid (∀ wx, Below wr.heap.size wr wx → wx.cell? ⟨b, off + q * 17, none⟩ = some (.int .i64 (kq : Nat))) := fun wx hb => (hb.cell (p := ⟨b, off + q * 17, none⟩) hbb).trans q0
      have HQ1 : Hid (∀ wx, Below wr.heap.size wr wx → wx.cell? ⟨b, off + q * 17 + 1, none⟩ = some (.string (umtx (kq + 1)))) := fun wx hb => (hb.cell (p := ⟨b, off + q * 17 + 1, none⟩) hbb).trans q1
      have HQ2 : Hid (∀ wx, Below wr.heap.size wr wx → wx.cell? ⟨b, off + q * 17 + 2, none⟩ = some (.int .i64 (((kq + 1) + 1) : Nat))) := fun wx hb => (hb.cell (p := ⟨b, off + q * 17 + 2, none⟩) hbb).trans q2
      have HQ3 : Hid (∀ wx, Below wr.heap.size wr wx → wx.cell? ⟨b, off + q * 17 + 3, none⟩ = some (.int .i64 ((((kq + 1) + 1) + 1) : Nat))) := fun wx hb => (hb.cell (p := ⟨b, off + q * 17 + 3, none⟩) hbb).trans q3
      have HQ4 : Hid (∀ wx, Below wr.heap.size wr wx → wx.cell? ⟨b, off + q * 17 + 4, none⟩ = some (.int .i64 (((((kq + 1) + 1) + 1) + 1) : Nat))) := fun wx hb => (hb.cell (p := ⟨b, off + q * 17 + 4, none⟩) hbb).trans q4
      have HQ5 : Hid (∀ wx, Below wr.heap.size wr wx → wx.cell? ⟨b, off + q * 17 + 5, none⟩ = some (.bool ((((((kq + 1) + 1) + 1) + 1) + 1) % 3 == 0))) := fun wx hb => (hb.cell (p := ⟨b, off + q * 17 + 5, none⟩) hbb).trans q5
      have HQ6 : Hid (∀ wx, Below wr.heap.size wr wx → wx.cell? ⟨b, off + q * 17 + 6, none⟩ = some (.slice a6 n6 p6)) := fun wx hb => (hb.cell (p := ⟨b, off + q * 17 + 6, none⟩) hbb).trans q6
      have HQ7 : Hid (∀ wx, Below wr.heap.size wr wx → wx.cell? ⟨b, off + q * 17 + 7, none⟩ = some (.int .i64 ((((((((kq + 1) + 1) + 1) + 1) + 1) + 1) + cnt c6) : Nat))) := fun wx hb => (hb.cell (p := ⟨b, off + q * 17 + 7, none⟩) hbb).trans q7
      have HQ8 : Hid (∀ wx, Below wr.heap.size wr wx → wx.cell? ⟨b, off + q * 17 + 8, none⟩ = some (.string (umtx ((((((((kq + 1) + 1) + 1) + 1) + 1) + 1) + cnt c6) + 1)))) := fun wx hb => (hb.cell (p := ⟨b, off + q * 17 + 8, none⟩) hbb).trans q8
      have HQ9 : Hid (∀ wx, Below wr.heap.size wr wx → wx.cell? ⟨b, off + q * 17 + 9, none⟩ = some (.int .i64 ((((((((((kq + 1) + 1) + 1) + 1) + 1) + 1) + cnt c6) + 1) + 1) : Nat))) := fun wx hb => (hb.cell (p := ⟨b, off + q * 17 + 9, none⟩) hbb).trans q9
      have HQ10 : Hid (∀ wx, Below wr.heap.size wr wx → wx.cell? ⟨b, off + q * 17 + 10, none⟩ = some (.slice a10 n10 p10)) := fun wx hb => (hb.cell (p := ⟨b, off + q * 17 + 10, none⟩) hbb).trans q10
      have HQ11 : Hid (∀ wx, Below wr.heap.size wr wx → wx.cell? ⟨b, off + q * 17 + 11, none⟩ = some (.slice a11 n11 p11)) := fun wx hb => (hb.cell (p := ⟨b, off + q * 17 + 11, none⟩) hbb).trans q11
      have HQ12 : Hid (∀ wx, Below wr.heap.size wr wx → wx.cell? ⟨b, off + q * 17 + 12, none⟩ = some (.int .i64 (((((((((((((kq + 1) + 1) + 1) + 1) + 1) + 1) + cnt c6) + 1) + 1) + 1) + cnt c10) + cnt c11) : Nat))) := fun wx hb => (hb.cell (p := ⟨b, off + q * 17 + 12, none⟩) hbb).trans q12
      have HQ13 : Hid (∀ wx, Below wr.heap.size wr wx → wx.cell? ⟨b, off + q * 17 + 13, none⟩ = some (.string (umtx (((((((((((((kq + 1) + 1) + 1) + 1) + 1) + 1) + cnt c6) + 1) + 1) + 1) + cnt c10) + cnt c11) + 1)))) := fun wx hb => (hb.cell (p := ⟨b, off + q * 17 + 13, none⟩) hbb).trans q13
      have HQ14 : Hid (∀ wx, Below wr.heap.size wr wx → wx.cell? ⟨b, off + q * 17 + 14, none⟩ = some (.int .i64 (((((((((((((((kq + 1) + 1) + 1) + 1) + 1) + 1) + cnt c6) + 1) + 1) + 1) + cnt c10) + cnt c11) + 1) + 1) : Nat))) := fun wx hb => (hb.cell (p := ⟨b, off + q * 17 + 14, none⟩) hbb).trans q14
      have HQ15 : Hid (∀ wx, Below wr.heap.size wr wx → wx.cell? ⟨b, off + q * 17 + 15, none⟩ = some (.slice a15 n15 p15)) := fun wx hb => (hb.cell (p := ⟨b, off + q * 17 + 15, none⟩) hbb).trans q15
      have HQ16 : Hid (∀ wx, Below wr.heap.size wr wx → wx.cell? ⟨b, off + q * 17 + 16, none⟩ = some (.slice a16 n16 p16)) := fun wx hb => (hb.cell (p := ⟨b, off + q * 17 + 16, none⟩) hbb).trans q16
      clear q0 q1 q2 q3 q4 q5 q6 q7 q8 q9 q10 q11 q12 q13 q14 q15 q16
      have HC1 : Hid (∀ (wx : World) (x : Int), Below wr.heap.size wr wx → x = (((kq + 1) : Nat) : Int) → Calls Tryz.prog 121 #[.int .i64 x] wx fun e w' => e = .returned (.string (umtx (kq + 1))) ∧ Hid (Below wr.heap.size wr w')) := fun wx x hb hx => by rw [hx]; exact (umarkText_any _ wx (by omega) (by omega)).mono fun e w' h => ⟨h.1, hb.trans (h.2.mono hb.size)⟩
      have HC6 : Hid (∀ (wx : World) (x : Int), Below wr.heap.size wr wx → x = ((((((((kq + 1) + 1) + 1) + 1) + 1) + 1) : Nat) : Int) → Calls Tryz.prog 130 #[.slice a6 n6 p6, .int .i64 x] wx fun e w' => e = .returned (.int .i64 ((((((((kq + 1) + 1) + 1) + 1) + 1) + 1) + cnt c6 : Nat))) ∧ Hid (Below wr.heap.size wr w')) := fun wx x hb hx => by rw [hx]; exact (uheldStringS_any (lo := lo) (hi := hi) n6 ((((((kq + 1) + 1) + 1) + 1) + 1) + 1) c6 _ wx g6 (by omega) (by omega) ((show uS wr lo hi 1 n6 (mk c6 ((((((kq + 1) + 1) + 1) + 1) + 1) + 1)) (.slice a6 n6 p6) from ⟨_, _, rfl, t6⟩).below hb)).mono fun e w' h => ⟨h.1, hb.trans (h.2.mono hb.size)⟩
      have HC8 : Hid (∀ (wx : World) (x : Int), Below wr.heap.size wr wx → x = ((((((((((kq + 1) + 1) + 1) + 1) + 1) + 1) + cnt c6) + 1) : Nat) : Int) → Calls Tryz.prog 121 #[.int .i64 x] wx fun e w' => e = .returned (.string (umtx ((((((((kq + 1) + 1) + 1) + 1) + 1) + 1) + cnt c6) + 1))) ∧ Hid (Below wr.heap.size wr w')) := fun wx x hb hx => by rw [hx]; exact (umarkText_any _ wx (by omega) (by omega)).mono fun e w' h => ⟨h.1, hb.trans (h.2.mono hb.size)⟩
      have HC10 : Hid (∀ (wx : World) (x : Int), Below wr.heap.size wr wx → x = ((((((((((((kq + 1) + 1) + 1) + 1) + 1) + 1) + cnt c6) + 1) + 1) + 1) : Nat) : Int) → Calls Tryz.prog 130 #[.slice a10 n10 p10, .int .i64 x] wx fun e w' => e = .returned (.int .i64 ((((((((((((kq + 1) + 1) + 1) + 1) + 1) + 1) + cnt c6) + 1) + 1) + 1) + cnt c10 : Nat))) ∧ Hid (Below wr.heap.size wr w')) := fun wx x hb hx => by rw [hx]; exact (uheldStringS_any (lo := lo) (hi := hi) n10 ((((((((((kq + 1) + 1) + 1) + 1) + 1) + 1) + cnt c6) + 1) + 1) + 1) c10 _ wx g10 (by omega) (by omega) ((show uS wr lo hi 1 n10 (mk c10 ((((((((((kq + 1) + 1) + 1) + 1) + 1) + 1) + cnt c6) + 1) + 1) + 1)) (.slice a10 n10 p10) from ⟨_, _, rfl, t10⟩).below hb)).mono fun e w' h => ⟨h.1, hb.trans (h.2.mono hb.size)⟩
      have HC11 : Hid (∀ (wx : World) (x : Int), Below wr.heap.size wr wx → x = (((((((((((((kq + 1) + 1) + 1) + 1) + 1) + 1) + cnt c6) + 1) + 1) + 1) + cnt c10) : Nat) : Int) → Calls Tryz.prog 131 #[.slice a11 n11 p11, .int .i64 x] wx fun e w' => e = .returned (.int .i64 (((((((((((((kq + 1) + 1) + 1) + 1) + 1) + 1) + cnt c6) + 1) + 1) + 1) + cnt c10) + cnt c11 : Nat))) ∧ Hid (Below wr.heap.size wr w')) := fun wx x hb hx => by rw [hx]; exact (uheldValueS_any (lo := lo) (hi := hi) n11 (((((((((((kq + 1) + 1) + 1) + 1) + 1) + 1) + cnt c6) + 1) + 1) + 1) + cnt c10) c11 _ wx g11 (by omega) (by omega) ((show uS wr lo hi 5 n11 (mk c11 (((((((((((kq + 1) + 1) + 1) + 1) + 1) + 1) + cnt c6) + 1) + 1) + 1) + cnt c10)) (.slice a11 n11 p11) from ⟨_, _, rfl, t11⟩).below hb)).mono fun e w' h => ⟨h.1, hb.trans (h.2.mono hb.size)⟩
      have HC13 : Hid (∀ (wx : World) (x : Int), Below wr.heap.size wr wx → x = (((((((((((((((kq + 1) + 1) + 1) + 1) + 1) + 1) + cnt c6) + 1) + 1) + 1) + cnt c10) + cnt c11) + 1) : Nat) : Int) → Calls Tryz.prog 121 #[.int .i64 x] wx fun e w' => e = .returned (.string (umtx (((((((((((((kq + 1) + 1) + 1) + 1) + 1) + 1) + cnt c6) + 1) + 1) + 1) + cnt c10) + cnt c11) + 1))) ∧ Hid (Below wr.heap.size wr w')) := fun wx x hb hx => by rw [hx]; exact (umarkText_any _ wx (by omega) (by omega)).mono fun e w' h => ⟨h.1, hb.trans (h.2.mono hb.size)⟩
      have HC15 : Hid (∀ (wx : World) (x : Int), Below wr.heap.size wr wx → x = (((((((((((((((((kq + 1) + 1) + 1) + 1) + 1) + 1) + cnt c6) + 1) + 1) + 1) + cnt c10) + cnt c11) + 1) + 1) + 1) : Nat) : Int) → Calls Tryz.prog 130 #[.slice a15 n15 p15, .int .i64 x] wx fun e w' => e = .returned (.int .i64 (((((((((((((((((kq + 1) + 1) + 1) + 1) + 1) + 1) + cnt c6) + 1) + 1) + 1) + cnt c10) + cnt c11) + 1) + 1) + 1) + cnt c15 : Nat))) ∧ Hid (Below wr.heap.size wr w')) := fun wx x hb hx => by rw [hx]; exact (uheldStringS_any (lo := lo) (hi := hi) n15 (((((((((((((((kq + 1) + 1) + 1) + 1) + 1) + 1) + cnt c6) + 1) + 1) + 1) + cnt c10) + cnt c11) + 1) + 1) + 1) c15 _ wx g15 (by omega) (by omega) ((show uS wr lo hi 1 n15 (mk c15 (((((((((((((((kq + 1) + 1) + 1) + 1) + 1) + 1) + cnt c6) + 1) + 1) + 1) + cnt c10) + cnt c11) + 1) + 1) + 1)) (.slice a15 n15 p15) from ⟨_, _, rfl, t15⟩).below hb)).mono fun e w' h => ⟨h.1, hb.trans (h.2.mono hb.size)⟩
      have HC16 : Hid (∀ (wx : World) (x : Int), Below wr.heap.size wr wx → x = ((((((((((((((((((kq + 1) + 1) + 1) + 1) + 1) + 1) + cnt c6) + 1) + 1) + 1) + cnt c10) + cnt c11) + 1) + 1) + 1) + cnt c15) : Nat) : Int) → Calls Tryz.prog 131 #[.slice a16 n16 p16, .int .i64 x] wx fun e w' => e = .returned (.int .i64 ((((((((((((((((((kq + 1) + 1) + 1) + 1) + 1) + 1) + cnt c6) + 1) + 1) + 1) + cnt c10) + cnt c11) + 1) + 1) + 1) + cnt c15) + cnt c16 : Nat))) ∧ Hid (Below wr.heap.size wr w')) := fun wx x hb hx => by rw [hx]; exact (uheldValueS_any (lo := lo) (hi := hi) n16 ((((((((((((((((kq + 1) + 1) + 1) + 1) + 1) + 1) + cnt c6) + 1) + 1) + 1) + cnt c10) + cnt c11) + 1) + 1) + 1) + cnt c15) c16 _ wx g16 (by omega) (by omega) ((show uS wr lo hi 5 n16 (mk c16 ((((((((((((((((kq + 1) + 1) + 1) + 1) + 1) + 1) + cnt c6) + 1) + 1) + 1) + cnt c10) + cnt c11) + 1) + 1) + 1) + cnt c15)) (.slice a16 n16 p16) from ⟨_, _, rfl, t16⟩).below hb)).mono fun e w' h => ⟨h.1, hb.trans (h.2.mono hb.size)⟩
      have HN := uhide hend
      clear hR hcl hm htr hsz hkn hkr hrow hend hKd Hx Ht Hkk g0 g1 g2 g3 g4 g6 g7 g8 g9 g10 g11 g12 g13 g14 g15 g16 t6 t10 t11 t15 t16
      generalize umtx (kq + 1) = M1 at *
      have E1 : (M1.toList == M1.toList) = true := by simp
      have EB5 : ((((((kq + 1) + 1) + 1) + 1) + 1) % 3 == 0) = ((((((((kq + 1) + 1) + 1) + 1) + 1) : Nat) : Int) % 3 == 0) := by rw [Bool.eq_iff_iff, beq_iff_eq, beq_iff_eq]; omega
      push_cast at EB5
      generalize cnt c6 = m6 at *
      generalize umtx ((((((((kq + 1) + 1) + 1) + 1) + 1) + 1) + m6) + 1) = M8 at *
      have E8 : (M8.toList == M8.toList) = true := by simp
      generalize cnt c10 = m10 at *
      generalize cnt c11 = m11 at *
      generalize umtx (((((((((((((kq + 1) + 1) + 1) + 1) + 1) + 1) + m6) + 1) + 1) + 1) + m10) + m11) + 1) = M13 at *
      have E13 : (M13.toList == M13.toList) = true := by simp
      generalize cnt c15 = m15 at *
      generalize cnt c16 = m16 at *
      have HB : Hid (Below wr.heap.size wr wr) := Below.refl _ _
      go_wp2_with (first
        | ((with_reducible refine wpList_load_one ?qqg170 3 ?qqx170 ?qqo170 b (off + q * 17) ?qqh170 (.int .i64 (kq : Nat)) Tryz.rObj_int (HQ0.out _ HB.out) ?_); (case qqg170 => rfl); (case qqo170 => rfl); (case qqh170 => first | (simp; done) | (simp [Act.eval]; done) | (simp only [Act.put]; simp; done) | (simp only [Act.put]; simp [Act.eval]; done)))
        )
      have hq1 := HQ1.out _ HB.out
      go_region_held3 (fun w' => w'.cell? ⟨b, off + q * 17 + 1, none⟩ = some (.string M1)) (first | assumption | exact HQ1.out _ hb2.out | (simp; exact hq1) | go_keep)
        (first | (go_at_call 121; refine (HC1.out _ _ (by repeat (first | with_reducible exact HB.out | with_reducible refine Below.drew ?_ | with_reducible refine below_drewN ?_ _)) (by omega)).mono ?_; rintro e1 w2 ⟨rfl, hb2⟩))
      replace HB := hb2
      clear hq1
      go_wp2_with (first
        | ((with_reducible refine wpList_load_one ?qqg178 3 ?qqx178 ?qqo178 b (off + q * 17 + 2) ?qqh178 (.int .i64 (((kq + 1) + 1) : Nat)) Tryz.rObj_int (HQ2.out _ HB.out) ?_); (case qqg178 => rfl); (case qqo178 => rfl); (case qqh178 => first | (simp; done) | (simp [Act.eval]; done) | (simp only [Act.put]; simp; done) | (simp only [Act.put]; simp [Act.eval]; done)))
        | ((with_reducible refine wpList_load_one ?qqg179 3 ?qqx179 ?qqo179 b (off + q * 17 + 3) ?qqh179 (.int .i64 ((((kq + 1) + 1) + 1) : Nat)) Tryz.rObj_int (HQ3.out _ HB.out) ?_); (case qqg179 => rfl); (case qqo179 => rfl); (case qqh179 => first | (simp; done) | (simp [Act.eval]; done) | (simp only [Act.put]; simp; done) | (simp only [Act.put]; simp [Act.eval]; done)))
        | ((with_reducible refine wpList_load_one ?qqg180 3 ?qqx180 ?qqo180 b (off + q * 17 + 4) ?qqh180 (.int .i64 (((((kq + 1) + 1) + 1) + 1) : Nat)) Tryz.rObj_int (HQ4.out _ HB.out) ?_); (case qqg180 => rfl); (case qqo180 => rfl); (case qqh180 => first | (simp; done) | (simp [Act.eval]; done) | (simp only [Act.put]; simp; done) | (simp only [Act.put]; simp [Act.eval]; done)))
        | ((with_reducible refine wpList_load_one ?qqg181 4 ?qqx181 ?qqo181 b (off + q * 17 + 5) ?qqh181 (.bool ((((((kq + 1) + 1) + 1) + 1) + 1) % 3 == 0)) Tryz.rObj_bool (HQ5.out _ HB.out) ?_); (case qqg181 => rfl); (case qqo181 => rfl); (case qqh181 => first | (simp; done) | (simp [Act.eval]; done) | (simp only [Act.put]; simp; done) | (simp only [Act.put]; simp [Act.eval]; done)))
        | ((with_reducible refine wpList_load_one ?qqg182 28 ?qqx182 ?qqo182 b (off + q * 17 + 6) ?qqh182 (.slice a6 n6 p6) Tryz.rObj_Lstring (HQ6.out _ HB.out) ?_); (case qqg182 => rfl); (case qqo182 => rfl); (case qqh182 => first | (simp; done) | (simp [Act.eval]; done) | (simp only [Act.put]; simp; done) | (simp only [Act.put]; simp [Act.eval]; done)))
        )
      refine (HC6.out _ _ HB.out (by omega)).mono ?_
      rintro e1 w9 ⟨rfl, hbn6⟩
      replace HB := hbn6
      go_wp2_with (first
        | ((with_reducible refine wpList_load_one ?qqg188 3 ?qqx188 ?qqo188 b (off + q * 17 + 7) ?qqh188 (.int .i64 ((((((((kq + 1) + 1) + 1) + 1) + 1) + 1) + m6) : Nat)) Tryz.rObj_int (HQ7.out _ HB.out) ?_); (case qqg188 => rfl); (case qqo188 => rfl); (case qqh188 => first | (simp; done) | (simp [Act.eval]; done) | (simp only [Act.put]; simp; done) | (simp only [Act.put]; simp [Act.eval]; done)))
        )
      have hq8 := HQ8.out _ HB.out
      go_region_held3 (fun w' => w'.cell? ⟨b, off + q * 17 + 8, none⟩ = some (.string M8)) (first | assumption | exact HQ8.out _ hb2.out | (simp; exact hq8) | go_keep)
        (first | (go_at_call 121; refine (HC8.out _ _ (by repeat (first | with_reducible exact HB.out | with_reducible refine Below.drew ?_ | with_reducible refine below_drewN ?_ _)) (by omega)).mono ?_; rintro e1 w2 ⟨rfl, hb2⟩))
      replace HB := hb2
      clear hq8
      go_wp2_with (first
        | ((with_reducible refine wpList_load_one ?qqg196 3 ?qqx196 ?qqo196 b (off + q * 17 + 9) ?qqh196 (.int .i64 ((((((((((kq + 1) + 1) + 1) + 1) + 1) + 1) + m6) + 1) + 1) : Nat)) Tryz.rObj_int (HQ9.out _ HB.out) ?_); (case qqg196 => rfl); (case qqo196 => rfl); (case qqh196 => first | (simp; done) | (simp [Act.eval]; done) | (simp only [Act.put]; simp; done) | (simp only [Act.put]; simp [Act.eval]; done)))
        | ((with_reducible refine wpList_load_one ?qqg197 28 ?qqx197 ?qqo197 b (off + q * 17 + 10) ?qqh197 (.slice a10 n10 p10) Tryz.rObj_Lstring (HQ10.out _ HB.out) ?_); (case qqg197 => rfl); (case qqo197 => rfl); (case qqh197 => first | (simp; done) | (simp [Act.eval]; done) | (simp only [Act.put]; simp; done) | (simp only [Act.put]; simp [Act.eval]; done)))
        )
      refine (HC10.out _ _ HB.out (by omega)).mono ?_
      rintro e1 w13 ⟨rfl, hbn10⟩
      replace HB := hbn10
      go_wp2_with (first
        | ((with_reducible refine wpList_load_one ?qqg203 29 ?qqx203 ?qqo203 b (off + q * 17 + 11) ?qqh203 (.slice a11 n11 p11) Tryz.rObj_Limpl_Value (HQ11.out _ HB.out) ?_); (case qqg203 => rfl); (case qqo203 => rfl); (case qqh203 => first | (simp; done) | (simp [Act.eval]; done) | (simp only [Act.put]; simp; done) | (simp only [Act.put]; simp [Act.eval]; done)))
        )
      refine (HC11.out _ _ HB.out (by omega)).mono ?_
      rintro e1 w14 ⟨rfl, hbn11⟩
      replace HB := hbn11
      go_wp2_with (first
        | ((with_reducible refine wpList_load_one ?qqg209 3 ?qqx209 ?qqo209 b (off + q * 17 + 12) ?qqh209 (.int .i64 (((((((((((((kq + 1) + 1) + 1) + 1) + 1) + 1) + m6) + 1) + 1) + 1) + m10) + m11) : Nat)) Tryz.rObj_int (HQ12.out _ HB.out) ?_); (case qqg209 => rfl); (case qqo209 => rfl); (case qqh209 => first | (simp; done) | (simp [Act.eval]; done) | (simp only [Act.put]; simp; done) | (simp only [Act.put]; simp [Act.eval]; done)))
        )
      have hq13 := HQ13.out _ HB.out
      go_region_held3 (fun w' => w'.cell? ⟨b, off + q * 17 + 13, none⟩ = some (.string M13)) (first | assumption | exact HQ13.out _ hb2.out | (simp; exact hq13) | go_keep)
        (first | (go_at_call 121; refine (HC13.out _ _ (by repeat (first | with_reducible exact HB.out | with_reducible refine Below.drew ?_ | with_reducible refine below_drewN ?_ _)) (by omega)).mono ?_; rintro e1 w2 ⟨rfl, hb2⟩))
      replace HB := hb2
      clear hq13
      go_wp2_with (first
        | ((with_reducible refine wpList_load_one ?qqg217 3 ?qqx217 ?qqo217 b (off + q * 17 + 14) ?qqh217 (.int .i64 (((((((((((((((kq + 1) + 1) + 1) + 1) + 1) + 1) + m6) + 1) + 1) + 1) + m10) + m11) + 1) + 1) : Nat)) Tryz.rObj_int (HQ14.out _ HB.out) ?_); (case qqg217 => rfl); (case qqo217 => rfl); (case qqh217 => first | (simp; done) | (simp [Act.eval]; done) | (simp only [Act.put]; simp; done) | (simp only [Act.put]; simp [Act.eval]; done)))
        | ((with_reducible refine wpList_load_one ?qqg218 28 ?qqx218 ?qqo218 b (off + q * 17 + 15) ?qqh218 (.slice a15 n15 p15) Tryz.rObj_Lstring (HQ15.out _ HB.out) ?_); (case qqg218 => rfl); (case qqo218 => rfl); (case qqh218 => first | (simp; done) | (simp [Act.eval]; done) | (simp only [Act.put]; simp; done) | (simp only [Act.put]; simp [Act.eval]; done)))
        )
      refine (HC15.out _ _ HB.out (by omega)).mono ?_
      rintro e1 w18 ⟨rfl, hbn15⟩
      replace HB := hbn15
      go_wp2_with (first
        | ((with_reducible refine wpList_load_one ?qqg224 29 ?qqx224 ?qqo224 b (off + q * 17 + 16) ?qqh224 (.slice a16 n16 p16) Tryz.rObj_Limpl_Value (HQ16.out _ HB.out) ?_); (case qqg224 => rfl); (case qqo224 => rfl); (case qqh224 => first | (simp; done) | (simp [Act.eval]; done) | (simp only [Act.put]; simp; done) | (simp only [Act.put]; simp [Act.eval]; done)))
        )
      refine (HC16.out _ _ HB.out (by omega)).mono ?_
      rintro e1 w19 ⟨rfl, hbn16⟩
      replace HB := hbn16
      go_wp2
      go_roundw
      case rel => exact ⟨q + 1, by omega, by go_num, by rw [HN.out]; go_num, hbw.trans (HB.out.mono hbw.size)⟩
      case measure => (simp [intOf]; omega)
    · have e : q = n := by omega
      subst e
      have hl : cs.takeN (q * 17) = cs := by apply UD.ext; unfold UD.takeN; rw [UD.toL_ofL]; exact List.take_of_length_le (Nat.le_of_eq Ht.out.2.2.2.1)
      rw [hl]
      clear hl Ht Hkk Hx
      go_wp2
      go_ret
      exact ⟨rfl, hbw⟩
end Go.Proofs.YtamlgjmboljcdaaGreat
