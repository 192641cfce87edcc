/- Data as cells: the helpers of the laws over Obj. -/
import Derived.Test.YtamlgjmboljcdaaGreatULeaf
import Derived.Test.YtamlgjmboljcdaaGreatULd
import Derived.Test.YtamlgjmboljcdaaGreatUFObj
import Derived.Test.YtamlgjmboljcdaaGreatUTValue
namespace Go.Proofs.YtamlgjmboljcdaaGreat
open Go.RowKit Go.BigFrame
set_option linter.unusedVariables false

set_option maxRecDepth 100000 in
set_option maxHeartbeats 4000000 in
theorem umarkObjS_any (n k0 : Nat) (cs : UD) (c : Value) (S : List Nat) (w : World) (ht : tyS 17 n cs 8) (hnd : S.Nodup) (hk0 : 1 ≤ k0) (hk1 : k0 + cnt cs ≤ 100000000) (hx : oS w 17 n cs c S) :
    Calls Tryz.prog 119 #[c, .int .i64 k0] w fun e w' => e = .returned (.int .i64 (k0 + cnt cs : Nat)) ∧ oS w' 17 n (mk cs k0) c S ∧ OutS S w w' := by
  obtain ⟨a, cap, rfl⟩ := hx.slice
  have hmx := ht.2.2.1
  unfold maxLen at hmx
  rcases Nat.eq_zero_or_pos n with h0 | hpos
  · subst h0
    obtain ⟨e1, e2⟩ := hx.empty rfl k0
    rw [e1, e2]
    have Hx := uhide hx
    clear hx ht hnd e1 e2
    go_enter Tryz.func119, Tryz.ntmps119
    go_wp2
    go_loopw [1, 5] (fun s i wr => i = .int .i64 0 ∧ s = .int .i64 k0 ∧ wr = w) (fun _ _ _ => 0)
    case atStart => exact ⟨rfl, rfl, rfl⟩
    case round =>
      obtain ⟨rfl, rfl, rfl⟩ := hrel
      go_wp2
      go_ret
      exact ⟨rfl, Hx.out, OutS.refl _ _⟩
  obtain ⟨e, g, S1, xs0, M0, rfl, hp0, hl0⟩ := MS.start hx hnd hpos k0
  obtain ⟨cap, h1, hgl⟩ := M0.own
  cases h1
  have M0 := uhide M0
  have Ht := uhide ht
  have Hp0 := uhide hp0
  have Hl0 := uhide hl0
  have Hkk : Hid (∀ q, k0 + cnt (cs.takeN (q * 17)) ≤ 100000000) := fun q => by have := cnt_le cs (q * 17); omega
  clear hx ht hnd hp0 hl0
  go_enter Tryz.func119, Tryz.ntmps119
  go_wp2
  go_loopw [1, 5] (fun s i wr => ∃ (q : Nat), q ≤ n ∧ i = .int .i64 q ∧ s = .int .i64 (k0 + cnt (cs.takeN (q * 17)) : Nat) ∧ Hid (MS w wr e 17 n (.slice (some ⟨g, 0, none⟩) n cap) g cs k0 S1 xs0 (q * 17))) (fun _ i _ => n - (intOf i).toNat)
  case atStart => exact ⟨0, Nat.zero_le _, rfl, by rw [Nat.zero_mul]; rfl, by rw [Nat.zero_mul]; exact M0⟩
  case round =>
    clear M0
    obtain ⟨q, hq, rfl, rfl, HM⟩ := hrel
    by_cases hlt : q < n
    · have htr := Ht.out.row hlt
      have hKn : q * 17 + 17 ≤ n * 17 := by have := Nat.mul_le_mul_right 17 (show q + 1 ≤ n by omega); rw [Nat.succ_mul] at this; exact this
      obtain ⟨z0, z1, z2, z3, z4, z5, n6, c6, z7, z8, z9, n10, c10, n11, c11, z12, z13, z14, n15, c15, n16, c16, hR, g0, g1, g2, g3, g4, g6, g7, g8, g9, g10, g11, g12, g13, g14, g15, g16⟩ := partsObj htr
      obtain ⟨kq, hkq⟩ : ∃ kq, k0 + cnt (cs.takeN (q * 17)) = kq := ⟨_, rfl⟩
      have hK0 : 1 ≤ kq := by omega
      have at0 : cs.at? (q * 17) = some (.p (.int .i64 z0)) := at_row (j := 0) hR (by decide) rfl
      have ct0 : Hid (k0 + cnt (cs.takeN (q * 17)) = kq) := hkq
      have at1 : cs.at? (q * 17 + 1) = some (.p (.string z1)) := at_row (j := 1) hR (by decide) rfl
      have ct1 : Hid (k0 + cnt (cs.takeN (q * 17 + 1)) = (kq + 1)) := ct_next ct0.out at0
      have at2 : cs.at? (q * 17 + 2) = some (.p (.int .i64 z2)) := at_row (j := 2) hR (by decide) rfl
      have ct2 : Hid (k0 + cnt (cs.takeN (q * 17 + 2)) = ((kq + 1) + 1)) := ct_next ct1.out at1
      have at3 : cs.at? (q * 17 + 3) = some (.p (.int .i64 z3)) := at_row (j := 3) hR (by decide) rfl
      have ct3 : Hid (k0 + cnt (cs.takeN (q * 17 + 3)) = (((kq + 1) + 1) + 1)) := ct_next ct2.out at2
      have at4 : cs.at? (q * 17 + 4) = some (.p (.int .i64 z4)) := at_row (j := 4) hR (by decide) rfl
      have ct4 : Hid (k0 + cnt (cs.takeN (q * 17 + 4)) = ((((kq + 1) + 1) + 1) + 1)) := ct_next ct3.out at3
      have at5 : cs.at? (q * 17 + 5) = some (.p (.bool z5)) := at_row (j := 5) hR (by decide) rfl
      have ct5 : Hid (k0 + cnt (cs.takeN (q * 17 + 5)) = (((((kq + 1) + 1) + 1) + 1) + 1)) := ct_next ct4.out at4
      have at6 : cs.at? (q * 17 + 6) = some (.l 1 n6 c6) := at_row (j := 6) hR (by decide) rfl
      have ct6 : Hid (k0 + cnt (cs.takeN (q * 17 + 6)) = ((((((kq + 1) + 1) + 1) + 1) + 1) + 1)) := ct_next ct5.out at5
      obtain ⟨a6, p6, x6⟩ := Hl0.out _ _ _ _ at6
      have at7 : cs.at? (q * 17 + 7) = some (.p (.int .i64 z7)) := at_row (j := 7) hR (by decide) rfl
      have ct7 : Hid (k0 + cnt (cs.takeN (q * 17 + 7)) = (((((((kq + 1) + 1) + 1) + 1) + 1) + 1) + cnt c6)) := ct_next ct6.out at6
      have at8 : cs.at? (q * 17 + 8) = some (.p (.string z8)) := at_row (j := 8) hR (by decide) rfl
      have ct8 : Hid (k0 + cnt (cs.takeN (q * 17 + 8)) = ((((((((kq + 1) + 1) + 1) + 1) + 1) + 1) + cnt c6) + 1)) := ct_next ct7.out at7
      have at9 : cs.at? (q * 17 + 9) = some (.p (.int .i64 z9)) := at_row (j := 9) hR (by decide) rfl
      have ct9 : Hid (k0 + cnt (cs.takeN (q * 17 + 9)) = (((((((((kq + 1) + 1) + 1) + 1) + 1) + 1) + cnt c6) + 1) + 1)) := ct_next ct8.out at8
      have at10 : cs.at? (q * 17 + 10) = some (.l 1 n10 c10) := at_row (j := 10) hR (by decide) rfl
      have ct10 : Hid (k0 + cnt (cs.takeN (q * 17 + 10)) = ((((((((((kq + 1) + 1) + 1) + 1) + 1) + 1) + cnt c6) + 1) + 1) + 1)) := ct_next ct9.out at9
      obtain ⟨a10, p10, x10⟩ := Hl0.out _ _ _ _ at10
      have at11 : cs.at? (q * 17 + 11) = some (.l 5 n11 c11) := at_row (j := 11) hR (by decide) rfl
      have ct11 : Hid (k0 + cnt (cs.takeN (q * 17 + 11)) = (((((((((((kq + 1) + 1) + 1) + 1) + 1) + 1) + cnt c6) + 1) + 1) + 1) + cnt c10)) := ct_next ct10.out at10
      obtain ⟨a11, p11, x11⟩ := Hl0.out _ _ _ _ at11
      have at12 : cs.at? (q * 17 + 12) = some (.p (.int .i64 z12)) := at_row (j := 12) hR (by decide) rfl
      have ct12 : Hid (k0 + cnt (cs.takeN (q * 17 + 12)) = ((((((((((((kq + 1) + 1) + 1) + 1) + 1) + 1) + cnt c6) + 1) + 1) + 1) + cnt c10) + cnt c11)) := ct_next ct11.out at11
      have at13 : cs.at? (q * 17 + 13) = some (.p (.string z13)) := at_row (j := 13) hR (by decide) rfl
      have ct13 : Hid (k0 + cnt (cs.takeN (q * 17 + 13)) = (((((((((((((kq + 1) + 1) + 1) + 1) + 1) + 1) + cnt c6) + 1) + 1) + 1) + cnt c10) + cnt c11) + 1)) := ct_next ct12.out at12
      have at14 : cs.at? (q * 17 + 14) = some (.p (.int .i64 z14)) := at_row (j := 14) hR (by decide) rfl
      have ct14 : Hid (k0 + cnt (cs.takeN (q * 17 + 14)) = ((((((((((((((kq + 1) + 1) + 1) + 1) + 1) + 1) + cnt c6) + 1) + 1) + 1) + cnt c10) + cnt c11) + 1) + 1)) := ct_next ct13.out at13
      have at15 : cs.at? (q * 17 + 15) = some (.l 1 n15 c15) := at_row (j := 15) hR (by decide) rfl
      have ct15 : Hid (k0 + cnt (cs.takeN (q * 17 + 15)) = (((((((((((((((kq + 1) + 1) + 1) + 1) + 1) + 1) + cnt c6) + 1) + 1) + 1) + cnt c10) + cnt c11) + 1) + 1) + 1)) := ct_next ct14.out at14
      obtain ⟨a15, p15, x15⟩ := Hl0.out _ _ _ _ at15
      have at16 : cs.at? (q * 17 + 16) = some (.l 5 n16 c16) := at_row (j := 16) hR (by decide) rfl
      have ct16 : Hid (k0 + cnt (cs.takeN (q * 17 + 16)) = ((((((((((((((((kq + 1) + 1) + 1) + 1) + 1) + 1) + cnt c6) + 1) + 1) + 1) + cnt c10) + cnt c11) + 1) + 1) + 1) + cnt c15)) := ct_next ct15.out at15
      obtain ⟨a16, p16, x16⟩ := Hl0.out _ _ _ _ at16
      have hend : Hid (k0 + cnt (cs.takeN ((q + 1) * 17)) = (((((((((((((((((kq + 1) + 1) + 1) + 1) + 1) + 1) + cnt c6) + 1) + 1) + 1) + cnt c10) + cnt c11) + 1) + 1) + 1) + cnt c15) + cnt c16)) := ct_end (ct_next ct16.out at16)
      have hkb : (((((((((((((((((kq + 1) + 1) + 1) + 1) + 1) + 1) + cnt c6) + 1) + 1) + 1) + cnt c10) + cnt c11) + 1) + 1) + 1) + cnt c15) + cnt c16) ≤ 100000000 := by have h := Hkk.out (q + 1); rw [hend.out] at h; exact h
      have hk1q : Hid (k0 + cnt (cs.takeN (q * 17)) = kq) := hkq
      clear hkq
      have KB0 : kq ≤ 1000000000 := by omega
      have HP0 : Hid (∀ (wx wy : World) (u : Value), MS w wx e 17 n (.slice (some ⟨g, 0, none⟩) n cap) g cs k0 S1 xs0 (q * 17) → u = .int .i64 (kq : Nat) → wy = wx.setCells g (q * 17) [u] → MS w wy e 17 n (.slice (some ⟨g, 0, none⟩) n cap) g cs k0 S1 xs0 (q * 17 + 1)) := fun wx wy u h hu e => h.cellS at0 ct0.out (hu.trans (mkP_int _ _ KB0).symm) e rfl
      have HP1 : Hid (∀ (wx wy : World) (u : Value), MS w wx e 17 n (.slice (some ⟨g, 0, none⟩) n cap) g cs k0 S1 xs0 (q * 17 + 1) → u = .string (umtx (kq + 1)) → wy = wx.setCells g (q * 17 + 1) [u] → MS w wy e 17 n (.slice (some ⟨g, 0, none⟩) n cap) g cs k0 S1 xs0 (q * 17 + 2)) := fun wx wy u h hu e => h.cellS at1 ct1.out (hu.trans rfl) e rfl
      have HT1 : Hid (∀ (wx : World) (x : Int), x = (((kq + 1) : Nat) : Int) → Calls Tryz.prog 121 #[.int .i64 x] wx fun e1 w' => e1 = .returned (.string (umtx (kq + 1))) ∧ Below wx.heap.size wx w') := fun wx x hx => by rw [hx]; exact umarkText_any _ wx (by omega) (by omega)
      have KB2 : ((kq + 1) + 1) ≤ 1000000000 := by omega
      have HP2 : Hid (∀ (wx wy : World) (u : Value), MS w wx e 17 n (.slice (some ⟨g, 0, none⟩) n cap) g cs k0 S1 xs0 (q * 17 + 2) → u = .int .i64 (((kq + 1) + 1) : Nat) → wy = wx.setCells g (q * 17 + 2) [u] → MS w wy e 17 n (.slice (some ⟨g, 0, none⟩) n cap) g cs k0 S1 xs0 (q * 17 + 3)) := fun wx wy u h hu e => h.cellS at2 ct2.out (hu.trans (mkP_int _ _ KB2).symm) e rfl
      have KB3 : (((kq + 1) + 1) + 1) ≤ 1000000000 := by omega
      have HP3 : Hid (∀ (wx wy : World) (u : Value), MS w wx e 17 n (.slice (some ⟨g, 0, none⟩) n cap) g cs k0 S1 xs0 (q * 17 + 3) → u = .int .i64 ((((kq + 1) + 1) + 1) : Nat) → wy = wx.setCells g (q * 17 + 3) [u] → MS w wy e 17 n (.slice (some ⟨g, 0, none⟩) n cap) g cs k0 S1 xs0 (q * 17 + 4)) := fun wx wy u h hu e => h.cellS at3 ct3.out (hu.trans (mkP_int _ _ KB3).symm) e rfl
      have KB4 : ((((kq + 1) + 1) + 1) + 1) ≤ 1000000000 := by omega
      have HP4 : Hid (∀ (wx wy : World) (u : Value), MS w wx e 17 n (.slice (some ⟨g, 0, none⟩) n cap) g cs k0 S1 xs0 (q * 17 + 4) → u = .int .i64 (((((kq + 1) + 1) + 1) + 1) : Nat) → wy = wx.setCells g (q * 17 + 4) [u] → MS w wy e 17 n (.slice (some ⟨g, 0, none⟩) n cap) g cs k0 S1 xs0 (q * 17 + 5)) := fun wx wy u h hu e => h.cellS at4 ct4.out (hu.trans (mkP_int _ _ KB4).symm) e rfl
      have HP5 : Hid (∀ (wx wy : World) (u : Value), MS w wx e 17 n (.slice (some ⟨g, 0, none⟩) n cap) g cs k0 S1 xs0 (q * 17 + 5) → u = .bool ((((((kq + 1) + 1) + 1) + 1) + 1) % 3 == 0) → wy = wx.setCells g (q * 17 + 5) [u] → MS w wy e 17 n (.slice (some ⟨g, 0, none⟩) n cap) g cs k0 S1 xs0 (q * 17 + 6)) := fun wx wy u h hu e => h.cellS at5 ct5.out (hu.trans rfl) e rfl
      have HC6 : Hid (∀ (wx : World) (x : Int), MS w wx e 17 n (.slice (some ⟨g, 0, none⟩) n cap) g cs k0 S1 xs0 (q * 17 + 6) → x = ((((((((kq + 1) + 1) + 1) + 1) + 1) + 1) : Nat) : Int) → Calls Tryz.prog 46 #[.slice a6 n6 p6, .int .i64 x] wx fun e1 w' => e1 = .returned (.int .i64 ((((((((kq + 1) + 1) + 1) + 1) + 1) + 1) + cnt c6 : Nat))) ∧ Hid (MS w w' e 17 n (.slice (some ⟨g, 0, none⟩) n cap) g cs k0 S1 xs0 (q * 17 + 7))) := by
        intro wx x h hxx
        rw [hxx]
        obtain ⟨c', T, q1, q2, q3, q5⟩ := h.part at6
        rw [x6] at q1
        cases q1
        rw [ct6.out] at q5
        exact (umarkStringS_any n6 ((((((kq + 1) + 1) + 1) + 1) + 1) + 1) c6 _ T wx g6 q3 (by omega) (by omega) q2).mono fun e1 w' h => ⟨h.1, q5 w' h.2.2 h.2.1⟩
      have KB7 : (((((((kq + 1) + 1) + 1) + 1) + 1) + 1) + cnt c6) ≤ 1000000000 := by omega
      have HP7 : Hid (∀ (wx wy : World) (u : Value), MS w wx e 17 n (.slice (some ⟨g, 0, none⟩) n cap) g cs k0 S1 xs0 (q * 17 + 7) → u = .int .i64 ((((((((kq + 1) + 1) + 1) + 1) + 1) + 1) + cnt c6) : Nat) → wy = wx.setCells g (q * 17 + 7) [u] → MS w wy e 17 n (.slice (some ⟨g, 0, none⟩) n cap) g cs k0 S1 xs0 (q * 17 + 8)) := fun wx wy u h hu e => h.cellS at7 ct7.out (hu.trans (mkP_int _ _ KB7).symm) e rfl
      have HP8 : Hid (∀ (wx wy : World) (u : Value), MS w wx e 17 n (.slice (some ⟨g, 0, none⟩) n cap) g cs k0 S1 xs0 (q * 17 + 8) → u = .string (umtx ((((((((kq + 1) + 1) + 1) + 1) + 1) + 1) + cnt c6) + 1)) → wy = wx.setCells g (q * 17 + 8) [u] → MS w wy e 17 n (.slice (some ⟨g, 0, none⟩) n cap) g cs k0 S1 xs0 (q * 17 + 9)) := fun wx wy u h hu e => h.cellS at8 ct8.out (hu.trans rfl) e rfl
      have HT8 : Hid (∀ (wx : World) (x : Int), x = ((((((((((kq + 1) + 1) + 1) + 1) + 1) + 1) + cnt c6) + 1) : Nat) : Int) → Calls Tryz.prog 121 #[.int .i64 x] wx fun e1 w' => e1 = .returned (.string (umtx ((((((((kq + 1) + 1) + 1) + 1) + 1) + 1) + cnt c6) + 1))) ∧ Below wx.heap.size wx w') := fun wx x hx => by rw [hx]; exact umarkText_any _ wx (by omega) (by omega)
      have KB9 : (((((((((kq + 1) + 1) + 1) + 1) + 1) + 1) + cnt c6) + 1) + 1) ≤ 1000000000 := by omega
      have HP9 : Hid (∀ (wx wy : World) (u : Value), MS w wx e 17 n (.slice (some ⟨g, 0, none⟩) n cap) g cs k0 S1 xs0 (q * 17 + 9) → u = .int .i64 ((((((((((kq + 1) + 1) + 1) + 1) + 1) + 1) + cnt c6) + 1) + 1) : Nat) → wy = wx.setCells g (q * 17 + 9) [u] → MS w wy e 17 n (.slice (some ⟨g, 0, none⟩) n cap) g cs k0 S1 xs0 (q * 17 + 10)) := fun wx wy u h hu e => h.cellS at9 ct9.out (hu.trans (mkP_int _ _ KB9).symm) e rfl
      have HC10 : Hid (∀ (wx : World) (x : Int), MS w wx e 17 n (.slice (some ⟨g, 0, none⟩) n cap) g cs k0 S1 xs0 (q * 17 + 10) → x = ((((((((((((kq + 1) + 1) + 1) + 1) + 1) + 1) + cnt c6) + 1) + 1) + 1) : Nat) : Int) → Calls Tryz.prog 46 #[.slice a10 n10 p10, .int .i64 x] wx fun e1 w' => e1 = .returned (.int .i64 ((((((((((((kq + 1) + 1) + 1) + 1) + 1) + 1) + cnt c6) + 1) + 1) + 1) + cnt c10 : Nat))) ∧ Hid (MS w w' e 17 n (.slice (some ⟨g, 0, none⟩) n cap) g cs k0 S1 xs0 (q * 17 + 11))) := by
        intro wx x h hxx
        rw [hxx]
        obtain ⟨c', T, q1, q2, q3, q5⟩ := h.part at10
        rw [x10] at q1
        cases q1
        rw [ct10.out] at q5
        exact (umarkStringS_any n10 ((((((((((kq + 1) + 1) + 1) + 1) + 1) + 1) + cnt c6) + 1) + 1) + 1) c10 _ T wx g10 q3 (by omega) (by omega) q2).mono fun e1 w' h => ⟨h.1, q5 w' h.2.2 h.2.1⟩
      have HC11 : Hid (∀ (wx : World) (x : Int), MS w wx e 17 n (.slice (some ⟨g, 0, none⟩) n cap) g cs k0 S1 xs0 (q * 17 + 11) → x = (((((((((((((kq + 1) + 1) + 1) + 1) + 1) + 1) + cnt c6) + 1) + 1) + 1) + cnt c10) : Nat) : Int) → Calls Tryz.prog 120 #[.slice a11 n11 p11, .int .i64 x] wx fun e1 w' => e1 = .returned (.int .i64 (((((((((((((kq + 1) + 1) + 1) + 1) + 1) + 1) + cnt c6) + 1) + 1) + 1) + cnt c10) + cnt c11 : Nat))) ∧ Hid (MS w w' e 17 n (.slice (some ⟨g, 0, none⟩) n cap) g cs k0 S1 xs0 (q * 17 + 12))) := by
        intro wx x h hxx
        rw [hxx]
        obtain ⟨c', T, q1, q2, q3, q5⟩ := h.part at11
        rw [x11] at q1
        cases q1
        rw [ct11.out] at q5
        exact (umarkValueS_any n11 (((((((((((kq + 1) + 1) + 1) + 1) + 1) + 1) + cnt c6) + 1) + 1) + 1) + cnt c10) c11 _ T wx g11 q3 (by omega) (by omega) q2).mono fun e1 w' h => ⟨h.1, q5 w' h.2.2 h.2.1⟩
      have KB12 : ((((((((((((kq + 1) + 1) + 1) + 1) + 1) + 1) + cnt c6) + 1) + 1) + 1) + cnt c10) + cnt c11) ≤ 1000000000 := by omega
      have HP12 : Hid (∀ (wx wy : World) (u : Value), MS w wx e 17 n (.slice (some ⟨g, 0, none⟩) n cap) g cs k0 S1 xs0 (q * 17 + 12) → u = .int .i64 (((((((((((((kq + 1) + 1) + 1) + 1) + 1) + 1) + cnt c6) + 1) + 1) + 1) + cnt c10) + cnt c11) : Nat) → wy = wx.setCells g (q * 17 + 12) [u] → MS w wy e 17 n (.slice (some ⟨g, 0, none⟩) n cap) g cs k0 S1 xs0 (q * 17 + 13)) := fun wx wy u h hu e => h.cellS at12 ct12.out (hu.trans (mkP_int _ _ KB12).symm) e rfl
      have HP13 : Hid (∀ (wx wy : World) (u : Value), MS w wx e 17 n (.slice (some ⟨g, 0, none⟩) n cap) g cs k0 S1 xs0 (q * 17 + 13) → u = .string (umtx (((((((((((((kq + 1) + 1) + 1) + 1) + 1) + 1) + cnt c6) + 1) + 1) + 1) + cnt c10) + cnt c11) + 1)) → wy = wx.setCells g (q * 17 + 13) [u] → MS w wy e 17 n (.slice (some ⟨g, 0, none⟩) n cap) g cs k0 S1 xs0 (q * 17 + 14)) := fun wx wy u h hu e => h.cellS at13 ct13.out (hu.trans rfl) e rfl
      have HT13 : Hid (∀ (wx : World) (x : Int), x = (((((((((((((((kq + 1) + 1) + 1) + 1) + 1) + 1) + cnt c6) + 1) + 1) + 1) + cnt c10) + cnt c11) + 1) : Nat) : Int) → Calls Tryz.prog 121 #[.int .i64 x] wx fun e1 w' => e1 = .returned (.string (umtx (((((((((((((kq + 1) + 1) + 1) + 1) + 1) + 1) + cnt c6) + 1) + 1) + 1) + cnt c10) + cnt c11) + 1))) ∧ Below wx.heap.size wx w') := fun wx x hx => by rw [hx]; exact umarkText_any _ wx (by omega) (by omega)
      have KB14 : ((((((((((((((kq + 1) + 1) + 1) + 1) + 1) + 1) + cnt c6) + 1) + 1) + 1) + cnt c10) + cnt c11) + 1) + 1) ≤ 1000000000 := by omega
      have HP14 : Hid (∀ (wx wy : World) (u : Value), MS w wx e 17 n (.slice (some ⟨g, 0, none⟩) n cap) g cs k0 S1 xs0 (q * 17 + 14) → u = .int .i64 (((((((((((((((kq + 1) + 1) + 1) + 1) + 1) + 1) + cnt c6) + 1) + 1) + 1) + cnt c10) + cnt c11) + 1) + 1) : Nat) → wy = wx.setCells g (q * 17 + 14) [u] → MS w wy e 17 n (.slice (some ⟨g, 0, none⟩) n cap) g cs k0 S1 xs0 (q * 17 + 15)) := fun wx wy u h hu e => h.cellS at14 ct14.out (hu.trans (mkP_int _ _ KB14).symm) e rfl
      have HC15 : Hid (∀ (wx : World) (x : Int), MS w wx e 17 n (.slice (some ⟨g, 0, none⟩) n cap) g cs k0 S1 xs0 (q * 17 + 15) → x = (((((((((((((((((kq + 1) + 1) + 1) + 1) + 1) + 1) + cnt c6) + 1) + 1) + 1) + cnt c10) + cnt c11) + 1) + 1) + 1) : Nat) : Int) → Calls Tryz.prog 46 #[.slice a15 n15 p15, .int .i64 x] wx fun e1 w' => e1 = .returned (.int .i64 (((((((((((((((((kq + 1) + 1) + 1) + 1) + 1) + 1) + cnt c6) + 1) + 1) + 1) + cnt c10) + cnt c11) + 1) + 1) + 1) + cnt c15 : Nat))) ∧ Hid (MS w w' e 17 n (.slice (some ⟨g, 0, none⟩) n cap) g cs k0 S1 xs0 (q * 17 + 16))) := by
        intro wx x h hxx
        rw [hxx]
        obtain ⟨c', T, q1, q2, q3, q5⟩ := h.part at15
        rw [x15] at q1
        cases q1
        rw [ct15.out] at q5
        exact (umarkStringS_any n15 (((((((((((((((kq + 1) + 1) + 1) + 1) + 1) + 1) + cnt c6) + 1) + 1) + 1) + cnt c10) + cnt c11) + 1) + 1) + 1) c15 _ T wx g15 q3 (by omega) (by omega) q2).mono fun e1 w' h => ⟨h.1, q5 w' h.2.2 h.2.1⟩
      have HC16 : Hid (∀ (wx : World) (x : Int), MS w wx e 17 n (.slice (some ⟨g, 0, none⟩) n cap) g cs k0 S1 xs0 (q * 17 + 16) → x = ((((((((((((((((((kq + 1) + 1) + 1) + 1) + 1) + 1) + cnt c6) + 1) + 1) + 1) + cnt c10) + cnt c11) + 1) + 1) + 1) + cnt c15) : Nat) : Int) → Calls Tryz.prog 120 #[.slice a16 n16 p16, .int .i64 x] wx fun e1 w' => e1 = .returned (.int .i64 ((((((((((((((((((kq + 1) + 1) + 1) + 1) + 1) + 1) + cnt c6) + 1) + 1) + 1) + cnt c10) + cnt c11) + 1) + 1) + 1) + cnt c15) + cnt c16 : Nat))) ∧ Hid (MS w w' e 17 n (.slice (some ⟨g, 0, none⟩) n cap) g cs k0 S1 xs0 (q * 17 + 17))) := by
        intro wx x h hxx
        rw [hxx]
        obtain ⟨c', T, q1, q2, q3, q5⟩ := h.part at16
        rw [x16] at q1
        cases q1
        rw [ct16.out] at q5
        exact (umarkValueS_any n16 ((((((((((((((((kq + 1) + 1) + 1) + 1) + 1) + 1) + cnt c6) + 1) + 1) + 1) + cnt c10) + cnt c11) + 1) + 1) + 1) + cnt c15) c16 _ T wx g16 q3 (by omega) (by omega) q2).mono fun e1 w' h => ⟨h.1, q5 w' h.2.2 h.2.1⟩
      have NN0 : Hid (q * 17 < n * 17) := by show _ < _; omega
      have NN1 : Hid (q * 17 + 1 < n * 17) := by show _ < _; omega
      have NN2 : Hid (q * 17 + 2 < n * 17) := by show _ < _; omega
      have NN3 : Hid (q * 17 + 3 < n * 17) := by show _ < _; omega
      have NN4 : Hid (q * 17 + 4 < n * 17) := by show _ < _; omega
      have NN5 : Hid (q * 17 + 5 < n * 17) := by show _ < _; omega
      have HQ6 : Hid (∀ wx, MS w wx e 17 n (.slice (some ⟨g, 0, none⟩) n cap) g cs k0 S1 xs0 (q * 17 + 6) → wx.cell? ⟨g, q * 17 + 6, none⟩ = some (.slice a6 n6 p6)) := fun wx h => h.cellAt _ _ (by omega) x6 (by omega)
      have NN6 : Hid (q * 17 + 6 < n * 17) := by show _ < _; omega
      have NN7 : Hid (q * 17 + 7 < n * 17) := by show _ < _; omega
      have NN8 : Hid (q * 17 + 8 < n * 17) := by show _ < _; omega
      have NN9 : Hid (q * 17 + 9 < n * 17) := by show _ < _; omega
      have HQ10 : Hid (∀ wx, MS w wx e 17 n (.slice (some ⟨g, 0, none⟩) n cap) g cs k0 S1 xs0 (q * 17 + 10) → wx.cell? ⟨g, q * 17 + 10, none⟩ = some (.slice a10 n10 p10)) := fun wx h => h.cellAt _ _ (by omega) x10 (by omega)
      have NN10 : Hid (q * 17 + 10 < n * 17) := by show _ < _; omega
      have HQ11 : Hid (∀ wx, MS w wx e 17 n (.slice (some ⟨g, 0, none⟩) n cap) g cs k0 S1 xs0 (q * 17 + 11) → wx.cell? ⟨g, q * 17 + 11, none⟩ = some (.slice a11 n11 p11)) := fun wx h => h.cellAt _ _ (by omega) x11 (by omega)
      have NN11 : Hid (q * 17 + 11 < n * 17) := by show _ < _; omega
      have NN12 : Hid (q * 17 + 12 < n * 17) := by show _ < _; omega
      have NN13 : Hid (q * 17 + 13 < n * 17) := by show _ < _; omega
      have NN14 : Hid (q * 17 + 14 < n * 17) := by show _ < _; omega
      have HQ15 : Hid (∀ wx, MS w wx e 17 n (.slice (some ⟨g, 0, none⟩) n cap) g cs k0 S1 xs0 (q * 17 + 15) → wx.cell? ⟨g, q * 17 + 15, none⟩ = some (.slice a15 n15 p15)) := fun wx h => h.cellAt _ _ (by omega) x15 (by omega)
      have NN15 : Hid (q * 17 + 15 < n * 17) := by show _ < _; omega
      have HQ16 : Hid (∀ wx, MS w wx e 17 n (.slice (some ⟨g, 0, none⟩) n cap) g cs k0 S1 xs0 (q * 17 + 16) → wx.cell? ⟨g, q * 17 + 16, none⟩ = some (.slice a16 n16 p16)) := fun wx h => h.cellAt _ _ (by omega) x16 (by omega)
      have NN16 : Hid (q * 17 + 16 < n * 17) := by show _ < _; omega
      have HN : Hid (∀ wx, MS w wx e 17 n (.slice (some ⟨g, 0, none⟩) n cap) g cs k0 S1 xs0 (q * 17 + 17) → MS w wx e 17 n (.slice (some ⟨g, 0, none⟩) n cap) g cs k0 S1 xs0 ((q + 1) * 17)) := fun wx h => by rw [show q * 17 + 17 = (q + 1) * 17 by omega] at h; exact h
      have HE := hend
      rw [hk1q.out]
      clear hR htr hend hk1q Ht Hkk Hp0 Hl0 g0 g1 g2 g3 g4 g6 g7 g8 g9 g10 g11 g12 g13 g14 g15 g16 at0 at1 at2 at3 at4 at5 at6 at7 at8 at9 at10 at11 at12 at13 at14 at15 at16 ct0 ct1 ct2 ct3 ct4 ct5 ct6 ct7 ct8 ct9 ct10 ct11 ct12 ct13 ct14 ct15 ct16 x6 x10 x11 x15 x16
      generalize umtx (kq + 1) = M1 at *
      generalize cnt c6 = m6 at *
      generalize umtx ((((((((kq + 1) + 1) + 1) + 1) + 1) + 1) + m6) + 1) = M8 at *
      generalize cnt c10 = m10 at *
      generalize cnt c11 = m11 at *
      generalize umtx (((((((((((((kq + 1) + 1) + 1) + 1) + 1) + 1) + m6) + 1) + 1) + 1) + m10) + m11) + 1) = M13 at *
      generalize cnt c15 = m15 at *
      generalize cnt c16 = m16 at *
      have EB5 : ((((((((kq + 1) + 1) + 1) + 1) + 1) : Nat) : Int) % 3 == 0) = ((((((kq + 1) + 1) + 1) + 1) + 1) % 3 == 0) := by rw [Bool.eq_iff_iff, beq_iff_eq, beq_iff_eq]; omega
      push_cast at EB5
      replace EB5 := uhide EB5
      go_wp2_with (first
        | ((with_reducible refine wpList_store_v ?qqg291 3 ?qqx291 ?qqy291 ?qqo291 ?qqd291 g (q * 17) ?qqh291 (.int .i64 (kq : Nat)) ?qqv291 one_int Tryz.zObj_int (HM.out.there _ NN0.out) ?_); (case qqg291 => rfl); (case qqo291 => rfl); (case qqd291 => rfl); (case qqh291 => first | (simp; done) | (simp [Act.eval]; done) | (simp only [Act.put]; simp; done) | (simp only [Act.put]; simp [Act.eval]; done)); (case qqv291 => first | (simp; done) | (simp [Act.eval]; done) | (simp [Act.eval]; omega) | (simp only [Act.put]; simp; done) | (simp only [Act.put]; simp [Act.eval]; done) | (simp only [Act.put]; simp [Act.eval]; omega) | (simp [Act.eval, Bool.eq_iff_iff]; omega)); intro wy ey; replace HM := uhide (HP0.out _ wy _ HM.out rfl ey); clear ey)
        )
      refine (HT1.out _ _ (by omega)).mono ?_
      rintro e1 w1 ⟨rfl, hb1⟩
      replace HM := uhide (HM.out.below hb1)
      clear hb1
      go_wp2_with (first
        | ((with_reducible refine wpList_store_v ?qqg298 9 ?qqx298 ?qqy298 ?qqo298 ?qqd298 g (q * 17 + 1) ?qqh298 (.string M1) ?qqv298 one_string Tryz.zObj_string (HM.out.there _ NN1.out) ?_); (case qqg298 => rfl); (case qqo298 => rfl); (case qqd298 => rfl); (case qqh298 => first | (simp; done) | (simp [Act.eval]; done) | (simp only [Act.put]; simp; done) | (simp only [Act.put]; simp [Act.eval]; done)); (case qqv298 => first | (simp; done) | (simp [Act.eval]; done) | (simp [Act.eval]; omega) | (simp only [Act.put]; simp; done) | (simp only [Act.put]; simp [Act.eval]; done) | (simp only [Act.put]; simp [Act.eval]; omega) | (simp [Act.eval, Bool.eq_iff_iff]; omega)); intro wy ey; replace HM := uhide (HP1.out _ wy _ HM.out rfl ey); clear ey)
        | ((with_reducible refine wpList_store_v ?qqg299 3 ?qqx299 ?qqy299 ?qqo299 ?qqd299 g (q * 17 + 2) ?qqh299 (.int .i64 (((kq + 1) + 1) : Nat)) ?qqv299 one_int Tryz.zObj_int (HM.out.there _ NN2.out) ?_); (case qqg299 => rfl); (case qqo299 => rfl); (case qqd299 => rfl); (case qqh299 => first | (simp; done) | (simp [Act.eval]; done) | (simp only [Act.put]; simp; done) | (simp only [Act.put]; simp [Act.eval]; done)); (case qqv299 => first | (simp; done) | (simp [Act.eval]; done) | (simp [Act.eval]; omega) | (simp only [Act.put]; simp; done) | (simp only [Act.put]; simp [Act.eval]; done) | (simp only [Act.put]; simp [Act.eval]; omega) | (simp [Act.eval, Bool.eq_iff_iff]; omega)); intro wy ey; replace HM := uhide (HP2.out _ wy _ HM.out rfl ey); clear ey)
        | ((with_reducible refine wpList_store_v ?qqg300 3 ?qqx300 ?qqy300 ?qqo300 ?qqd300 g (q * 17 + 3) ?qqh300 (.int .i64 ((((kq + 1) + 1) + 1) : Nat)) ?qqv300 one_int Tryz.zObj_int (HM.out.there _ NN3.out) ?_); (case qqg300 => rfl); (case qqo300 => rfl); (case qqd300 => rfl); (case qqh300 => first | (simp; done) | (simp [Act.eval]; done) | (simp only [Act.put]; simp; done) | (simp only [Act.put]; simp [Act.eval]; done)); (case qqv300 => first | (simp; done) | (simp [Act.eval]; done) | (simp [Act.eval]; omega) | (simp only [Act.put]; simp; done) | (simp only [Act.put]; simp [Act.eval]; done) | (simp only [Act.put]; simp [Act.eval]; omega) | (simp [Act.eval, Bool.eq_iff_iff]; omega)); intro wy ey; replace HM := uhide (HP3.out _ wy _ HM.out rfl ey); clear ey)
        | ((with_reducible refine wpList_store_v ?qqg301 3 ?qqx301 ?qqy301 ?qqo301 ?qqd301 g (q * 17 + 4) ?qqh301 (.int .i64 (((((kq + 1) + 1) + 1) + 1) : Nat)) ?qqv301 one_int Tryz.zObj_int (HM.out.there _ NN4.out) ?_); (case qqg301 => rfl); (case qqo301 => rfl); (case qqd301 => rfl); (case qqh301 => first | (simp; done) | (simp [Act.eval]; done) | (simp only [Act.put]; simp; done) | (simp only [Act.put]; simp [Act.eval]; done)); (case qqv301 => first | (simp; done) | (simp [Act.eval]; done) | (simp [Act.eval]; omega) | (simp only [Act.put]; simp; done) | (simp only [Act.put]; simp [Act.eval]; done) | (simp only [Act.put]; simp [Act.eval]; omega) | (simp [Act.eval, Bool.eq_iff_iff]; omega)); intro wy ey; replace HM := uhide (HP4.out _ wy _ HM.out rfl ey); clear ey)
        | ((with_reducible refine wpList_store_v ?qqg302 4 ?qqx302 ?qqy302 ?qqo302 ?qqd302 g (q * 17 + 5) ?qqh302 (.bool ((((((kq + 1) + 1) + 1) + 1) + 1) % 3 == 0)) ?qqv302 one_bool Tryz.zObj_bool (HM.out.there _ NN5.out) ?_); (case qqg302 => rfl); (case qqo302 => rfl); (case qqd302 => rfl); (case qqh302 => first | (simp; done) | (simp [Act.eval]; done) | (simp only [Act.put]; simp; done) | (simp only [Act.put]; simp [Act.eval]; done)); (case qqv302 => first | exact congrArg Value.bool EB5.out | rfl); intro wy ey; replace HM := uhide (HP5.out _ wy _ HM.out rfl ey); clear ey)
        | ((with_reducible refine wpList_load_one ?qqg303 28 ?qqx303 ?qqo303 g (q * 17 + 6) ?qqh303 (.slice a6 n6 p6) Tryz.rObj_Lstring (HQ6.out _ HM.out) ?_); (case qqg303 => rfl); (case qqo303 => rfl); (case qqh303 => first | (simp; done) | (simp [Act.eval]; done) | (simp only [Act.put]; simp; done) | (simp only [Act.put]; simp [Act.eval]; done)))
        )
      refine (HC6.out _ _ HM.out (by omega)).mono ?_
      rintro e1 w2 ⟨rfl, HM2⟩
      replace HM := HM2
      go_wp2_with (first
        | ((with_reducible refine wpList_store_v ?qqg309 3 ?qqx309 ?qqy309 ?qqo309 ?qqd309 g (q * 17 + 7) ?qqh309 (.int .i64 ((((((((kq + 1) + 1) + 1) + 1) + 1) + 1) + m6) : Nat)) ?qqv309 one_int Tryz.zObj_int (HM.out.there _ NN7.out) ?_); (case qqg309 => rfl); (case qqo309 => rfl); (case qqd309 => rfl); (case qqh309 => first | (simp; done) | (simp [Act.eval]; done) | (simp only [Act.put]; simp; done) | (simp only [Act.put]; simp [Act.eval]; done)); (case qqv309 => first | (simp; done) | (simp [Act.eval]; done) | (simp [Act.eval]; omega) | (simp only [Act.put]; simp; done) | (simp only [Act.put]; simp [Act.eval]; done) | (simp only [Act.put]; simp [Act.eval]; omega) | (simp [Act.eval, Bool.eq_iff_iff]; omega)); intro wy ey; replace HM := uhide (HP7.out _ wy _ HM.out rfl ey); clear ey)
        )
      refine (HT8.out _ _ (by omega)).mono ?_
      rintro e1 w3 ⟨rfl, hb3⟩
      replace HM := uhide (HM.out.below hb3)
      clear hb3
      go_wp2_with (first
        | ((with_reducible refine wpList_store_v ?qqg316 9 ?qqx316 ?qqy316 ?qqo316 ?qqd316 g (q * 17 + 8) ?qqh316 (.string M8) ?qqv316 one_string Tryz.zObj_string (HM.out.there _ NN8.out) ?_); (case qqg316 => rfl); (case qqo316 => rfl); (case qqd316 => rfl); (case qqh316 => first | (simp; done) | (simp [Act.eval]; done) | (simp only [Act.put]; simp; done) | (simp only [Act.put]; simp [Act.eval]; done)); (case qqv316 => first | (simp; done) | (simp [Act.eval]; done) | (simp [Act.eval]; omega) | (simp only [Act.put]; simp; done) | (simp only [Act.put]; simp [Act.eval]; done) | (simp only [Act.put]; simp [Act.eval]; omega) | (simp [Act.eval, Bool.eq_iff_iff]; omega)); intro wy ey; replace HM := uhide (HP8.out _ wy _ HM.out rfl ey); clear ey)
        | ((with_reducible refine wpList_store_v ?qqg317 3 ?qqx317 ?qqy317 ?qqo317 ?qqd317 g (q * 17 + 9) ?qqh317 (.int .i64 ((((((((((kq + 1) + 1) + 1) + 1) + 1) + 1) + m6) + 1) + 1) : Nat)) ?qqv317 one_int Tryz.zObj_int (HM.out.there _ NN9.out) ?_); (case qqg317 => rfl); (case qqo317 => rfl); (case qqd317 => rfl); (case qqh317 => first | (simp; done) | (simp [Act.eval]; done) | (simp only [Act.put]; simp; done) | (simp only [Act.put]; simp [Act.eval]; done)); (case qqv317 => first | (simp; done) | (simp [Act.eval]; done) | (simp [Act.eval]; omega) | (simp only [Act.put]; simp; done) | (simp only [Act.put]; simp [Act.eval]; done) | (simp only [Act.put]; simp [Act.eval]; omega) | (simp [Act.eval, Bool.eq_iff_iff]; omega)); intro wy ey; replace HM := uhide (HP9.out _ wy _ HM.out rfl ey); clear ey)
        | ((with_reducible refine wpList_load_one ?qqg318 28 ?qqx318 ?qqo318 g (q * 17 + 10) ?qqh318 (.slice a10 n10 p10) Tryz.rObj_Lstring (HQ10.out _ HM.out) ?_); (case qqg318 => rfl); (case qqo318 => rfl); (case qqh318 => first | (simp; done) | (simp [Act.eval]; done) | (simp only [Act.put]; simp; done) | (simp only [Act.put]; simp [Act.eval]; done)))
        )
      refine (HC10.out _ _ HM.out (by omega)).mono ?_
      rintro e1 w4 ⟨rfl, HM2⟩
      replace HM := HM2
      go_wp2_with (first
        | ((with_reducible refine wpList_load_one ?qqg324 29 ?qqx324 ?qqo324 g (q * 17 + 11) ?qqh324 (.slice a11 n11 p11) Tryz.rObj_Limpl_Value (HQ11.out _ HM.out) ?_); (case qqg324 => rfl); (case qqo324 => rfl); (case qqh324 => first | (simp; done) | (simp [Act.eval]; done) | (simp only [Act.put]; simp; done) | (simp only [Act.put]; simp [Act.eval]; done)))
        )
      refine (HC11.out _ _ HM.out (by omega)).mono ?_
      rintro e1 w5 ⟨rfl, HM2⟩
      replace HM := HM2
      go_wp2_with (first
        | ((with_reducible refine wpList_store_v ?qqg330 3 ?qqx330 ?qqy330 ?qqo330 ?qqd330 g (q * 17 + 12) ?qqh330 (.int .i64 (((((((((((((kq + 1) + 1) + 1) + 1) + 1) + 1) + m6) + 1) + 1) + 1) + m10) + m11) : Nat)) ?qqv330 one_int Tryz.zObj_int (HM.out.there _ NN12.out) ?_); (case qqg330 => rfl); (case qqo330 => rfl); (case qqd330 => rfl); (case qqh330 => first | (simp; done) | (simp [Act.eval]; done) | (simp only [Act.put]; simp; done) | (simp only [Act.put]; simp [Act.eval]; done)); (case qqv330 => first | (simp; done) | (simp [Act.eval]; done) | (simp [Act.eval]; omega) | (simp only [Act.put]; simp; done) | (simp only [Act.put]; simp [Act.eval]; done) | (simp only [Act.put]; simp [Act.eval]; omega) | (simp [Act.eval, Bool.eq_iff_iff]; omega)); intro wy ey; replace HM := uhide (HP12.out _ wy _ HM.out rfl ey); clear ey)
        )
      refine (HT13.out _ _ (by omega)).mono ?_
      rintro e1 w6 ⟨rfl, hb6⟩
      replace HM := uhide (HM.out.below hb6)
      clear hb6
      go_wp2_with (first
        | ((with_reducible refine wpList_store_v ?qqg337 9 ?qqx337 ?qqy337 ?qqo337 ?qqd337 g (q * 17 + 13) ?qqh337 (.string M13) ?qqv337 one_string Tryz.zObj_string (HM.out.there _ NN13.out) ?_); (case qqg337 => rfl); (case qqo337 => rfl); (case qqd337 => rfl); (case qqh337 => first | (simp; done) | (simp [Act.eval]; done) | (simp only [Act.put]; simp; done) | (simp only [Act.put]; simp [Act.eval]; done)); (case qqv337 => first | (simp; done) | (simp [Act.eval]; done) | (simp [Act.eval]; omega) | (simp only [Act.put]; simp; done) | (simp only [Act.put]; simp [Act.eval]; done) | (simp only [Act.put]; simp [Act.eval]; omega) | (simp [Act.eval, Bool.eq_iff_iff]; omega)); intro wy ey; replace HM := uhide (HP13.out _ wy _ HM.out rfl ey); clear ey)
        | ((with_reducible refine wpList_store_v ?qqg338 3 ?qqx338 ?qqy338 ?qqo338 ?qqd338 g (q * 17 + 14) ?qqh338 (.int .i64 (((((((((((((((kq + 1) + 1) + 1) + 1) + 1) + 1) + m6) + 1) + 1) + 1) + m10) + m11) + 1) + 1) : Nat)) ?qqv338 one_int Tryz.zObj_int (HM.out.there _ NN14.out) ?_); (case qqg338 => rfl); (case qqo338 => rfl); (case qqd338 => rfl); (case qqh338 => first | (simp; done) | (simp [Act.eval]; done) | (simp only [Act.put]; simp; done) | (simp only [Act.put]; simp [Act.eval]; done)); (case qqv338 => first | (simp; done) | (simp [Act.eval]; done) | (simp [Act.eval]; omega) | (simp only [Act.put]; simp; done) | (simp only [Act.put]; simp [Act.eval]; done) | (simp only [Act.put]; simp [Act.eval]; omega) | (simp [Act.eval, Bool.eq_iff_iff]; omega)); intro wy ey; replace HM := uhide (HP14.out _ wy _ HM.out rfl ey); clear ey)
        | ((with_reducible refine wpList_load_one ?qqg339 28 ?qqx339 ?qqo339 g (q * 17 + 15) ?qqh339 (.slice a15 n15 p15) Tryz.rObj_Lstring (HQ15.out _ HM.out) ?_); (case qqg339 => rfl); (case qqo339 => rfl); (case qqh339 => first | (simp; done) | (simp [Act.eval]; done) | (simp only [Act.put]; simp; done) | (simp only [Act.put]; simp [Act.eval]; done)))
        )
      refine (HC15.out _ _ HM.out (by omega)).mono ?_
      rintro e1 w7 ⟨rfl, HM2⟩
      replace HM := HM2
      go_wp2_with (first
        | ((with_reducible refine wpList_load_one ?qqg345 29 ?qqx345 ?qqo345 g (q * 17 + 16) ?qqh345 (.slice a16 n16 p16) Tryz.rObj_Limpl_Value (HQ16.out _ HM.out) ?_); (case qqg345 => rfl); (case qqo345 => rfl); (case qqh345 => first | (simp; done) | (simp [Act.eval]; done) | (simp only [Act.put]; simp; done) | (simp only [Act.put]; simp [Act.eval]; done)))
        )
      refine (HC16.out _ _ HM.out (by omega)).mono ?_
      rintro e1 w8 ⟨rfl, HM2⟩
      replace HM := HM2
      go_wp2
      go_roundw
      case rel => exact ⟨q + 1, by omega, by go_num, by rw [HE.out]; go_num, HN.out _ HM.out⟩
      case measure => (simp [intOf]; omega)
    · have e : q = n := by omega
      subst e
      obtain ⟨h1, h2⟩ := HM.out.done (by decide)
      have HD := uhide (And.intro h1 h2)
      have hl : cs.takeN (q * 17) = cs := by apply UD.ext; unfold UD.takeN; rw [UD.toL_ofL]; exact List.take_of_length_le (Nat.le_of_eq Ht.out.2.2.2.1)
      rw [hl]
      clear h1 h2 hl HM Ht Hp0 Hl0 Hkk
      go_wp2
      go_ret
      exact ⟨rfl, HD.out⟩
end Go.Proofs.YtamlgjmboljcdaaGreat
