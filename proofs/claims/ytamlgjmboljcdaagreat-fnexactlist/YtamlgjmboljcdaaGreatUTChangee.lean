/- Data as cells: the helpers of the laws over Change. -/
import Derived.Test.YtamlgjmboljcdaaGreatULeaf
import Derived.Test.YtamlgjmboljcdaaGreatULd
import Derived.Test.YtamlgjmboljcdaaGreatUFChange
import Derived.Test.YtamlgjmboljcdaaGreatUTObje
namespace Go.Proofs.YtamlgjmboljcdaaGreat
open Go.RowKit Go.BigFrame
set_option linter.unusedVariables false

set_option maxRecDepth 100000 in
set_option maxHeartbeats 4000000 in
theorem umarkChangeS_any (n k0 : Nat) (cs : UD) (c : Value) (S : List Nat) (w : World) (ht : tyS 19 n cs 9) (hnd : S.Nodup) (hk0 : 1 ≤ k0) (hk1 : k0 + cnt cs ≤ 100000000) (hx : oS w 19 n cs c S) :
    Calls Tryz.prog 52 #[c, .int .i64 k0] w fun e w' => e = .returned (.int .i64 (k0 + cnt cs : Nat)) ∧ oS w' 19 n (mk cs k0) c S ∧ OutS S w w' := by
  obtain ⟨a, cap, rfl⟩ := hx.slice
  have hmx := ht.2.2.1
  unfold maxLen at hmx
  rcases Nat.eq_zero_or_pos n with h0 | hpos
  · subst h0
    obtain ⟨e1, e2⟩ := hx.empty rfl k0
    rw [e1, e2]
    have Hx := uhide hx
    clear hx ht hnd e1 e2
    go_enter Tryz.func52, Tryz.ntmps52
    go_wp2
    go_loopw [1, 5] (fun s i wr => i = .int .i64 0 ∧ s = .int .i64 k0 ∧ wr = w) (fun _ _ _ => 0)
    case atStart => exact ⟨rfl, rfl, rfl⟩
    case round =>
      obtain ⟨rfl, rfl, rfl⟩ := hrel
      go_wp2
      go_ret
      exact ⟨rfl, Hx.out, OutS.refl _ _⟩
  obtain ⟨e, g, S1, xs0, M0, rfl, hp0, hl0⟩ := MS.start hx hnd hpos k0
  obtain ⟨cap, h1, hgl⟩ := M0.own
  cases h1
  have M0 := uhide M0
  have Ht := uhide ht
  have Hp0 := uhide hp0
  have Hl0 := uhide hl0
  have Hkk : Hid (∀ q, k0 + cnt (cs.takeN (q * 19)) ≤ 100000000) := fun q => by have := cnt_le cs (q * 19); omega
  clear hx ht hnd hp0 hl0
  go_enter Tryz.func52, Tryz.ntmps52
  go_wp2
  go_loopw [1, 5] (fun s i wr => ∃ (q : Nat), q ≤ n ∧ i = .int .i64 q ∧ s = .int .i64 (k0 + cnt (cs.takeN (q * 19)) : Nat) ∧ Hid (MS w wr e 19 n (.slice (some ⟨g, 0, none⟩) n cap) g cs k0 S1 xs0 (q * 19))) (fun _ i _ => n - (intOf i).toNat)
  case atStart => exact ⟨0, Nat.zero_le _, rfl, by rw [Nat.zero_mul]; rfl, by rw [Nat.zero_mul]; exact M0⟩
  case round =>
    clear M0
    obtain ⟨q, hq, rfl, rfl, HM⟩ := hrel
    by_cases hlt : q < n
    · have htr := Ht.out.row hlt
      have hKn : q * 19 + 19 ≤ n * 19 := by have := Nat.mul_le_mul_right 19 (show q + 1 ≤ n by omega); rw [Nat.succ_mul] at this; exact this
      obtain ⟨z0, z1, z2, z3, z4, z5, z6, z7, n8, c8, z9, z10, z11, n12, c12, n13, c13, z14, z15, z16, n17, c17, n18, c18, hR, g0, g2, g3, g4, g5, g6, g8, g9, g10, g11, g12, g13, g14, g15, g16, g17, g18⟩ := partsChange htr
      obtain ⟨kq, hkq⟩ : ∃ kq, k0 + cnt (cs.takeN (q * 19)) = kq := ⟨_, rfl⟩
      have hK0 : 1 ≤ kq := by omega
      have at0 : cs.at? (q * 19) = some (.p (.int .i64 z0)) := at_row (j := 0) hR (by decide) rfl
      have ct0 : Hid (k0 + cnt (cs.takeN (q * 19)) = kq) := hkq
      have at1 : cs.at? (q * 19 + 1) = some (.p (.bool z1)) := at_row (j := 1) hR (by decide) rfl
      have ct1 : Hid (k0 + cnt (cs.takeN (q * 19 + 1)) = (kq + 1)) := ct_next ct0.out at0
      have at2 : cs.at? (q * 19 + 2) = some (.p (.int .i64 z2)) := at_row (j := 2) hR (by decide) rfl
      have ct2 : Hid (k0 + cnt (cs.takeN (q * 19 + 2)) = ((kq + 1) + 1)) := ct_next ct1.out at1
      have at3 : cs.at? (q * 19 + 3) = some (.p (.string z3)) := at_row (j := 3) hR (by decide) rfl
      have ct3 : Hid (k0 + cnt (cs.takeN (q * 19 + 3)) = (((kq + 1) + 1) + 1)) := ct_next ct2.out at2
      have at4 : cs.at? (q * 19 + 4) = some (.p (.int .i64 z4)) := at_row (j := 4) hR (by decide) rfl
      have ct4 : Hid (k0 + cnt (cs.takeN (q * 19 + 4)) = ((((kq + 1) + 1) + 1) + 1)) := ct_next ct3.out at3
      have at5 : cs.at? (q * 19 + 5) = some (.p (.int .i64 z5)) := at_row (j := 5) hR (by decide) rfl
      have ct5 : Hid (k0 + cnt (cs.takeN (q * 19 + 5)) = (((((kq + 1) + 1) + 1) + 1) + 1)) := ct_next ct4.out at4
      have at6 : cs.at? (q * 19 + 6) = some (.p (.int .i64 z6)) := at_row (j := 6) hR (by decide) rfl
      have ct6 : Hid (k0 + cnt (cs.takeN (q * 19 + 6)) = ((((((kq + 1) + 1) + 1) + 1) + 1) + 1)) := ct_next ct5.out at5
      have at7 : cs.at? (q * 19 + 7) = some (.p (.bool z7)) := at_row (j := 7) hR (by decide) rfl
      have ct7 : Hid (k0 + cnt (cs.takeN (q * 19 + 7)) = (((((((kq + 1) + 1) + 1) + 1) + 1) + 1) + 1)) := ct_next ct6.out at6
      have at8 : cs.at? (q * 19 + 8) = some (.l 1 n8 c8) := at_row (j := 8) hR (by decide) rfl
      have ct8 : Hid (k0 + cnt (cs.takeN (q * 19 + 8)) = ((((((((kq + 1) + 1) + 1) + 1) + 1) + 1) + 1) + 1)) := ct_next ct7.out at7
      obtain ⟨a8, p8, x8⟩ := Hl0.out _ _ _ _ at8
      have at9 : cs.at? (q * 19 + 9) = some (.p (.int .i64 z9)) := at_row (j := 9) hR (by decide) rfl
      have ct9 : Hid (k0 + cnt (cs.takeN (q * 19 + 9)) = (((((((((kq + 1) + 1) + 1) + 1) + 1) + 1) + 1) + 1) + cnt c8)) := ct_next ct8.out at8
      have at10 : cs.at? (q * 19 + 10) = some (.p (.string z10)) := at_row (j := 10) hR (by decide) rfl
      have ct10 : Hid (k0 + cnt (cs.takeN (q * 19 + 10)) = ((((((((((kq + 1) + 1) + 1) + 1) + 1) + 1) + 1) + 1) + cnt c8) + 1)) := ct_next ct9.out at9
      have at11 : cs.at? (q * 19 + 11) = some (.p (.int .i64 z11)) := at_row (j := 11) hR (by decide) rfl
      have ct11 : Hid (k0 + cnt (cs.takeN (q * 19 + 11)) = (((((((((((kq + 1) + 1) + 1) + 1) + 1) + 1) + 1) + 1) + cnt c8) + 1) + 1)) := ct_next ct10.out at10
      have at12 : cs.at? (q * 19 + 12) = some (.l 1 n12 c12) := at_row (j := 12) hR (by decide) rfl
      have ct12 : Hid (k0 + cnt (cs.takeN (q * 19 + 12)) = ((((((((((((kq + 1) + 1) + 1) + 1) + 1) + 1) + 1) + 1) + cnt c8) + 1) + 1) + 1)) := ct_next ct11.out at11
      obtain ⟨a12, p12, x12⟩ := Hl0.out _ _ _ _ at12
      have at13 : cs.at? (q * 19 + 13) = some (.l 5 n13 c13) := at_row (j := 13) hR (by decide) rfl
      have ct13 : Hid (k0 + cnt (cs.takeN (q * 19 + 13)) = (((((((((((((kq + 1) + 1) + 1) + 1) + 1) + 1) + 1) + 1) + cnt c8) + 1) + 1) + 1) + cnt c12)) := ct_next ct12.out at12
      obtain ⟨a13, p13, x13⟩ := Hl0.out _ _ _ _ at13
      have at14 : cs.at? (q * 19 + 14) = some (.p (.int .i64 z14)) := at_row (j := 14) hR (by decide) rfl
      have ct14 : Hid (k0 + cnt (cs.takeN (q * 19 + 14)) = ((((((((((((((kq + 1) + 1) + 1) + 1) + 1) + 1) + 1) + 1) + cnt c8) + 1) + 1) + 1) + cnt c12) + cnt c13)) := ct_next ct13.out at13
      have at15 : cs.at? (q * 19 + 15) = some (.p (.string z15)) := at_row (j := 15) hR (by decide) rfl
      have ct15 : Hid (k0 + cnt (cs.takeN (q * 19 + 15)) = (((((((((((((((kq + 1) + 1) + 1) + 1) + 1) + 1) + 1) + 1) + cnt c8) + 1) + 1) + 1) + cnt c12) + cnt c13) + 1)) := ct_next ct14.out at14
      have at16 : cs.at? (q * 19 + 16) = some (.p (.int .i64 z16)) := at_row (j := 16) hR (by decide) rfl
      have ct16 : Hid (k0 + cnt (cs.takeN (q * 19 + 16)) = ((((((((((((((((kq + 1) + 1) + 1) + 1) + 1) + 1) + 1) + 1) + cnt c8) + 1) + 1) + 1) + cnt c12) + cnt c13) + 1) + 1)) := ct_next ct15.out at15
      have at17 : cs.at? (q * 19 + 17) = some (.l 1 n17 c17) := at_row (j := 17) hR (by decide) rfl
      have ct17 : Hid (k0 + cnt (cs.takeN (q * 19 + 17)) = (((((((((((((((((kq + 1) + 1) + 1) + 1) + 1) + 1) + 1) + 1) + cnt c8) + 1) + 1) + 1) + cnt c12) + cnt c13) + 1) + 1) + 1)) := ct_next ct16.out at16
      obtain ⟨a17, p17, x17⟩ := Hl0.out _ _ _ _ at17
      have at18 : cs.at? (q * 19 + 18) = some (.l 5 n18 c18) := at_row (j := 18) hR (by decide) rfl
      have ct18 : Hid (k0 + cnt (cs.takeN (q * 19 + 18)) = ((((((((((((((((((kq + 1) + 1) + 1) + 1) + 1) + 1) + 1) + 1) + cnt c8) + 1) + 1) + 1) + cnt c12) + cnt c13) + 1) + 1) + 1) + cnt c17)) := ct_next ct17.out at17
      obtain ⟨a18, p18, x18⟩ := Hl0.out _ _ _ _ at18
      have hend : Hid (k0 + cnt (cs.takeN ((q + 1) * 19)) = (((((((((((((((((((kq + 1) + 1) + 1) + 1) + 1) + 1) + 1) + 1) + cnt c8) + 1) + 1) + 1) + cnt c12) + cnt c13) + 1) + 1) + 1) + cnt c17) + cnt c18)) := ct_end (ct_next ct18.out at18)
      have hkb : (((((((((((((((((((kq + 1) + 1) + 1) + 1) + 1) + 1) + 1) + 1) + cnt c8) + 1) + 1) + 1) + cnt c12) + cnt c13) + 1) + 1) + 1) + cnt c17) + cnt c18) ≤ 100000000 := by have h := Hkk.out (q + 1); rw [hend.out] at h; exact h
      have hk1q : Hid (k0 + cnt (cs.takeN (q * 19)) = kq) := hkq
      clear hkq
      have KB0 : kq ≤ 1000000000 := by omega
      have HP0 : Hid (∀ (wx wy : World) (u : Value), MS w wx e 19 n (.slice (some ⟨g, 0, none⟩) n cap) g cs k0 S1 xs0 (q * 19) → u = .int .i64 (kq : Nat) → wy = wx.setCells g (q * 19) [u] → MS w wy e 19 n (.slice (some ⟨g, 0, none⟩) n cap) g cs k0 S1 xs0 (q * 19 + 1)) := fun wx wy u h hu e => h.cellS at0 ct0.out (hu.trans (mkP_int _ _ KB0).symm) e rfl
      have HP1 : Hid (∀ (wx wy : World) (u : Value), MS w wx e 19 n (.slice (some ⟨g, 0, none⟩) n cap) g cs k0 S1 xs0 (q * 19 + 1) → u = .bool ((kq + 1) % 3 == 0) → wy = wx.setCells g (q * 19 + 1) [u] → MS w wy e 19 n (.slice (some ⟨g, 0, none⟩) n cap) g cs k0 S1 xs0 (q * 19 + 2)) := fun wx wy u h hu e => h.cellS at1 ct1.out (hu.trans rfl) e rfl
      have KB2 : ((kq + 1) + 1) ≤ 1000000000 := by omega
      have HP2 : Hid (∀ (wx wy : World) (u : Value), MS w wx e 19 n (.slice (some ⟨g, 0, none⟩) n cap) g cs k0 S1 xs0 (q * 19 + 2) → u = .int .i64 (((kq + 1) + 1) : Nat) → wy = wx.setCells g (q * 19 + 2) [u] → MS w wy e 19 n (.slice (some ⟨g, 0, none⟩) n cap) g cs k0 S1 xs0 (q * 19 + 3)) := fun wx wy u h hu e => h.cellS at2 ct2.out (hu.trans (mkP_int _ _ KB2).symm) e rfl
      have HP3 : Hid (∀ (wx wy : World) (u : Value), MS w wx e 19 n (.slice (some ⟨g, 0, none⟩) n cap) g cs k0 S1 xs0 (q * 19 + 3) → u = .string (umtx (((kq + 1) + 1) + 1)) → wy = wx.setCells g (q * 19 + 3) [u] → MS w wy e 19 n (.slice (some ⟨g, 0, none⟩) n cap) g cs k0 S1 xs0 (q * 19 + 4)) := fun wx wy u h hu e => h.cellS at3 ct3.out (hu.trans rfl) e rfl
      have HT3 : Hid (∀ (wx : World) (x : Int), x = (((((kq + 1) + 1) + 1) : Nat) : Int) → Calls Tryz.prog 121 #[.int .i64 x] wx fun e1 w' => e1 = .returned (.string (umtx (((kq + 1) + 1) + 1))) ∧ Below wx.heap.size wx w') := fun wx x hx => by rw [hx]; exact umarkText_any _ wx (by omega) (by omega)
      have KB4 : ((((kq + 1) + 1) + 1) + 1) ≤ 1000000000 := by omega
      have HP4 : Hid (∀ (wx wy : World) (u : Value), MS w wx e 19 n (.slice (some ⟨g, 0, none⟩) n cap) g cs k0 S1 xs0 (q * 19 + 4) → u = .int .i64 (((((kq + 1) + 1) + 1) + 1) : Nat) → wy = wx.setCells g (q * 19 + 4) [u] → MS w wy e 19 n (.slice (some ⟨g, 0, none⟩) n cap) g cs k0 S1 xs0 (q * 19 + 5)) := fun wx wy u h hu e => h.cellS at4 ct4.out (hu.trans (mkP_int _ _ KB4).symm) e rfl
      have KB5 : (((((kq + 1) + 1) + 1) + 1) + 1) ≤ 1000000000 := by omega
      have HP5 : Hid (∀ (wx wy : World) (u : Value), MS w wx e 19 n (.slice (some ⟨g, 0, none⟩) n cap) g cs k0 S1 xs0 (q * 19 + 5) → u = .int .i64 ((((((kq + 1) + 1) + 1) + 1) + 1) : Nat) → wy = wx.setCells g (q * 19 + 5) [u] → MS w wy e 19 n (.slice (some ⟨g, 0, none⟩) n cap) g cs k0 S1 xs0 (q * 19 + 6)) := fun wx wy u h hu e => h.cellS at5 ct5.out (hu.trans (mkP_int _ _ KB5).symm) e rfl
      have KB6 : ((((((kq + 1) + 1) + 1) + 1) + 1) + 1) ≤ 1000000000 := by omega
      have HP6 : Hid (∀ (wx wy : World) (u : Value), MS w wx e 19 n (.slice (some ⟨g, 0, none⟩) n cap) g cs k0 S1 xs0 (q * 19 + 6) → u = .int .i64 (((((((kq + 1) + 1) + 1) + 1) + 1) + 1) : Nat) → wy = wx.setCells g (q * 19 + 6) [u] → MS w wy e 19 n (.slice (some ⟨g, 0, none⟩) n cap) g cs k0 S1 xs0 (q * 19 + 7)) := fun wx wy u h hu e => h.cellS at6 ct6.out (hu.trans (mkP_int _ _ KB6).symm) e rfl
      have HP7 : Hid (∀ (wx wy : World) (u : Value), MS w wx e 19 n (.slice (some ⟨g, 0, none⟩) n cap) g cs k0 S1 xs0 (q * 19 + 7) → u = .bool ((((((((kq + 1) + 1) + 1) + 1) + 1) + 1) + 1) % 3 == 0) → wy = wx.setCells g (q * 19 + 7) [u] → MS w wy e 19 n (.slice (some ⟨g, 0, none⟩) n cap) g cs k0 S1 xs0 (q * 19 + 8)) := fun wx wy u h hu e => h.cellS at7 ct7.out (hu.trans rfl) e rfl
      have HC8 : Hid (∀ (wx : World) (x : Int), MS w wx e 19 n (.slice (some ⟨g, 0, none⟩) n cap) g cs k0 S1 xs0 (q * 19 + 8) → x = ((((((((((kq + 1) + 1) + 1) + 1) + 1) + 1) + 1) + 1) : Nat) : Int) → Calls Tryz.prog 46 #[.slice a8 n8 p8, .int .i64 x] wx fun e1 w' => e1 = .returned (.int .i64 ((((((((((kq + 1) + 1) + 1) + 1) + 1) + 1) + 1) + 1) + cnt c8 : Nat))) ∧ Hid (MS w w' e 19 n (.slice (some ⟨g, 0, none⟩) n cap) g cs k0 S1 xs0 (q * 19 + 9))) := by
        intro wx x h hxx
        rw [hxx]
        obtain ⟨c', T, q1, q2, q3, q5⟩ := h.part at8
        rw [x8] at q1
        cases q1
        rw [ct8.out] at q5
        exact (umarkStringS_any n8 ((((((((kq + 1) + 1) + 1) + 1) + 1) + 1) + 1) + 1) c8 _ T wx g8 q3 (by omega) (by omega) q2).mono fun e1 w' h => ⟨h.1, q5 w' h.2.2 h.2.1⟩
      have KB9 : (((((((((kq + 1) + 1) + 1) + 1) + 1) + 1) + 1) + 1) + cnt c8) ≤ 1000000000 := by omega
      have HP9 : Hid (∀ (wx wy : World) (u : Value), MS w wx e 19 n (.slice (some ⟨g, 0, none⟩) n cap) g cs k0 S1 xs0 (q * 19 + 9) → u = .int .i64 ((((((((((kq + 1) + 1) + 1) + 1) + 1) + 1) + 1) + 1) + cnt c8) : Nat) → wy = wx.setCells g (q * 19 + 9) [u] → MS w wy e 19 n (.slice (some ⟨g, 0, none⟩) n cap) g cs k0 S1 xs0 (q * 19 + 10)) := fun wx wy u h hu e => h.cellS at9 ct9.out (hu.trans (mkP_int _ _ KB9).symm) e rfl
      have HP10 : Hid (∀ (wx wy : World) (u : Value), MS w wx e 19 n (.slice (some ⟨g, 0, none⟩) n cap) g cs k0 S1 xs0 (q * 19 + 10) → u = .string (umtx ((((((((((kq + 1) + 1) + 1) + 1) + 1) + 1) + 1) + 1) + cnt c8) + 1)) → wy = wx.setCells g (q * 19 + 10) [u] → MS w wy e 19 n (.slice (some ⟨g, 0, none⟩) n cap) g cs k0 S1 xs0 (q * 19 + 11)) := fun wx wy u h hu e => h.cellS at10 ct10.out (hu.trans rfl) e rfl
      have HT10 : Hid (∀ (wx : World) (x : Int), x = ((((((((((((kq + 1) + 1) + 1) + 1) + 1) + 1) + 1) + 1) + cnt c8) + 1) : Nat) : Int) → Calls Tryz.prog 121 #[.int .i64 x] wx fun e1 w' => e1 = .returned (.string (umtx ((((((((((kq + 1) + 1) + 1) + 1) + 1) + 1) + 1) + 1) + cnt c8) + 1))) ∧ Below wx.heap.size wx w') := fun wx x hx => by rw [hx]; exact umarkText_any _ wx (by omega) (by omega)
      have KB11 : (((((((((((kq + 1) + 1) + 1) + 1) + 1) + 1) + 1) + 1) + cnt c8) + 1) + 1) ≤ 1000000000 := by omega
      have HP11 : Hid (∀ (wx wy : World) (u : Value), MS w wx e 19 n (.slice (some ⟨g, 0, none⟩) n cap) g cs k0 S1 xs0 (q * 19 + 11) → u = .int .i64 ((((((((((((kq + 1) + 1) + 1) + 1) + 1) + 1) + 1) + 1) + cnt c8) + 1) + 1) : Nat) → wy = wx.setCells g (q * 19 + 11) [u] → MS w wy e 19 n (.slice (some ⟨g, 0, none⟩) n cap) g cs k0 S1 xs0 (q * 19 + 12)) := fun wx wy u h hu e => h.cellS at11 ct11.out (hu.trans (mkP_int _ _ KB11).symm) e rfl
      have HC12 : Hid (∀ (wx : World) (x : Int), MS w wx e 19 n (.slice (some ⟨g, 0, none⟩) n cap) g cs k0 S1 xs0 (q * 19 + 12) → x = ((((((((((((((kq + 1) + 1) + 1) + 1) + 1) + 1) + 1) + 1) + cnt c8) + 1) + 1) + 1) : Nat) : Int) → Calls Tryz.prog 46 #[.slice a12 n12 p12, .int .i64 x] wx fun e1 w' => e1 = .returned (.int .i64 ((((((((((((((kq + 1) + 1) + 1) + 1) + 1) + 1) + 1) + 1) + cnt c8) + 1) + 1) + 1) + cnt c12 : Nat))) ∧ Hid (MS w w' e 19 n (.slice (some ⟨g, 0, none⟩) n cap) g cs k0 S1 xs0 (q * 19 + 13))) := by
        intro wx x h hxx
        rw [hxx]
        obtain ⟨c', T, q1, q2, q3, q5⟩ := h.part at12
        rw [x12] at q1
        cases q1
        rw [ct12.out] at q5
        exact (umarkStringS_any n12 ((((((((((((kq + 1) + 1) + 1) + 1) + 1) + 1) + 1) + 1) + cnt c8) + 1) + 1) + 1) c12 _ T wx g12 q3 (by omega) (by omega) q2).mono fun e1 w' h => ⟨h.1, q5 w' h.2.2 h.2.1⟩
      have HC13 : Hid (∀ (wx : World) (x : Int), MS w wx e 19 n (.slice (some ⟨g, 0, none⟩) n cap) g cs k0 S1 xs0 (q * 19 + 13) → x = (((((((((((((((kq + 1) + 1) + 1) + 1) + 1) + 1) + 1) + 1) + cnt c8) + 1) + 1) + 1) + cnt c12) : Nat) : Int) → Calls Tryz.prog 120 #[.slice a13 n13 p13, .int .i64 x] wx fun e1 w' => e1 = .returned (.int .i64 (((((((((((((((kq + 1) + 1) + 1) + 1) + 1) + 1) + 1) + 1) + cnt c8) + 1) + 1) + 1) + cnt c12) + cnt c13 : Nat))) ∧ Hid (MS w w' e 19 n (.slice (some ⟨g, 0, none⟩) n cap) g cs k0 S1 xs0 (q * 19 + 14))) := by
        intro wx x h hxx
        rw [hxx]
        obtain ⟨c', T, q1, q2, q3, q5⟩ := h.part at13
        rw [x13] at q1
        cases q1
        rw [ct13.out] at q5
        exact (umarkValueS_any n13 (((((((((((((kq + 1) + 1) + 1) + 1) + 1) + 1) + 1) + 1) + cnt c8) + 1) + 1) + 1) + cnt c12) c13 _ T wx g13 q3 (by omega) (by omega) q2).mono fun e1 w' h => ⟨h.1, q5 w' h.2.2 h.2.1⟩
      have KB14 : ((((((((((((((kq + 1) + 1) + 1) + 1) + 1) + 1) + 1) + 1) + cnt c8) + 1) + 1) + 1) + cnt c12) + cnt c13) ≤ 1000000000 := by omega
      have HP14 : Hid (∀ (wx wy : World) (u : Value), MS w wx e 19 n (.slice (some ⟨g, 0, none⟩) n cap) g cs k0 S1 xs0 (q * 19 + 14) → u = .int .i64 (((((((((((((((kq + 1) + 1) + 1) + 1) + 1) + 1) + 1) + 1) + cnt c8) + 1) + 1) + 1) + cnt c12) + cnt c13) : Nat) → wy = wx.setCells g (q * 19 + 14) [u] → MS w wy e 19 n (.slice (some ⟨g, 0, none⟩) n cap) g cs k0 S1 xs0 (q * 19 + 15)) := fun wx wy u h hu e => h.cellS at14 ct14.out (hu.trans (mkP_int _ _ KB14).symm) e rfl
      have HP15 : Hid (∀ (wx wy : World) (u : Value), MS w wx e 19 n (.slice (some ⟨g, 0, none⟩) n cap) g cs k0 S1 xs0 (q * 19 + 15) → u = .string (umtx (((((((((((((((kq + 1) + 1) + 1) + 1) + 1) + 1) + 1) + 1) + cnt c8) + 1) + 1) + 1) + cnt c12) + cnt c13) + 1)) → wy = wx.setCells g (q * 19 + 15) [u] → MS w wy e 19 n (.slice (some ⟨g, 0, none⟩) n cap) g cs k0 S1 xs0 (q * 19 + 16)) := fun wx wy u h hu e => h.cellS at15 ct15.out (hu.trans rfl) e rfl
      have HT15 : Hid (∀ (wx : World) (x : Int), x = (((((((((((((((((kq + 1) + 1) + 1) + 1) + 1) + 1) + 1) + 1) + cnt c8) + 1) + 1) + 1) + cnt c12) + cnt c13) + 1) : Nat) : Int) → Calls Tryz.prog 121 #[.int .i64 x] wx fun e1 w' => e1 = .returned (.string (umtx (((((((((((((((kq + 1) + 1) + 1) + 1) + 1) + 1) + 1) + 1) + cnt c8) + 1) + 1) + 1) + cnt c12) + cnt c13) + 1))) ∧ Below wx.heap.size wx w') := fun wx x hx => by rw [hx]; exact umarkText_any _ wx (by omega) (by omega)
      have KB16 : ((((((((((((((((kq + 1) + 1) + 1) + 1) + 1) + 1) + 1) + 1) + cnt c8) + 1) + 1) + 1) + cnt c12) + cnt c13) + 1) + 1) ≤ 1000000000 := by omega
      have HP16 : Hid (∀ (wx wy : World) (u : Value), MS w wx e 19 n (.slice (some ⟨g, 0, none⟩) n cap) g cs k0 S1 xs0 (q * 19 + 16) → u = .int .i64 (((((((((((((((((kq + 1) + 1) + 1) + 1) + 1) + 1) + 1) + 1) + cnt c8) + 1) + 1) + 1) + cnt c12) + cnt c13) + 1) + 1) : Nat) → wy = wx.setCells g (q * 19 + 16) [u] → MS w wy e 19 n (.slice (some ⟨g, 0, none⟩) n cap) g cs k0 S1 xs0 (q * 19 + 17)) := fun wx wy u h hu e => h.cellS at16 ct16.out (hu.trans (mkP_int _ _ KB16).symm) e rfl
      have HC17 : Hid (∀ (wx : World) (x : Int), MS w wx e 19 n (.slice (some ⟨g, 0, none⟩) n cap) g cs k0 S1 xs0 (q * 19 + 17) → x = (((((((((((((((((((kq + 1) + 1) + 1) + 1) + 1) + 1) + 1) + 1) + cnt c8) + 1) + 1) + 1) + cnt c12) + cnt c13) + 1) + 1) + 1) : Nat) : Int) → Calls Tryz.prog 46 #[.slice a17 n17 p17, .int .i64 x] wx fun e1 w' => e1 = .returned (.int .i64 (((((((((((((((((((kq + 1) + 1) + 1) + 1) + 1) + 1) + 1) + 1) + cnt c8) + 1) + 1) + 1) + cnt c12) + cnt c13) + 1) + 1) + 1) + cnt c17 : Nat))) ∧ Hid (MS w w' e 19 n (.slice (some ⟨g, 0, none⟩) n cap) g cs k0 S1 xs0 (q * 19 + 18))) := by
        intro wx x h hxx
        rw [hxx]
        obtain ⟨c', T, q1, q2, q3, q5⟩ := h.part at17
        rw [x17] at q1
        cases q1
        rw [ct17.out] at q5
        exact (umarkStringS_any n17 (((((((((((((((((kq + 1) + 1) + 1) + 1) + 1) + 1) + 1) + 1) + cnt c8) + 1) + 1) + 1) + cnt c12) + cnt c13) + 1) + 1) + 1) c17 _ T wx g17 q3 (by omega) (by omega) q2).mono fun e1 w' h => ⟨h.1, q5 w' h.2.2 h.2.1⟩
      have HC18 : Hid (∀ (wx : World) (x : Int), MS w wx e 19 n (.slice (some ⟨g, 0, none⟩) n cap) g cs k0 S1 xs0 (q * 19 + 18) → x = ((((((((((((((((((((kq + 1) + 1) + 1) + 1) + 1) + 1) + 1) + 1) + cnt c8) + 1) + 1) + 1) + cnt c12) + cnt c13) + 1) + 1) + 1) + cnt c17) : Nat) : Int) → Calls Tryz.prog 120 #[.slice a18 n18 p18, .int .i64 x] wx fun e1 w' => e1 = .returned (.int .i64 ((((((((((((((((((((kq + 1) + 1) + 1) + 1) + 1) + 1) + 1) + 1) + cnt c8) + 1) + 1) + 1) + cnt c12) + cnt c13) + 1) + 1) + 1) + cnt c17) + cnt c18 : Nat))) ∧ Hid (MS w w' e 19 n (.slice (some ⟨g, 0, none⟩) n cap) g cs k0 S1 xs0 (q * 19 + 19))) := by
        intro wx x h hxx
        rw [hxx]
        obtain ⟨c', T, q1, q2, q3, q5⟩ := h.part at18
        rw [x18] at q1
        cases q1
        rw [ct18.out] at q5
        exact (umarkValueS_any n18 ((((((((((((((((((kq + 1) + 1) + 1) + 1) + 1) + 1) + 1) + 1) + cnt c8) + 1) + 1) + 1) + cnt c12) + cnt c13) + 1) + 1) + 1) + cnt c17) c18 _ T wx g18 q3 (by omega) (by omega) q2).mono fun e1 w' h => ⟨h.1, q5 w' h.2.2 h.2.1⟩
      have NN0 : Hid (q * 19 < n * 19) := by show _ < _; omega
      have NN1 : Hid (q * 19 + 1 < n * 19) := by show _ < _; omega
      have NN2 : Hid (q * 19 + 2 < n * 19) := by show _ < _; omega
      have NN3 : Hid (q * 19 + 3 < n * 19) := by show _ < _; omega
      have NN4 : Hid (q * 19 + 4 < n * 19) := by show _ < _; omega
      have NN5 : Hid (q * 19 + 5 < n * 19) := by show _ < _; omega
      have NN6 : Hid (q * 19 + 6 < n * 19) := by show _ < _; omega
      have NN7 : Hid (q * 19 + 7 < n * 19) := by show _ < _; omega
      have HQ8 : Hid (∀ wx, MS w wx e 19 n (.slice (some ⟨g, 0, none⟩) n cap) g cs k0 S1 xs0 (q * 19 + 8) → wx.cell? ⟨g, q * 19 + 8, none⟩ = some (.slice a8 n8 p8)) := fun wx h => h.cellAt _ _ (by omega) x8 (by omega)
      have NN8 : Hid (q * 19 + 8 < n * 19) := by show _ < _; omega
      have NN9 : Hid (q * 19 + 9 < n * 19) := by show _ < _; omega
      have NN10 : Hid (q * 19 + 10 < n * 19) := by show _ < _; omega
      have NN11 : Hid (q * 19 + 11 < n * 19) := by show _ < _; omega
      have HQ12 : Hid (∀ wx, MS w wx e 19 n (.slice (some ⟨g, 0, none⟩) n cap) g cs k0 S1 xs0 (q * 19 + 12) → wx.cell? ⟨g, q * 19 + 12, none⟩ = some (.slice a12 n12 p12)) := fun wx h => h.cellAt _ _ (by omega) x12 (by omega)
      have NN12 : Hid (q * 19 + 12 < n * 19) := by show _ < _; omega
      have HQ13 : Hid (∀ wx, MS w wx e 19 n (.slice (some ⟨g, 0, none⟩) n cap) g cs k0 S1 xs0 (q * 19 + 13) → wx.cell? ⟨g, q * 19 + 13, none⟩ = some (.slice a13 n13 p13)) := fun wx h => h.cellAt _ _ (by omega) x13 (by omega)
      have NN13 : Hid (q * 19 + 13 < n * 19) := by show _ < _; omega
      have NN14 : Hid (q * 19 + 14 < n * 19) := by show _ < _; omega
      have NN15 : Hid (q * 19 + 15 < n * 19) := by show _ < _; omega
      have NN16 : Hid (q * 19 + 16 < n * 19) := by show _ < _; omega
      have HQ17 : Hid (∀ wx, MS w wx e 19 n (.slice (some ⟨g, 0, none⟩) n cap) g cs k0 S1 xs0 (q * 19 + 17) → wx.cell? ⟨g, q * 19 + 17, none⟩ = some (.slice a17 n17 p17)) := fun wx h => h.cellAt _ _ (by omega) x17 (by omega)
      have NN17 : Hid (q * 19 + 17 < n * 19) := by show _ < _; omega
      have HQ18 : Hid (∀ wx, MS w wx e 19 n (.slice (some ⟨g, 0, none⟩) n cap) g cs k0 S1 xs0 (q * 19 + 18) → wx.cell? ⟨g, q * 19 + 18, none⟩ = some (.slice a18 n18 p18)) := fun wx h => h.cellAt _ _ (by omega) x18 (by omega)
      have NN18 : Hid (q * 19 + 18 < n * 19) := by show _ < _; omega
      have HN : Hid (∀ wx, MS w wx e 19 n (.slice (some ⟨g, 0, none⟩) n cap) g cs k0 S1 xs0 (q * 19 + 19) → MS w wx e 19 n (.slice (some ⟨g, 0, none⟩) n cap) g cs k0 S1 xs0 ((q + 1) * 19)) := fun wx h => by rw [show q * 19 + 19 = (q + 1) * 19 by omega] at h; exact h
      have HE := hend
      rw [hk1q.out]
      clear hR htr hend hk1q Ht Hkk Hp0 Hl0 g0 g2 g3 g4 g5 g6 g8 g9 g10 g11 g12 g13 g14 g15 g16 g17 g18 at0 at1 at2 at3 at4 at5 at6 at7 at8 at9 at10 at11 at12 at13 at14 at15 at16 at17 at18 ct0 ct1 ct2 ct3 ct4 ct5 ct6 ct7 ct8 ct9 ct10 ct11 ct12 ct13 ct14 ct15 ct16 ct17 ct18 x8 x12 x13 x17 x18
      generalize umtx (((kq + 1) + 1) + 1) = M3 at *
      generalize cnt c8 = m8 at *
      generalize umtx ((((((((((kq + 1) + 1) + 1) + 1) + 1) + 1) + 1) + 1) + m8) + 1) = M10 at *
      generalize cnt c12 = m12 at *
      generalize cnt c13 = m13 at *
      generalize umtx (((((((((((((((kq + 1) + 1) + 1) + 1) + 1) + 1) + 1) + 1) + m8) + 1) + 1) + 1) + m12) + m13) + 1) = M15 at *
      generalize cnt c17 = m17 at *
      generalize cnt c18 = m18 at *
      have EB1 : ((((kq + 1) : Nat) : Int) % 3 == 0) = ((kq + 1) % 3 == 0) := by rw [Bool.eq_iff_iff, beq_iff_eq, beq_iff_eq]; omega
      push_cast at EB1
      replace EB1 := uhide EB1
      have EB7 : ((((((((((kq + 1) + 1) + 1) + 1) + 1) + 1) + 1) : Nat) : Int) % 3 == 0) = ((((((((kq + 1) + 1) + 1) + 1) + 1) + 1) + 1) % 3 == 0) := by rw [Bool.eq_iff_iff, beq_iff_eq, beq_iff_eq]; omega
      push_cast at EB7
      replace EB7 := uhide EB7
      go_wp2_with (first
        | ((with_reducible refine wpList_store_v ?qqg259 3 ?qqx259 ?qqy259 ?qqo259 ?qqd259 g (q * 19) ?qqh259 (.int .i64 (kq : Nat)) ?qqv259 one_int Tryz.zChange_int (HM.out.there _ NN0.out) ?_); (case qqg259 => rfl); (case qqo259 => rfl); (case qqd259 => rfl); (case qqh259 => first | (simp; done) | (simp [Act.eval]; done) | (simp only [Act.put]; simp; done) | (simp only [Act.put]; simp [Act.eval]; done)); (case qqv259 => first | (simp; done) | (simp [Act.eval]; done) | (simp [Act.eval]; omega) | (simp only [Act.put]; simp; done) | (simp only [Act.put]; simp [Act.eval]; done) | (simp only [Act.put]; simp [Act.eval]; omega) | (simp [Act.eval, Bool.eq_iff_iff]; omega)); intro wy ey; replace HM := uhide (HP0.out _ wy _ HM.out rfl ey); clear ey)
        | ((with_reducible refine wpList_store_v ?qqg260 4 ?qqx260 ?qqy260 ?qqo260 ?qqd260 g (q * 19 + 1) ?qqh260 (.bool ((kq + 1) % 3 == 0)) ?qqv260 one_bool Tryz.zChange_bool (HM.out.there _ NN1.out) ?_); (case qqg260 => rfl); (case qqo260 => rfl); (case qqd260 => rfl); (case qqh260 => first | (simp; done) | (simp [Act.eval]; done) | (simp only [Act.put]; simp; done) | (simp only [Act.put]; simp [Act.eval]; done)); (case qqv260 => first | exact congrArg Value.bool EB1.out | rfl); intro wy ey; replace HM := uhide (HP1.out _ wy _ HM.out rfl ey); clear ey)
        | ((with_reducible refine wpList_store_v ?qqg261 3 ?qqx261 ?qqy261 ?qqo261 ?qqd261 g (q * 19 + 2) ?qqh261 (.int .i64 (((kq + 1) + 1) : Nat)) ?qqv261 one_int Tryz.zChange_int (HM.out.there _ NN2.out) ?_); (case qqg261 => rfl); (case qqo261 => rfl); (case qqd261 => rfl); (case qqh261 => first | (simp; done) | (simp [Act.eval]; done) | (simp only [Act.put]; simp; done) | (simp only [Act.put]; simp [Act.eval]; done)); (case qqv261 => first | (simp; done) | (simp [Act.eval]; done) | (simp [Act.eval]; omega) | (simp only [Act.put]; simp; done) | (simp only [Act.put]; simp [Act.eval]; done) | (simp only [Act.put]; simp [Act.eval]; omega) | (simp [Act.eval, Bool.eq_iff_iff]; omega)); intro wy ey; replace HM := uhide (HP2.out _ wy _ HM.out rfl ey); clear ey)
        )
      refine (HT3.out _ _ (by omega)).mono ?_
      rintro e1 w1 ⟨rfl, hb1⟩
      replace HM := uhide (HM.out.below hb1)
      clear hb1
      go_wp2_with (first
        | ((with_reducible refine wpList_store_v ?qqg268 9 ?qqx268 ?qqy268 ?qqo268 ?qqd268 g (q * 19 + 3) ?qqh268 (.string M3) ?qqv268 one_string Tryz.zChange_string (HM.out.there _ NN3.out) ?_); (case qqg268 => rfl); (case qqo268 => rfl); (case qqd268 => rfl); (case qqh268 => first | (simp; done) | (simp [Act.eval]; done) | (simp only [Act.put]; simp; done) | (simp only [Act.put]; simp [Act.eval]; done)); (case qqv268 => first | (simp; done) | (simp [Act.eval]; done) | (simp [Act.eval]; omega) | (simp only [Act.put]; simp; done) | (simp only [Act.put]; simp [Act.eval]; done) | (simp only [Act.put]; simp [Act.eval]; omega) | (simp [Act.eval, Bool.eq_iff_iff]; omega)); intro wy ey; replace HM := uhide (HP3.out _ wy _ HM.out rfl ey); clear ey)
        | ((with_reducible refine wpList_store_v ?qqg269 3 ?qqx269 ?qqy269 ?qqo269 ?qqd269 g (q * 19 + 4) ?qqh269 (.int .i64 (((((kq + 1) + 1) + 1) + 1) : Nat)) ?qqv269 one_int Tryz.zChange_int (HM.out.there _ NN4.out) ?_); (case qqg269 => rfl); (case qqo269 => rfl); (case qqd269 => rfl); (case qqh269 => first | (simp; done) | (simp [Act.eval]; done) | (simp only [Act.put]; simp; done) | (simp only [Act.put]; simp [Act.eval]; done)); (case qqv269 => first | (simp; done) | (simp [Act.eval]; done) | (simp [Act.eval]; omega) | (simp only [Act.put]; simp; done) | (simp only [Act.put]; simp [Act.eval]; done) | (simp only [Act.put]; simp [Act.eval]; omega) | (simp [Act.eval, Bool.eq_iff_iff]; omega)); intro wy ey; replace HM := uhide (HP4.out _ wy _ HM.out rfl ey); clear ey)
        | ((with_reducible refine wpList_store_v ?qqg270 3 ?qqx270 ?qqy270 ?qqo270 ?qqd270 g (q * 19 + 5) ?qqh270 (.int .i64 ((((((kq + 1) + 1) + 1) + 1) + 1) : Nat)) ?qqv270 one_int Tryz.zChange_int (HM.out.there _ NN5.out) ?_); (case qqg270 => rfl); (case qqo270 => rfl); (case qqd270 => rfl); (case qqh270 => first | (simp; done) | (simp [Act.eval]; done) | (simp only [Act.put]; simp; done) | (simp only [Act.put]; simp [Act.eval]; done)); (case qqv270 => first | (simp; done) | (simp [Act.eval]; done) | (simp [Act.eval]; omega) | (simp only [Act.put]; simp; done) | (simp only [Act.put]; simp [Act.eval]; done) | (simp only [Act.put]; simp [Act.eval]; omega) | (simp [Act.eval, Bool.eq_iff_iff]; omega)); intro wy ey; replace HM := uhide (HP5.out _ wy _ HM.out rfl ey); clear ey)
        | ((with_reducible refine wpList_store_v ?qqg271 3 ?qqx271 ?qqy271 ?qqo271 ?qqd271 g (q * 19 + 6) ?qqh271 (.int .i64 (((((((kq + 1) + 1) + 1) + 1) + 1) + 1) : Nat)) ?qqv271 one_int Tryz.zChange_int (HM.out.there _ NN6.out) ?_); (case qqg271 => rfl); (case qqo271 => rfl); (case qqd271 => rfl); (case qqh271 => first | (simp; done) | (simp [Act.eval]; done) | (simp only [Act.put]; simp; done) | (simp only [Act.put]; simp [Act.eval]; done)); (case qqv271 => first | (simp; done) | (simp [Act.eval]; done) | (simp [Act.eval]; omega) | (simp only [Act.put]; simp; done) | (simp only [Act.put]; simp [Act.eval]; done) | (simp only [Act.put]; simp [Act.eval]; omega) | (simp [Act.eval, Bool.eq_iff_iff]; omega)); intro wy ey; replace HM := uhide (HP6.out _ wy _ HM.out rfl ey); clear ey)
        | ((with_reducible refine wpList_store_v ?qqg272 4 ?qqx272 ?qqy272 ?qqo272 ?qqd272 g (q * 19 + 7) ?qqh272 (.bool ((((((((kq + 1) + 1) + 1) + 1) + 1) + 1) + 1) % 3 == 0)) ?qqv272 one_bool Tryz.zChange_bool (HM.out.there _ NN7.out) ?_); (case qqg272 => rfl); (case qqo272 => rfl); (case qqd272 => rfl); (case qqh272 => first | (simp; done) | (simp [Act.eval]; done) | (simp only [Act.put]; simp; done) | (simp only [Act.put]; simp [Act.eval]; done)); (case qqv272 => first | exact congrArg Value.bool EB7.out | rfl); intro wy ey; replace HM := uhide (HP7.out _ wy _ HM.out rfl ey); clear ey)
        | ((with_reducible refine wpList_load_one ?qqg273 28 ?qqx273 ?qqo273 g (q * 19 + 8) ?qqh273 (.slice a8 n8 p8) Tryz.rChange_Lstring (HQ8.out _ HM.out) ?_); (case qqg273 => rfl); (case qqo273 => rfl); (case qqh273 => first | (simp; done) | (simp [Act.eval]; done) | (simp only [Act.put]; simp; done) | (simp only [Act.put]; simp [Act.eval]; done)))
        )
      refine (HC8.out _ _ HM.out (by omega)).mono ?_
      rintro e1 w2 ⟨rfl, HM2⟩
      replace HM := HM2
      go_wp2_with (first
        | ((with_reducible refine wpList_store_v ?qqg279 3 ?qqx279 ?qqy279 ?qqo279 ?qqd279 g (q * 19 + 9) ?qqh279 (.int .i64 ((((((((((kq + 1) + 1) + 1) + 1) + 1) + 1) + 1) + 1) + m8) : Nat)) ?qqv279 one_int Tryz.zChange_int (HM.out.there _ NN9.out) ?_); (case qqg279 => rfl); (case qqo279 => rfl); (case qqd279 => rfl); (case qqh279 => first | (simp; done) | (simp [Act.eval]; done) | (simp only [Act.put]; simp; done) | (simp only [Act.put]; simp [Act.eval]; done)); (case qqv279 => first | (simp; done) | (simp [Act.eval]; done) | (simp [Act.eval]; omega) | (simp only [Act.put]; simp; done) | (simp only [Act.put]; simp [Act.eval]; done) | (simp only [Act.put]; simp [Act.eval]; omega) | (simp [Act.eval, Bool.eq_iff_iff]; omega)); intro wy ey; replace HM := uhide (HP9.out _ wy _ HM.out rfl ey); clear ey)
        )
      refine (HT10.out _ _ (by omega)).mono ?_
      rintro e1 w3 ⟨rfl, hb3⟩
      replace HM := uhide (HM.out.below hb3)
      clear hb3
      go_wp2_with (first
        | ((with_reducible refine wpList_store_v ?qqg286 9 ?qqx286 ?qqy286 ?qqo286 ?qqd286 g (q * 19 + 10) ?qqh286 (.string M10) ?qqv286 one_string Tryz.zChange_string (HM.out.there _ NN10.out) ?_); (case qqg286 => rfl); (case qqo286 => rfl); (case qqd286 => rfl); (case qqh286 => first | (simp; done) | (simp [Act.eval]; done) | (simp only [Act.put]; simp; done) | (simp only [Act.put]; simp [Act.eval]; done)); (case qqv286 => first | (simp; done) | (simp [Act.eval]; done) | (simp [Act.eval]; omega) | (simp only [Act.put]; simp; done) | (simp only [Act.put]; simp [Act.eval]; done) | (simp only [Act.put]; simp [Act.eval]; omega) | (simp [Act.eval, Bool.eq_iff_iff]; omega)); intro wy ey; replace HM := uhide (HP10.out _ wy _ HM.out rfl ey); clear ey)
        | ((with_reducible refine wpList_store_v ?qqg287 3 ?qqx287 ?qqy287 ?qqo287 ?qqd287 g (q * 19 + 11) ?qqh287 (.int .i64 ((((((((((((kq + 1) + 1) + 1) + 1) + 1) + 1) + 1) + 1) + m8) + 1) + 1) : Nat)) ?qqv287 one_int Tryz.zChange_int (HM.out.there _ NN11.out) ?_); (case qqg287 => rfl); (case qqo287 => rfl); (case qqd287 => rfl); (case qqh287 => first | (simp; done) | (simp [Act.eval]; done) | (simp only [Act.put]; simp; done) | (simp only [Act.put]; simp [Act.eval]; done)); (case qqv287 => first | (simp; done) | (simp [Act.eval]; done) | (simp [Act.eval]; omega) | (simp only [Act.put]; simp; done) | (simp only [Act.put]; simp [Act.eval]; done) | (simp only [Act.put]; simp [Act.eval]; omega) | (simp [Act.eval, Bool.eq_iff_iff]; omega)); intro wy ey; replace HM := uhide (HP11.out _ wy _ HM.out rfl ey); clear ey)
        | ((with_reducible refine wpList_load_one ?qqg288 28 ?qqx288 ?qqo288 g (q * 19 + 12) ?qqh288 (.slice a12 n12 p12) Tryz.rChange_Lstring (HQ12.out _ HM.out) ?_); (case qqg288 => rfl); (case qqo288 => rfl); (case qqh288 => first | (simp; done) | (simp [Act.eval]; done) | (simp only [Act.put]; simp; done) | (simp only [Act.put]; simp [Act.eval]; done)))
        )
      refine (HC12.out _ _ HM.out (by omega)).mono ?_
      rintro e1 w4 ⟨rfl, HM2⟩
      replace HM := HM2
      go_wp2_with (first
        | ((with_reducible refine wpList_load_one ?qqg294 29 ?qqx294 ?qqo294 g (q * 19 + 13) ?qqh294 (.slice a13 n13 p13) Tryz.rChange_Limpl_Value (HQ13.out _ HM.out) ?_); (case qqg294 => rfl); (case qqo294 => rfl); (case qqh294 => first | (simp; done) | (simp [Act.eval]; done) | (simp only [Act.put]; simp; done) | (simp only [Act.put]; simp [Act.eval]; done)))
        )
      refine (HC13.out _ _ HM.out (by omega)).mono ?_
      rintro e1 w5 ⟨rfl, HM2⟩
      replace HM := HM2
      go_wp2_with (first
        | ((with_reducible refine wpList_store_v ?qqg300 3 ?qqx300 ?qqy300 ?qqo300 ?qqd300 g (q * 19 + 14) ?qqh300 (.int .i64 (((((((((((((((kq + 1) + 1) + 1) + 1) + 1) + 1) + 1) + 1) + m8) + 1) + 1) + 1) + m12) + m13) : Nat)) ?qqv300 one_int Tryz.zChange_int (HM.out.there _ NN14.out) ?_); (case qqg300 => rfl); (case qqo300 => rfl); (case qqd300 => rfl); (case qqh300 => first | (simp; done) | (simp [Act.eval]; done) | (simp only [Act.put]; simp; done) | (simp only [Act.put]; simp [Act.eval]; done)); (case qqv300 => first | (simp; done) | (simp [Act.eval]; done) | (simp [Act.eval]; omega) | (simp only [Act.put]; simp; done) | (simp only [Act.put]; simp [Act.eval]; done) | (simp only [Act.put]; simp [Act.eval]; omega) | (simp [Act.eval, Bool.eq_iff_iff]; omega)); intro wy ey; replace HM := uhide (HP14.out _ wy _ HM.out rfl ey); clear ey)
        )
      refine (HT15.out _ _ (by omega)).mono ?_
      rintro e1 w6 ⟨rfl, hb6⟩
      replace HM := uhide (HM.out.below hb6)
      clear hb6
      go_wp2_with (first
        | ((with_reducible refine wpList_store_v ?qqg307 9 ?qqx307 ?qqy307 ?qqo307 ?qqd307 g (q * 19 + 15) ?qqh307 (.string M15) ?qqv307 one_string Tryz.zChange_string (HM.out.there _ NN15.out) ?_); (case qqg307 => rfl); (case qqo307 => rfl); (case qqd307 => rfl); (case qqh307 => first | (simp; done) | (simp [Act.eval]; done) | (simp only [Act.put]; simp; done) | (simp only [Act.put]; simp [Act.eval]; done)); (case qqv307 => first | (simp; done) | (simp [Act.eval]; done) | (simp [Act.eval]; omega) | (simp only [Act.put]; simp; done) | (simp only [Act.put]; simp [Act.eval]; done) | (simp only [Act.put]; simp [Act.eval]; omega) | (simp [Act.eval, Bool.eq_iff_iff]; omega)); intro wy ey; replace HM := uhide (HP15.out _ wy _ HM.out rfl ey); clear ey)
        | ((with_reducible refine wpList_store_v ?qqg308 3 ?qqx308 ?qqy308 ?qqo308 ?qqd308 g (q * 19 + 16) ?qqh308 (.int .i64 (((((((((((((((((kq + 1) + 1) + 1) + 1) + 1) + 1) + 1) + 1) + m8) + 1) + 1) + 1) + m12) + m13) + 1) + 1) : Nat)) ?qqv308 one_int Tryz.zChange_int (HM.out.there _ NN16.out) ?_); (case qqg308 => rfl); (case qqo308 => rfl); (case qqd308 => rfl); (case qqh308 => first | (simp; done) | (simp [Act.eval]; done) | (simp only [Act.put]; simp; done) | (simp only [Act.put]; simp [Act.eval]; done)); (case qqv308 => first | (simp; done) | (simp [Act.eval]; done) | (simp [Act.eval]; omega) | (simp only [Act.put]; simp; done) | (simp only [Act.put]; simp [Act.eval]; done) | (simp only [Act.put]; simp [Act.eval]; omega) | (simp [Act.eval, Bool.eq_iff_iff]; omega)); intro wy ey; replace HM := uhide (HP16.out _ wy _ HM.out rfl ey); clear ey)
        | ((with_reducible refine wpList_load_one ?qqg309 28 ?qqx309 ?qqo309 g (q * 19 + 17) ?qqh309 (.slice a17 n17 p17) Tryz.rChange_Lstring (HQ17.out _ HM.out) ?_); (case qqg309 => rfl); (case qqo309 => rfl); (case qqh309 => first | (simp; done) | (simp [Act.eval]; done) | (simp only [Act.put]; simp; done) | (simp only [Act.put]; simp [Act.eval]; done)))
        )
      refine (HC17.out _ _ HM.out (by omega)).mono ?_
      rintro e1 w7 ⟨rfl, HM2⟩
      replace HM := HM2
      go_wp2_with (first
        | ((with_reducible refine wpList_load_one ?qqg315 29 ?qqx315 ?qqo315 g (q * 19 + 18) ?qqh315 (.slice a18 n18 p18) Tryz.rChange_Limpl_Value (HQ18.out _ HM.out) ?_); (case qqg315 => rfl); (case qqo315 => rfl); (case qqh315 => first | (simp; done) | (simp [Act.eval]; done) | (simp only [Act.put]; simp; done) | (simp only [Act.put]; simp [Act.eval]; done)))
        )
      refine (HC18.out _ _ HM.out (by omega)).mono ?_
      rintro e1 w8 ⟨rfl, HM2⟩
      replace HM := HM2
      go_wp2
      go_roundw
      case rel => exact ⟨q + 1, by omega, by go_num, by rw [HE.out]; go_num, HN.out _ HM.out⟩
      case measure => (simp [intOf]; omega)
    · have e : q = n := by omega
      subst e
      obtain ⟨h1, h2⟩ := HM.out.done (by decide)
      have HD := uhide (And.intro h1 h2)
      have hl : cs.takeN (q * 19) = cs := by apply UD.ext; unfold UD.takeN; rw [UD.toL_ofL]; exact List.take_of_length_le (Nat.le_of_eq Ht.out.2.2.2.1)
      rw [hl]
      clear h1 h2 hl HM Ht Hp0 Hl0 Hkk
      go_wp2
      go_ret
      exact ⟨rfl, HD.out⟩
end Go.Proofs.YtamlgjmboljcdaaGreat
