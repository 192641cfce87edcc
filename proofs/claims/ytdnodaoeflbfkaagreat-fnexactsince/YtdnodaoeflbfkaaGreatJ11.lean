/- Texts of one claim, joined: each in its own section, in build order. -/
import Derived.Test.YtdnodaoeflbfkaaGreatJ2
import Derived.Test.YtdnodaoeflbfkaaGreatJ4
import Derived.Test.YtdnodaoeflbfkaaGreatJ10
import Derived.Test.YtdnodaoeflbfkaaGreatJ7
import Derived.Test.YtdnodaoeflbfkaaGreatJ3
/- Data as cells: the helpers of the laws over Change. -/
namespace Go.Proofs.YtdnodaoeflbfkaaGreat
open Go.RowKit Go.BigFrame
set_option linter.unusedVariables false
set_option linter.unusedSimpArgs false

set_option maxRecDepth 100000 in
set_option maxHeartbeats 4000000 in
theorem umarkChangeS_any (n k0 : Nat) (cs : UD) (c : Value) (S : List Nat) (w : World) (ht : tyS 19 n cs 9) (hnd : S.Nodup) (hk0 : 1 ≤ k0) (hk1 : k0 + cnt cs ≤ 100000000) (hx : oS w 19 n cs c S) :
    Calls Tryz.prog 45 #[c, .int .i64 k0] w fun e w' => e = .returned (.int .i64 (k0 + cnt cs : Nat)) ∧ oS w' 19 n (mk cs k0) c S ∧ OutS S w w' := by
  obtain ⟨a, cap, rfl⟩ := hx.slice
  have hmx := ht.2.2.1
  unfold maxLen at hmx
  rcases Nat.eq_zero_or_pos n with h0 | hpos
  · subst h0
    obtain ⟨e1, e2⟩ := hx.empty rfl k0
    rw [e1, e2]
    have Hx := uhide hx
    clear hx ht hnd e1 e2
    go_enter Tryz.func45, Tryz.ntmps45
    go_wp2
    go_loopw [1, 5] (fun s i wr => i = .int .i64 0 ∧ s = .int .i64 k0 ∧ wr = w) (fun _ _ _ => 0)
    case atStart => exact ⟨rfl, rfl, rfl⟩
    case round =>
      obtain ⟨rfl, rfl, rfl⟩ := hrel
      go_wp2
      go_ret
      exact ⟨rfl, Hx.out, OutS.refl _ _⟩
  obtain ⟨e, g, S1, xs0, M0, rfl, hp0, hl0⟩ := MS.start hx hnd hpos k0
  obtain ⟨cap, h1, hgl⟩ := M0.own
  cases h1
  have M0 := uhide M0
  have Ht := uhide ht
  have Hp0 := uhide hp0
  have Hl0 := uhide hl0
  have Hkk : Hid (∀ q, k0 + cnt (cs.takeN (q * 19)) ≤ 100000000) := fun q => by have := cnt_le cs (q * 19); omega
  clear hx ht hnd hp0 hl0
  go_enter Tryz.func45, Tryz.ntmps45
  go_wp2
  go_loopw [1, 5] (fun s i wr => ∃ (q : Nat), q ≤ n ∧ i = .int .i64 q ∧ s = .int .i64 (k0 + cnt (cs.takeN (q * 19)) : Nat) ∧ Hid (MS w wr e 19 n (.slice (some ⟨g, 0, none⟩) n cap) g cs k0 S1 xs0 (q * 19))) (fun _ i _ => n - (intOf i).toNat)
  case atStart => exact ⟨0, Nat.zero_le _, rfl, by rw [Nat.zero_mul]; rfl, by rw [Nat.zero_mul]; exact M0⟩
  case round =>
    clear M0
    obtain ⟨q, hq, rfl, rfl, HM⟩ := hrel
    by_cases hlt : q < n
    · have htr := Ht.out.row hlt
      have hKn : q * 19 + 19 ≤ n * 19 := by have := Nat.mul_le_mul_right 19 (show q + 1 ≤ n by omega); rw [Nat.succ_mul] at this; exact this
      obtain ⟨z0, z1, z2, z3, z4, z5, z6, z7, n8, c8, z9, z10, z11, n12, c12, n13, c13, z14, z15, z16, n17, c17, n18, c18, hR, g0, g2, g3, g4, g5, g6, g8, g9, g10, g11, g12, g13, g14, g15, g16, g17, g18⟩ := partsChange htr
      obtain ⟨kq, hkq⟩ : ∃ kq, k0 + cnt (cs.takeN (q * 19)) = kq := ⟨_, rfl⟩
      have hK0 : 1 ≤ kq := by omega
      have at0 : cs.at? (q * 19) = some (.p (.int .i64 z0)) := at_row (j := 0) hR (by decide) rfl
      have ct0 : Hid (k0 + cnt (cs.takeN (q * 19)) = kq) := hkq
      have at1 : cs.at? (q * 19 + 1) = some (.p (.bool z1)) := at_row (j := 1) hR (by decide) rfl
      have ct1 : Hid (k0 + cnt (cs.takeN (q * 19 + 1)) = (kq + 1)) := ct_next ct0.out at0
      have at2 : cs.at? (q * 19 + 2) = some (.p (.int .i64 z2)) := at_row (j := 2) hR (by decide) rfl
      have ct2 : Hid (k0 + cnt (cs.takeN (q * 19 + 2)) = ((kq + 1) + 1)) := ct_next ct1.out at1
      have at3 : cs.at? (q * 19 + 3) = some (.p (.string z3)) := at_row (j := 3) hR (by decide) rfl
      have ct3 : Hid (k0 + cnt (cs.takeN (q * 19 + 3)) = (((kq + 1) + 1) + 1)) := ct_next ct2.out at2
      have at4 : cs.at? (q * 19 + 4) = some (.p (.int .i64 z4)) := at_row (j := 4) hR (by decide) rfl
      have ct4 : Hid (k0 + cnt (cs.takeN (q * 19 + 4)) = ((((kq + 1) + 1) + 1) + 1)) := ct_next ct3.out at3
      have at5 : cs.at? (q * 19 + 5) = some (.p (.int .i64 z5)) := at_row (j := 5) hR (by decide) rfl
      have ct5 : Hid (k0 + cnt (cs.takeN (q * 19 + 5)) = (((((kq + 1) + 1) + 1) + 1) + 1)) := ct_next ct4.out at4
      have at6 : cs.at? (q * 19 + 6) = some (.p (.int .i64 z6)) := at_row (j := 6) hR (by decide) rfl
      have ct6 : Hid (k0 + cnt (cs.takeN (q * 19 + 6)) = ((((((kq + 1) + 1) + 1) + 1) + 1) + 1)) := ct_next ct5.out at5
      have at7 : cs.at? (q * 19 + 7) = some (.p (.bool z7)) := at_row (j := 7) hR (by decide) rfl
      have ct7 : Hid (k0 + cnt (cs.takeN (q * 19 + 7)) = (((((((kq + 1) + 1) + 1) + 1) + 1) + 1) + 1)) := ct_next ct6.out at6
      have at8 : cs.at? (q * 19 + 8) = some (.l 1 n8 c8) := at_row (j := 8) hR (by decide) rfl
      have ct8 : Hid (k0 + cnt (cs.takeN (q * 19 + 8)) = ((((((((kq + 1) + 1) + 1) + 1) + 1) + 1) + 1) + 1)) := ct_next ct7.out at7
      obtain ⟨a8, p8, x8⟩ := Hl0.out _ _ _ _ at8
      have at9 : cs.at? (q * 19 + 9) = some (.p (.int .i64 z9)) := at_row (j := 9) hR (by decide) rfl
      have ct9 : Hid (k0 + cnt (cs.takeN (q * 19 + 9)) = (((((((((kq + 1) + 1) + 1) + 1) + 1) + 1) + 1) + 1) + cnt c8)) := ct_next ct8.out at8
      have at10 : cs.at? (q * 19 + 10) = some (.p (.string z10)) := at_row (j := 10) hR (by decide) rfl
      have ct10 : Hid (k0 + cnt (cs.takeN (q * 19 + 10)) = ((((((((((kq + 1) + 1) + 1) + 1) + 1) + 1) + 1) + 1) + cnt c8) + 1)) := ct_next ct9.out at9
      have at11 : cs.at? (q * 19 + 11) = some (.p (.int .i64 z11)) := at_row (j := 11) hR (by decide) rfl
      have ct11 : Hid (k0 + cnt (cs.takeN (q * 19 + 11)) = (((((((((((kq + 1) + 1) + 1) + 1) + 1) + 1) + 1) + 1) + cnt c8) + 1) + 1)) := ct_next ct10.out at10
      have at12 : cs.at? (q * 19 + 12) = some (.l 1 n12 c12) := at_row (j := 12) hR (by decide) rfl
      have ct12 : Hid (k0 + cnt (cs.takeN (q * 19 + 12)) = ((((((((((((kq + 1) + 1) + 1) + 1) + 1) + 1) + 1) + 1) + cnt c8) + 1) + 1) + 1)) := ct_next ct11.out at11
      obtain ⟨a12, p12, x12⟩ := Hl0.out _ _ _ _ at12
      have at13 : cs.at? (q * 19 + 13) = some (.l 5 n13 c13) := at_row (j := 13) hR (by decide) rfl
      have ct13 : Hid (k0 + cnt (cs.takeN (q * 19 + 13)) = (((((((((((((kq + 1) + 1) + 1) + 1) + 1) + 1) + 1) + 1) + cnt c8) + 1) + 1) + 1) + cnt c12)) := ct_next ct12.out at12
      obtain ⟨a13, p13, x13⟩ := Hl0.out _ _ _ _ at13
      have at14 : cs.at? (q * 19 + 14) = some (.p (.int .i64 z14)) := at_row (j := 14) hR (by decide) rfl
      have ct14 : Hid (k0 + cnt (cs.takeN (q * 19 + 14)) = ((((((((((((((kq + 1) + 1) + 1) + 1) + 1) + 1) + 1) + 1) + cnt c8) + 1) + 1) + 1) + cnt c12) + cnt c13)) := ct_next ct13.out at13
      have at15 : cs.at? (q * 19 + 15) = some (.p (.string z15)) := at_row (j := 15) hR (by decide) rfl
      have ct15 : Hid (k0 + cnt (cs.takeN (q * 19 + 15)) = (((((((((((((((kq + 1) + 1) + 1) + 1) + 1) + 1) + 1) + 1) + cnt c8) + 1) + 1) + 1) + cnt c12) + cnt c13) + 1)) := ct_next ct14.out at14
      have at16 : cs.at? (q * 19 + 16) = some (.p (.int .i64 z16)) := at_row (j := 16) hR (by decide) rfl
      have ct16 : Hid (k0 + cnt (cs.takeN (q * 19 + 16)) = ((((((((((((((((kq + 1) + 1) + 1) + 1) + 1) + 1) + 1) + 1) + cnt c8) + 1) + 1) + 1) + cnt c12) + cnt c13) + 1) + 1)) := ct_next ct15.out at15
      have at17 : cs.at? (q * 19 + 17) = some (.l 1 n17 c17) := at_row (j := 17) hR (by decide) rfl
      have ct17 : Hid (k0 + cnt (cs.takeN (q * 19 + 17)) = (((((((((((((((((kq + 1) + 1) + 1) + 1) + 1) + 1) + 1) + 1) + cnt c8) + 1) + 1) + 1) + cnt c12) + cnt c13) + 1) + 1) + 1)) := ct_next ct16.out at16
      obtain ⟨a17, p17, x17⟩ := Hl0.out _ _ _ _ at17
      have at18 : cs.at? (q * 19 + 18) = some (.l 5 n18 c18) := at_row (j := 18) hR (by decide) rfl
      have ct18 : Hid (k0 + cnt (cs.takeN (q * 19 + 18)) = ((((((((((((((((((kq + 1) + 1) + 1) + 1) + 1) + 1) + 1) + 1) + cnt c8) + 1) + 1) + 1) + cnt c12) + cnt c13) + 1) + 1) + 1) + cnt c17)) := ct_next ct17.out at17
      obtain ⟨a18, p18, x18⟩ := Hl0.out _ _ _ _ at18
      have hend : Hid (k0 + cnt (cs.takeN ((q + 1) * 19)) = (((((((((((((((((((kq + 1) + 1) + 1) + 1) + 1) + 1) + 1) + 1) + cnt c8) + 1) + 1) + 1) + cnt c12) + cnt c13) + 1) + 1) + 1) + cnt c17) + cnt c18)) := ct_end (ct_next ct18.out at18)
      have hkb : (((((((((((((((((((kq + 1) + 1) + 1) + 1) + 1) + 1) + 1) + 1) + cnt c8) + 1) + 1) + 1) + cnt c12) + cnt c13) + 1) + 1) + 1) + cnt c17) + cnt c18) ≤ 100000000 := by have h := Hkk.out (q + 1); rw [hend.out] at h; exact h
      have hk1q : Hid (k0 + cnt (cs.takeN (q * 19)) = kq) := hkq
      clear hkq
      have KB0 : kq ≤ 1000000000 := by omega
      have HP0 : Hid (∀ (wx wy : World) (u : Value), MS w wx e 19 n (.slice (some ⟨g, 0, none⟩) n cap) g cs k0 S1 xs0 (q * 19) → u = .int .i64 (kq : Nat) → wy = wx.setCells g (q * 19) [u] → MS w wy e 19 n (.slice (some ⟨g, 0, none⟩) n cap) g cs k0 S1 xs0 (q * 19 + 1)) := fun wx wy u h hu e => h.cellS at0 ct0.out (hu.trans (mkP_int _ _ KB0).symm) e rfl
      have HP1 : Hid (∀ (wx wy : World) (u : Value), MS w wx e 19 n (.slice (some ⟨g, 0, none⟩) n cap) g cs k0 S1 xs0 (q * 19 + 1) → u = .bool ((kq + 1) % 3 == 0) → wy = wx.setCells g (q * 19 + 1) [u] → MS w wy e 19 n (.slice (some ⟨g, 0, none⟩) n cap) g cs k0 S1 xs0 (q * 19 + 2)) := fun wx wy u h hu e => h.cellS at1 ct1.out (hu.trans rfl) e rfl
      have KB2 : ((kq + 1) + 1) ≤ 1000000000 := by omega
      have HP2 : Hid (∀ (wx wy : World) (u : Value), MS w wx e 19 n (.slice (some ⟨g, 0, none⟩) n cap) g cs k0 S1 xs0 (q * 19 + 2) → u = .int .i64 (((kq + 1) + 1) : Nat) → wy = wx.setCells g (q * 19 + 2) [u] → MS w wy e 19 n (.slice (some ⟨g, 0, none⟩) n cap) g cs k0 S1 xs0 (q * 19 + 3)) := fun wx wy u h hu e => h.cellS at2 ct2.out (hu.trans (mkP_int _ _ KB2).symm) e rfl
      have HP3 : Hid (∀ (wx wy : World) (u : Value), MS w wx e 19 n (.slice (some ⟨g, 0, none⟩) n cap) g cs k0 S1 xs0 (q * 19 + 3) → u = .string (umtx (((kq + 1) + 1) + 1)) → wy = wx.setCells g (q * 19 + 3) [u] → MS w wy e 19 n (.slice (some ⟨g, 0, none⟩) n cap) g cs k0 S1 xs0 (q * 19 + 4)) := fun wx wy u h hu e => h.cellS at3 ct3.out (hu.trans rfl) e rfl
      have HT3 : Hid (∀ (wx : World) (x : Int), x = (((((kq + 1) + 1) + 1) : Nat) : Int) → Calls Tryz.prog 84 #[.int .i64 x] wx fun e1 w' => e1 = .returned (.string (umtx (((kq + 1) + 1) + 1))) ∧ Below wx.heap.size wx w') := fun wx x hx => by rw [hx]; exact umarkText_any _ wx (by omega) (by omega)
      have KB4 : ((((kq + 1) + 1) + 1) + 1) ≤ 1000000000 := by omega
      have HP4 : Hid (∀ (wx wy : World) (u : Value), MS w wx e 19 n (.slice (some ⟨g, 0, none⟩) n cap) g cs k0 S1 xs0 (q * 19 + 4) → u = .int .i64 (((((kq + 1) + 1) + 1) + 1) : Nat) → wy = wx.setCells g (q * 19 + 4) [u] → MS w wy e 19 n (.slice (some ⟨g, 0, none⟩) n cap) g cs k0 S1 xs0 (q * 19 + 5)) := fun wx wy u h hu e => h.cellS at4 ct4.out (hu.trans (mkP_int _ _ KB4).symm) e rfl
      have KB5 : (((((kq + 1) + 1) + 1) + 1) + 1) ≤ 1000000000 := by omega
      have HP5 : Hid (∀ (wx wy : World) (u : Value), MS w wx e 19 n (.slice (some ⟨g, 0, none⟩) n cap) g cs k0 S1 xs0 (q * 19 + 5) → u = .int .i64 ((((((kq + 1) + 1) + 1) + 1) + 1) : Nat) → wy = wx.setCells g (q * 19 + 5) [u] → MS w wy e 19 n (.slice (some ⟨g, 0, none⟩) n cap) g cs k0 S1 xs0 (q * 19 + 6)) := fun wx wy u h hu e => h.cellS at5 ct5.out (hu.trans (mkP_int _ _ KB5).symm) e rfl
      have KB6 : ((((((kq + 1) + 1) + 1) + 1) + 1) + 1) ≤ 1000000000 := by omega
      have HP6 : Hid (∀ (wx wy : World) (u : Value), MS w wx e 19 n (.slice (some ⟨g, 0, none⟩) n cap) g cs k0 S1 xs0 (q * 19 + 6) → u = .int .i64 (((((((kq + 1) + 1) + 1) + 1) + 1) + 1) : Nat) → wy = wx.setCells g (q * 19 + 6) [u] → MS w wy e 19 n (.slice (some ⟨g, 0, none⟩) n cap) g cs k0 S1 xs0 (q * 19 + 7)) := fun wx wy u h hu e => h.cellS at6 ct6.out (hu.trans (mkP_int _ _ KB6).symm) e rfl
      have HP7 : Hid (∀ (wx wy : World) (u : Value), MS w wx e 19 n (.slice (some ⟨g, 0, none⟩) n cap) g cs k0 S1 xs0 (q * 19 + 7) → u = .bool ((((((((kq + 1) + 1) + 1) + 1) + 1) + 1) + 1) % 3 == 0) → wy = wx.setCells g (q * 19 + 7) [u] → MS w wy e 19 n (.slice (some ⟨g, 0, none⟩) n cap) g cs k0 S1 xs0 (q * 19 + 8)) := fun wx wy u h hu e => h.cellS at7 ct7.out (hu.trans rfl) e rfl
      have HC8 : Hid (∀ (wx : World) (x : Int), MS w wx e 19 n (.slice (some ⟨g, 0, none⟩) n cap) g cs k0 S1 xs0 (q * 19 + 8) → x = ((((((((((kq + 1) + 1) + 1) + 1) + 1) + 1) + 1) + 1) : Nat) : Int) → Calls Tryz.prog 56 #[.slice a8 n8 p8, .int .i64 x] wx fun e1 w' => e1 = .returned (.int .i64 ((((((((((kq + 1) + 1) + 1) + 1) + 1) + 1) + 1) + 1) + cnt c8 : Nat))) ∧ Hid (MS w w' e 19 n (.slice (some ⟨g, 0, none⟩) n cap) g cs k0 S1 xs0 (q * 19 + 9))) := by
        intro wx x h hxx
        rw [hxx]
        obtain ⟨c', T, q1, q2, q3, q5⟩ := h.part at8
        rw [x8] at q1
        cases q1
        rw [ct8.out] at q5
        exact (umarkStringS_any n8 ((((((((kq + 1) + 1) + 1) + 1) + 1) + 1) + 1) + 1) c8 _ T wx g8 q3 (by omega) (by omega) q2).mono fun e1 w' h => ⟨h.1, q5 w' h.2.2 h.2.1⟩
      have KB9 : (((((((((kq + 1) + 1) + 1) + 1) + 1) + 1) + 1) + 1) + cnt c8) ≤ 1000000000 := by omega
      have HP9 : Hid (∀ (wx wy : World) (u : Value), MS w wx e 19 n (.slice (some ⟨g, 0, none⟩) n cap) g cs k0 S1 xs0 (q * 19 + 9) → u = .int .i64 ((((((((((kq + 1) + 1) + 1) + 1) + 1) + 1) + 1) + 1) + cnt c8) : Nat) → wy = wx.setCells g (q * 19 + 9) [u] → MS w wy e 19 n (.slice (some ⟨g, 0, none⟩) n cap) g cs k0 S1 xs0 (q * 19 + 10)) := fun wx wy u h hu e => h.cellS at9 ct9.out (hu.trans (mkP_int _ _ KB9).symm) e rfl
      have HP10 : Hid (∀ (wx wy : World) (u : Value), MS w wx e 19 n (.slice (some ⟨g, 0, none⟩) n cap) g cs k0 S1 xs0 (q * 19 + 10) → u = .string (umtx ((((((((((kq + 1) + 1) + 1) + 1) + 1) + 1) + 1) + 1) + cnt c8) + 1)) → wy = wx.setCells g (q * 19 + 10) [u] → MS w wy e 19 n (.slice (some ⟨g, 0, none⟩) n cap) g cs k0 S1 xs0 (q * 19 + 11)) := fun wx wy u h hu e => h.cellS at10 ct10.out (hu.trans rfl) e rfl
      have HT10 : Hid (∀ (wx : World) (x : Int), x = ((((((((((((kq + 1) + 1) + 1) + 1) + 1) + 1) + 1) + 1) + cnt c8) + 1) : Nat) : Int) → Calls Tryz.prog 84 #[.int .i64 x] wx fun e1 w' => e1 = .returned (.string (umtx ((((((((((kq + 1) + 1) + 1) + 1) + 1) + 1) + 1) + 1) + cnt c8) + 1))) ∧ Below wx.heap.size wx w') := fun wx x hx => by rw [hx]; exact umarkText_any _ wx (by omega) (by omega)
      have KB11 : (((((((((((kq + 1) + 1) + 1) + 1) + 1) + 1) + 1) + 1) + cnt c8) + 1) + 1) ≤ 1000000000 := by omega
      have HP11 : Hid (∀ (wx wy : World) (u : Value), MS w wx e 19 n (.slice (some ⟨g, 0, none⟩) n cap) g cs k0 S1 xs0 (q * 19 + 11) → u = .int .i64 ((((((((((((kq + 1) + 1) + 1) + 1) + 1) + 1) + 1) + 1) + cnt c8) + 1) + 1) : Nat) → wy = wx.setCells g (q * 19 + 11) [u] → MS w wy e 19 n (.slice (some ⟨g, 0, none⟩) n cap) g cs k0 S1 xs0 (q * 19 + 12)) := fun wx wy u h hu e => h.cellS at11 ct11.out (hu.trans (mkP_int _ _ KB11).symm) e rfl
      have HC12 : Hid (∀ (wx : World) (x : Int), MS w wx e 19 n (.slice (some ⟨g, 0, none⟩) n cap) g cs k0 S1 xs0 (q * 19 + 12) → x = ((((((((((((((kq + 1) + 1) + 1) + 1) + 1) + 1) + 1) + 1) + cnt c8) + 1) + 1) + 1) : Nat) : Int) → Calls Tryz.prog 56 #[.slice a12 n12 p12, .int .i64 x] wx fun e1 w' => e1 = .returned (.int .i64 ((((((((((((((kq + 1) + 1) + 1) + 1) + 1) + 1) + 1) + 1) + cnt c8) + 1) + 1) + 1) + cnt c12 : Nat))) ∧ Hid (MS w w' e 19 n (.slice (some ⟨g, 0, none⟩) n cap) g cs k0 S1 xs0 (q * 19 + 13))) := by
        intro wx x h hxx
        rw [hxx]
        obtain ⟨c', T, q1, q2, q3, q5⟩ := h.part at12
        rw [x12] at q1
        cases q1
        rw [ct12.out] at q5
        exact (umarkStringS_any n12 ((((((((((((kq + 1) + 1) + 1) + 1) + 1) + 1) + 1) + 1) + cnt c8) + 1) + 1) + 1) c12 _ T wx g12 q3 (by omega) (by omega) q2).mono fun e1 w' h => ⟨h.1, q5 w' h.2.2 h.2.1⟩
      have HC13 : Hid (∀ (wx : World) (x : Int), MS w wx e 19 n (.slice (some ⟨g, 0, none⟩) n cap) g cs k0 S1 xs0 (q * 19 + 13) → x = (((((((((((((((kq + 1) + 1) + 1) + 1) + 1) + 1) + 1) + 1) + cnt c8) + 1) + 1) + 1) + cnt c12) : Nat) : Int) → Calls Tryz.prog 104 #[.slice a13 n13 p13, .int .i64 x] wx fun e1 w' => e1 = .returned (.int .i64 (((((((((((((((kq + 1) + 1) + 1) + 1) + 1) + 1) + 1) + 1) + cnt c8) + 1) + 1) + 1) + cnt c12) + cnt c13 : Nat))) ∧ Hid (MS w w' e 19 n (.slice (some ⟨g, 0, none⟩) n cap) g cs k0 S1 xs0 (q * 19 + 14))) := by
        intro wx x h hxx
        rw [hxx]
        obtain ⟨c', T, q1, q2, q3, q5⟩ := h.part at13
        rw [x13] at q1
        cases q1
        rw [ct13.out] at q5
        exact (umarkValueS_any n13 (((((((((((((kq + 1) + 1) + 1) + 1) + 1) + 1) + 1) + 1) + cnt c8) + 1) + 1) + 1) + cnt c12) c13 _ T wx g13 q3 (by omega) (by omega) q2).mono fun e1 w' h => ⟨h.1, q5 w' h.2.2 h.2.1⟩
      have KB14 : ((((((((((((((kq + 1) + 1) + 1) + 1) + 1) + 1) + 1) + 1) + cnt c8) + 1) + 1) + 1) + cnt c12) + cnt c13) ≤ 1000000000 := by omega
      have HP14 : Hid (∀ (wx wy : World) (u : Value), MS w wx e 19 n (.slice (some ⟨g, 0, none⟩) n cap) g cs k0 S1 xs0 (q * 19 + 14) → u = .int .i64 (((((((((((((((kq + 1) + 1) + 1) + 1) + 1) + 1) + 1) + 1) + cnt c8) + 1) + 1) + 1) + cnt c12) + cnt c13) : Nat) → wy = wx.setCells g (q * 19 + 14) [u] → MS w wy e 19 n (.slice (some ⟨g, 0, none⟩) n cap) g cs k0 S1 xs0 (q * 19 + 15)) := fun wx wy u h hu e => h.cellS at14 ct14.out (hu.trans (mkP_int _ _ KB14).symm) e rfl
      have HP15 : Hid (∀ (wx wy : World) (u : Value), MS w wx e 19 n (.slice (some ⟨g, 0, none⟩) n cap) g cs k0 S1 xs0 (q * 19 + 15) → u = .string (umtx (((((((((((((((kq + 1) + 1) + 1) + 1) + 1) + 1) + 1) + 1) + cnt c8) + 1) + 1) + 1) + cnt c12) + cnt c13) + 1)) → wy = wx.setCells g (q * 19 + 15) [u] → MS w wy e 19 n (.slice (some ⟨g, 0, none⟩) n cap) g cs k0 S1 xs0 (q * 19 + 16)) := fun wx wy u h hu e => h.cellS at15 ct15.out (hu.trans rfl) e rfl
      have HT15 : Hid (∀ (wx : World) (x : Int), x = (((((((((((((((((kq + 1) + 1) + 1) + 1) + 1) + 1) + 1) + 1) + cnt c8) + 1) + 1) + 1) + cnt c12) + cnt c13) + 1) : Nat) : Int) → Calls Tryz.prog 84 #[.int .i64 x] wx fun e1 w' => e1 = .returned (.string (umtx (((((((((((((((kq + 1) + 1) + 1) + 1) + 1) + 1) + 1) + 1) + cnt c8) + 1) + 1) + 1) + cnt c12) + cnt c13) + 1))) ∧ Below wx.heap.size wx w') := fun wx x hx => by rw [hx]; exact umarkText_any _ wx (by omega) (by omega)
      have KB16 : ((((((((((((((((kq + 1) + 1) + 1) + 1) + 1) + 1) + 1) + 1) + cnt c8) + 1) + 1) + 1) + cnt c12) + cnt c13) + 1) + 1) ≤ 1000000000 := by omega
      have HP16 : Hid (∀ (wx wy : World) (u : Value), MS w wx e 19 n (.slice (some ⟨g, 0, none⟩) n cap) g cs k0 S1 xs0 (q * 19 + 16) → u = .int .i64 (((((((((((((((((kq + 1) + 1) + 1) + 1) + 1) + 1) + 1) + 1) + cnt c8) + 1) + 1) + 1) + cnt c12) + cnt c13) + 1) + 1) : Nat) → wy = wx.setCells g (q * 19 + 16) [u] → MS w wy e 19 n (.slice (some ⟨g, 0, none⟩) n cap) g cs k0 S1 xs0 (q * 19 + 17)) := fun wx wy u h hu e => h.cellS at16 ct16.out (hu.trans (mkP_int _ _ KB16).symm) e rfl
      have HC17 : Hid (∀ (wx : World) (x : Int), MS w wx e 19 n (.slice (some ⟨g, 0, none⟩) n cap) g cs k0 S1 xs0 (q * 19 + 17) → x = (((((((((((((((((((kq + 1) + 1) + 1) + 1) + 1) + 1) + 1) + 1) + cnt c8) + 1) + 1) + 1) + cnt c12) + cnt c13) + 1) + 1) + 1) : Nat) : Int) → Calls Tryz.prog 56 #[.slice a17 n17 p17, .int .i64 x] wx fun e1 w' => e1 = .returned (.int .i64 (((((((((((((((((((kq + 1) + 1) + 1) + 1) + 1) + 1) + 1) + 1) + cnt c8) + 1) + 1) + 1) + cnt c12) + cnt c13) + 1) + 1) + 1) + cnt c17 : Nat))) ∧ Hid (MS w w' e 19 n (.slice (some ⟨g, 0, none⟩) n cap) g cs k0 S1 xs0 (q * 19 + 18))) := by
        intro wx x h hxx
        rw [hxx]
        obtain ⟨c', T, q1, q2, q3, q5⟩ := h.part at17
        rw [x17] at q1
        cases q1
        rw [ct17.out] at q5
        exact (umarkStringS_any n17 (((((((((((((((((kq + 1) + 1) + 1) + 1) + 1) + 1) + 1) + 1) + cnt c8) + 1) + 1) + 1) + cnt c12) + cnt c13) + 1) + 1) + 1) c17 _ T wx g17 q3 (by omega) (by omega) q2).mono fun e1 w' h => ⟨h.1, q5 w' h.2.2 h.2.1⟩
      have HC18 : Hid (∀ (wx : World) (x : Int), MS w wx e 19 n (.slice (some ⟨g, 0, none⟩) n cap) g cs k0 S1 xs0 (q * 19 + 18) → x = ((((((((((((((((((((kq + 1) + 1) + 1) + 1) + 1) + 1) + 1) + 1) + cnt c8) + 1) + 1) + 1) + cnt c12) + cnt c13) + 1) + 1) + 1) + cnt c17) : Nat) : Int) → Calls Tryz.prog 104 #[.slice a18 n18 p18, .int .i64 x] wx fun e1 w' => e1 = .returned (.int .i64 ((((((((((((((((((((kq + 1) + 1) + 1) + 1) + 1) + 1) + 1) + 1) + cnt c8) + 1) + 1) + 1) + cnt c12) + cnt c13) + 1) + 1) + 1) + cnt c17) + cnt c18 : Nat))) ∧ Hid (MS w w' e 19 n (.slice (some ⟨g, 0, none⟩) n cap) g cs k0 S1 xs0 (q * 19 + 19))) := by
        intro wx x h hxx
        rw [hxx]
        obtain ⟨c', T, q1, q2, q3, q5⟩ := h.part at18
        rw [x18] at q1
        cases q1
        rw [ct18.out] at q5
        exact (umarkValueS_any n18 ((((((((((((((((((kq + 1) + 1) + 1) + 1) + 1) + 1) + 1) + 1) + cnt c8) + 1) + 1) + 1) + cnt c12) + cnt c13) + 1) + 1) + 1) + cnt c17) c18 _ T wx g18 q3 (by omega) (by omega) q2).mono fun e1 w' h => ⟨h.1, q5 w' h.2.2 h.2.1⟩
      have NN0 : Hid (q * 19 < n * 19) := by show _ < _; omega
      have NN1 : Hid (q * 19 + 1 < n * 19) := by show _ < _; omega
      have NN2 : Hid (q * 19 + 2 < n * 19) := by show _ < _; omega
      have NN3 : Hid (q * 19 + 3 < n * 19) := by show _ < _; omega
      have NN4 : Hid (q * 19 + 4 < n * 19) := by show _ < _; omega
      have NN5 : Hid (q * 19 + 5 < n * 19) := by show _ < _; omega
      have NN6 : Hid (q * 19 + 6 < n * 19) := by show _ < _; omega
      have NN7 : Hid (q * 19 + 7 < n * 19) := by show _ < _; omega
      have HQ8 : Hid (∀ wx, MS w wx e 19 n (.slice (some ⟨g, 0, none⟩) n cap) g cs k0 S1 xs0 (q * 19 + 8) → wx.cell? ⟨g, q * 19 + 8, none⟩ = some (.slice a8 n8 p8)) := fun wx h => h.cellAt _ _ (by omega) x8 (by omega)
      have NN8 : Hid (q * 19 + 8 < n * 19) := by show _ < _; omega
      have NN9 : Hid (q * 19 + 9 < n * 19) := by show _ < _; omega
      have NN10 : Hid (q * 19 + 10 < n * 19) := by show _ < _; omega
      have NN11 : Hid (q * 19 + 11 < n * 19) := by show _ < _; omega
      have HQ12 : Hid (∀ wx, MS w wx e 19 n (.slice (some ⟨g, 0, none⟩) n cap) g cs k0 S1 xs0 (q * 19 + 12) → wx.cell? ⟨g, q * 19 + 12, none⟩ = some (.slice a12 n12 p12)) := fun wx h => h.cellAt _ _ (by omega) x12 (by omega)
      have NN12 : Hid (q * 19 + 12 < n * 19) := by show _ < _; omega
      have HQ13 : Hid (∀ wx, MS w wx e 19 n (.slice (some ⟨g, 0, none⟩) n cap) g cs k0 S1 xs0 (q * 19 + 13) → wx.cell? ⟨g, q * 19 + 13, none⟩ = some (.slice a13 n13 p13)) := fun wx h => h.cellAt _ _ (by omega) x13 (by omega)
      have NN13 : Hid (q * 19 + 13 < n * 19) := by show _ < _; omega
      have NN14 : Hid (q * 19 + 14 < n * 19) := by show _ < _; omega
      have NN15 : Hid (q * 19 + 15 < n * 19) := by show _ < _; omega
      have NN16 : Hid (q * 19 + 16 < n * 19) := by show _ < _; omega
      have HQ17 : Hid (∀ wx, MS w wx e 19 n (.slice (some ⟨g, 0, none⟩) n cap) g cs k0 S1 xs0 (q * 19 + 17) → wx.cell? ⟨g, q * 19 + 17, none⟩ = some (.slice a17 n17 p17)) := fun wx h => h.cellAt _ _ (by omega) x17 (by omega)
      have NN17 : Hid (q * 19 + 17 < n * 19) := by show _ < _; omega
      have HQ18 : Hid (∀ wx, MS w wx e 19 n (.slice (some ⟨g, 0, none⟩) n cap) g cs k0 S1 xs0 (q * 19 + 18) → wx.cell? ⟨g, q * 19 + 18, none⟩ = some (.slice a18 n18 p18)) := fun wx h => h.cellAt _ _ (by omega) x18 (by omega)
      have NN18 : Hid (q * 19 + 18 < n * 19) := by show _ < _; omega
      have HN : Hid (∀ wx, MS w wx e 19 n (.slice (some ⟨g, 0, none⟩) n cap) g cs k0 S1 xs0 (q * 19 + 19) → MS w wx e 19 n (.slice (some ⟨g, 0, none⟩) n cap) g cs k0 S1 xs0 ((q + 1) * 19)) := fun wx h => by rw [show q * 19 + 19 = (q + 1) * 19 by omega] at h; exact h
      have HE := hend
      rw [hk1q.out]
      clear hR htr hend hk1q Ht Hkk Hp0 Hl0 g0 g2 g3 g4 g5 g6 g8 g9 g10 g11 g12 g13 g14 g15 g16 g17 g18 at0 at1 at2 at3 at4 at5 at6 at7 at8 at9 at10 at11 at12 at13 at14 at15 at16 at17 at18 ct0 ct1 ct2 ct3 ct4 ct5 ct6 ct7 ct8 ct9 ct10 ct11 ct12 ct13 ct14 ct15 ct16 ct17 ct18 x8 x12 x13 x17 x18
      generalize umtx (((kq + 1) + 1) + 1) = M3 at *
      generalize cnt c8 = m8 at *
      generalize umtx ((((((((((kq + 1) + 1) + 1) + 1) + 1) + 1) + 1) + 1) + m8) + 1) = M10 at *
      generalize cnt c12 = m12 at *
      generalize cnt c13 = m13 at *
      generalize umtx (((((((((((((((kq + 1) + 1) + 1) + 1) + 1) + 1) + 1) + 1) + m8) + 1) + 1) + 1) + m12) + m13) + 1) = M15 at *
      generalize cnt c17 = m17 at *
      generalize cnt c18 = m18 at *
      have EB1 : ((((kq + 1) : Nat) : Int) % 3 == 0) = ((kq + 1) % 3 == 0) := by rw [Bool.eq_iff_iff, beq_iff_eq, beq_iff_eq]; omega
      push_cast at EB1
      replace EB1 := uhide EB1
      have EB7 : ((((((((((kq + 1) + 1) + 1) + 1) + 1) + 1) + 1) : Nat) : Int) % 3 == 0) = ((((((((kq + 1) + 1) + 1) + 1) + 1) + 1) + 1) % 3 == 0) := by rw [Bool.eq_iff_iff, beq_iff_eq, beq_iff_eq]; omega
      push_cast at EB7
      replace EB7 := uhide EB7
      go_wp2_with (first
        | ((with_reducible refine wpList_store_v ?qqg259 3 ?qqx259 ?qqy259 ?qqo259 ?qqd259 g (q * 19) ?qqh259 (.int .i64 (kq : Nat)) ?qqv259 one_int Tryz.zChange_int (HM.out.there _ NN0.out) ?_); (case qqg259 => rfl); (case qqo259 => rfl); (case qqd259 => rfl); (case qqh259 => simp [Act.eval, Act.put]); (case qqv259 => first | (simp; done) | (simp [Act.eval]; done) | (simp [Act.eval]; omega) | (simp only [Act.put]; simp; done) | (simp only [Act.put]; simp [Act.eval]; done) | (simp only [Act.put]; simp [Act.eval]; omega) | (simp [Act.eval, Bool.eq_iff_iff]; omega)); intro wy ey; replace HM := uhide (HP0.out _ wy _ HM.out rfl ey); clear ey)
        | ((with_reducible refine wpList_store_v ?qqg260 4 ?qqx260 ?qqy260 ?qqo260 ?qqd260 g (q * 19 + 1) ?qqh260 (.bool ((kq + 1) % 3 == 0)) ?qqv260 one_bool Tryz.zChange_bool (HM.out.there _ NN1.out) ?_); (case qqg260 => rfl); (case qqo260 => rfl); (case qqd260 => rfl); (case qqh260 => simp [Act.eval, Act.put]); (case qqv260 => first | exact congrArg Value.bool EB1.out | rfl); intro wy ey; replace HM := uhide (HP1.out _ wy _ HM.out rfl ey); clear ey)
        | ((with_reducible refine wpList_store_v ?qqg261 3 ?qqx261 ?qqy261 ?qqo261 ?qqd261 g (q * 19 + 2) ?qqh261 (.int .i64 (((kq + 1) + 1) : Nat)) ?qqv261 one_int Tryz.zChange_int (HM.out.there _ NN2.out) ?_); (case qqg261 => rfl); (case qqo261 => rfl); (case qqd261 => rfl); (case qqh261 => simp [Act.eval, Act.put]); (case qqv261 => first | (simp; done) | (simp [Act.eval]; done) | (simp [Act.eval]; omega) | (simp only [Act.put]; simp; done) | (simp only [Act.put]; simp [Act.eval]; done) | (simp only [Act.put]; simp [Act.eval]; omega) | (simp [Act.eval, Bool.eq_iff_iff]; omega)); intro wy ey; replace HM := uhide (HP2.out _ wy _ HM.out rfl ey); clear ey)
        )
      refine (HT3.out _ _ (by omega)).mono ?_
      rintro e1 w1 ⟨rfl, hb1⟩
      replace HM := uhide (HM.out.below hb1)
      clear hb1
      go_wp2_with (first
        | ((with_reducible refine wpList_store_v ?qqg268 9 ?qqx268 ?qqy268 ?qqo268 ?qqd268 g (q * 19 + 3) ?qqh268 (.string M3) ?qqv268 one_string Tryz.zChange_string (HM.out.there _ NN3.out) ?_); (case qqg268 => rfl); (case qqo268 => rfl); (case qqd268 => rfl); (case qqh268 => simp [Act.eval, Act.put]); (case qqv268 => first | (simp; done) | (simp [Act.eval]; done) | (simp [Act.eval]; omega) | (simp only [Act.put]; simp; done) | (simp only [Act.put]; simp [Act.eval]; done) | (simp only [Act.put]; simp [Act.eval]; omega) | (simp [Act.eval, Bool.eq_iff_iff]; omega)); intro wy ey; replace HM := uhide (HP3.out _ wy _ HM.out rfl ey); clear ey)
        | ((with_reducible refine wpList_store_v ?qqg269 3 ?qqx269 ?qqy269 ?qqo269 ?qqd269 g (q * 19 + 4) ?qqh269 (.int .i64 (((((kq + 1) + 1) + 1) + 1) : Nat)) ?qqv269 one_int Tryz.zChange_int (HM.out.there _ NN4.out) ?_); (case qqg269 => rfl); (case qqo269 => rfl); (case qqd269 => rfl); (case qqh269 => simp [Act.eval, Act.put]); (case qqv269 => first | (simp; done) | (simp [Act.eval]; done) | (simp [Act.eval]; omega) | (simp only [Act.put]; simp; done) | (simp only [Act.put]; simp [Act.eval]; done) | (simp only [Act.put]; simp [Act.eval]; omega) | (simp [Act.eval, Bool.eq_iff_iff]; omega)); intro wy ey; replace HM := uhide (HP4.out _ wy _ HM.out rfl ey); clear ey)
        | ((with_reducible refine wpList_store_v ?qqg270 3 ?qqx270 ?qqy270 ?qqo270 ?qqd270 g (q * 19 + 5) ?qqh270 (.int .i64 ((((((kq + 1) + 1) + 1) + 1) + 1) : Nat)) ?qqv270 one_int Tryz.zChange_int (HM.out.there _ NN5.out) ?_); (case qqg270 => rfl); (case qqo270 => rfl); (case qqd270 => rfl); (case qqh270 => simp [Act.eval, Act.put]); (case qqv270 => first | (simp; done) | (simp [Act.eval]; done) | (simp [Act.eval]; omega) | (simp only [Act.put]; simp; done) | (simp only [Act.put]; simp [Act.eval]; done) | (simp only [Act.put]; simp [Act.eval]; omega) | (simp [Act.eval, Bool.eq_iff_iff]; omega)); intro wy ey; replace HM := uhide (HP5.out _ wy _ HM.out rfl ey); clear ey)
        | ((with_reducible refine wpList_store_v ?qqg271 3 ?qqx271 ?qqy271 ?qqo271 ?qqd271 g (q * 19 + 6) ?qqh271 (.int .i64 (((((((kq + 1) + 1) + 1) + 1) + 1) + 1) : Nat)) ?qqv271 one_int Tryz.zChange_int (HM.out.there _ NN6.out) ?_); (case qqg271 => rfl); (case qqo271 => rfl); (case qqd271 => rfl); (case qqh271 => simp [Act.eval, Act.put]); (case qqv271 => first | (simp; done) | (simp [Act.eval]; done) | (simp [Act.eval]; omega) | (simp only [Act.put]; simp; done) | (simp only [Act.put]; simp [Act.eval]; done) | (simp only [Act.put]; simp [Act.eval]; omega) | (simp [Act.eval, Bool.eq_iff_iff]; omega)); intro wy ey; replace HM := uhide (HP6.out _ wy _ HM.out rfl ey); clear ey)
        | ((with_reducible refine wpList_store_v ?qqg272 4 ?qqx272 ?qqy272 ?qqo272 ?qqd272 g (q * 19 + 7) ?qqh272 (.bool ((((((((kq + 1) + 1) + 1) + 1) + 1) + 1) + 1) % 3 == 0)) ?qqv272 one_bool Tryz.zChange_bool (HM.out.there _ NN7.out) ?_); (case qqg272 => rfl); (case qqo272 => rfl); (case qqd272 => rfl); (case qqh272 => simp [Act.eval, Act.put]); (case qqv272 => first | exact congrArg Value.bool EB7.out | rfl); intro wy ey; replace HM := uhide (HP7.out _ wy _ HM.out rfl ey); clear ey)
        | ((with_reducible refine wpList_load_one ?qqg273 23 ?qqx273 ?qqo273 g (q * 19 + 8) ?qqh273 (.slice a8 n8 p8) Tryz.rChange_Lstring (HQ8.out _ HM.out) ?_); (case qqg273 => rfl); (case qqo273 => rfl); (case qqh273 => simp [Act.eval, Act.put]))
        )
      refine (HC8.out _ _ HM.out (by omega)).mono ?_
      rintro e1 w2 ⟨rfl, HM2⟩
      replace HM := HM2
      go_wp2_with (first
        | ((with_reducible refine wpList_store_v ?qqg279 3 ?qqx279 ?qqy279 ?qqo279 ?qqd279 g (q * 19 + 9) ?qqh279 (.int .i64 ((((((((((kq + 1) + 1) + 1) + 1) + 1) + 1) + 1) + 1) + m8) : Nat)) ?qqv279 one_int Tryz.zChange_int (HM.out.there _ NN9.out) ?_); (case qqg279 => rfl); (case qqo279 => rfl); (case qqd279 => rfl); (case qqh279 => simp [Act.eval, Act.put]); (case qqv279 => first | (simp; done) | (simp [Act.eval]; done) | (simp [Act.eval]; omega) | (simp only [Act.put]; simp; done) | (simp only [Act.put]; simp [Act.eval]; done) | (simp only [Act.put]; simp [Act.eval]; omega) | (simp [Act.eval, Bool.eq_iff_iff]; omega)); intro wy ey; replace HM := uhide (HP9.out _ wy _ HM.out rfl ey); clear ey)
        )
      refine (HT10.out _ _ (by omega)).mono ?_
      rintro e1 w3 ⟨rfl, hb3⟩
      replace HM := uhide (HM.out.below hb3)
      clear hb3
      go_wp2_with (first
        | ((with_reducible refine wpList_store_v ?qqg286 9 ?qqx286 ?qqy286 ?qqo286 ?qqd286 g (q * 19 + 10) ?qqh286 (.string M10) ?qqv286 one_string Tryz.zChange_string (HM.out.there _ NN10.out) ?_); (case qqg286 => rfl); (case qqo286 => rfl); (case qqd286 => rfl); (case qqh286 => simp [Act.eval, Act.put]); (case qqv286 => first | (simp; done) | (simp [Act.eval]; done) | (simp [Act.eval]; omega) | (simp only [Act.put]; simp; done) | (simp only [Act.put]; simp [Act.eval]; done) | (simp only [Act.put]; simp [Act.eval]; omega) | (simp [Act.eval, Bool.eq_iff_iff]; omega)); intro wy ey; replace HM := uhide (HP10.out _ wy _ HM.out rfl ey); clear ey)
        | ((with_reducible refine wpList_store_v ?qqg287 3 ?qqx287 ?qqy287 ?qqo287 ?qqd287 g (q * 19 + 11) ?qqh287 (.int .i64 ((((((((((((kq + 1) + 1) + 1) + 1) + 1) + 1) + 1) + 1) + m8) + 1) + 1) : Nat)) ?qqv287 one_int Tryz.zChange_int (HM.out.there _ NN11.out) ?_); (case qqg287 => rfl); (case qqo287 => rfl); (case qqd287 => rfl); (case qqh287 => simp [Act.eval, Act.put]); (case qqv287 => first | (simp; done) | (simp [Act.eval]; done) | (simp [Act.eval]; omega) | (simp only [Act.put]; simp; done) | (simp only [Act.put]; simp [Act.eval]; done) | (simp only [Act.put]; simp [Act.eval]; omega) | (simp [Act.eval, Bool.eq_iff_iff]; omega)); intro wy ey; replace HM := uhide (HP11.out _ wy _ HM.out rfl ey); clear ey)
        | ((with_reducible refine wpList_load_one ?qqg288 23 ?qqx288 ?qqo288 g (q * 19 + 12) ?qqh288 (.slice a12 n12 p12) Tryz.rChange_Lstring (HQ12.out _ HM.out) ?_); (case qqg288 => rfl); (case qqo288 => rfl); (case qqh288 => simp [Act.eval, Act.put]))
        )
      refine (HC12.out _ _ HM.out (by omega)).mono ?_
      rintro e1 w4 ⟨rfl, HM2⟩
      replace HM := HM2
      go_wp2_with (first
        | ((with_reducible refine wpList_load_one ?qqg294 88 ?qqx294 ?qqo294 g (q * 19 + 13) ?qqh294 (.slice a13 n13 p13) Tryz.rChange_Limpl_Value (HQ13.out _ HM.out) ?_); (case qqg294 => rfl); (case qqo294 => rfl); (case qqh294 => simp [Act.eval, Act.put]))
        )
      refine (HC13.out _ _ HM.out (by omega)).mono ?_
      rintro e1 w5 ⟨rfl, HM2⟩
      replace HM := HM2
      go_wp2_with (first
        | ((with_reducible refine wpList_store_v ?qqg300 3 ?qqx300 ?qqy300 ?qqo300 ?qqd300 g (q * 19 + 14) ?qqh300 (.int .i64 (((((((((((((((kq + 1) + 1) + 1) + 1) + 1) + 1) + 1) + 1) + m8) + 1) + 1) + 1) + m12) + m13) : Nat)) ?qqv300 one_int Tryz.zChange_int (HM.out.there _ NN14.out) ?_); (case qqg300 => rfl); (case qqo300 => rfl); (case qqd300 => rfl); (case qqh300 => simp [Act.eval, Act.put]); (case qqv300 => first | (simp; done) | (simp [Act.eval]; done) | (simp [Act.eval]; omega) | (simp only [Act.put]; simp; done) | (simp only [Act.put]; simp [Act.eval]; done) | (simp only [Act.put]; simp [Act.eval]; omega) | (simp [Act.eval, Bool.eq_iff_iff]; omega)); intro wy ey; replace HM := uhide (HP14.out _ wy _ HM.out rfl ey); clear ey)
        )
      refine (HT15.out _ _ (by omega)).mono ?_
      rintro e1 w6 ⟨rfl, hb6⟩
      replace HM := uhide (HM.out.below hb6)
      clear hb6
      go_wp2_with (first
        | ((with_reducible refine wpList_store_v ?qqg307 9 ?qqx307 ?qqy307 ?qqo307 ?qqd307 g (q * 19 + 15) ?qqh307 (.string M15) ?qqv307 one_string Tryz.zChange_string (HM.out.there _ NN15.out) ?_); (case qqg307 => rfl); (case qqo307 => rfl); (case qqd307 => rfl); (case qqh307 => simp [Act.eval, Act.put]); (case qqv307 => first | (simp; done) | (simp [Act.eval]; done) | (simp [Act.eval]; omega) | (simp only [Act.put]; simp; done) | (simp only [Act.put]; simp [Act.eval]; done) | (simp only [Act.put]; simp [Act.eval]; omega) | (simp [Act.eval, Bool.eq_iff_iff]; omega)); intro wy ey; replace HM := uhide (HP15.out _ wy _ HM.out rfl ey); clear ey)
        | ((with_reducible refine wpList_store_v ?qqg308 3 ?qqx308 ?qqy308 ?qqo308 ?qqd308 g (q * 19 + 16) ?qqh308 (.int .i64 (((((((((((((((((kq + 1) + 1) + 1) + 1) + 1) + 1) + 1) + 1) + m8) + 1) + 1) + 1) + m12) + m13) + 1) + 1) : Nat)) ?qqv308 one_int Tryz.zChange_int (HM.out.there _ NN16.out) ?_); (case qqg308 => rfl); (case qqo308 => rfl); (case qqd308 => rfl); (case qqh308 => simp [Act.eval, Act.put]); (case qqv308 => first | (simp; done) | (simp [Act.eval]; done) | (simp [Act.eval]; omega) | (simp only [Act.put]; simp; done) | (simp only [Act.put]; simp [Act.eval]; done) | (simp only [Act.put]; simp [Act.eval]; omega) | (simp [Act.eval, Bool.eq_iff_iff]; omega)); intro wy ey; replace HM := uhide (HP16.out _ wy _ HM.out rfl ey); clear ey)
        | ((with_reducible refine wpList_load_one ?qqg309 23 ?qqx309 ?qqo309 g (q * 19 + 17) ?qqh309 (.slice a17 n17 p17) Tryz.rChange_Lstring (HQ17.out _ HM.out) ?_); (case qqg309 => rfl); (case qqo309 => rfl); (case qqh309 => simp [Act.eval, Act.put]))
        )
      refine (HC17.out _ _ HM.out (by omega)).mono ?_
      rintro e1 w7 ⟨rfl, HM2⟩
      replace HM := HM2
      go_wp2_with (first
        | ((with_reducible refine wpList_load_one ?qqg315 88 ?qqx315 ?qqo315 g (q * 19 + 18) ?qqh315 (.slice a18 n18 p18) Tryz.rChange_Limpl_Value (HQ18.out _ HM.out) ?_); (case qqg315 => rfl); (case qqo315 => rfl); (case qqh315 => simp [Act.eval, Act.put]))
        )
      refine (HC18.out _ _ HM.out (by omega)).mono ?_
      rintro e1 w8 ⟨rfl, HM2⟩
      replace HM := HM2
      go_wp2
      go_roundw
      case rel => exact ⟨q + 1, by omega, by go_num, by rw [HE.out]; go_num, HN.out _ HM.out⟩
      case measure => (simp [intOf]; omega)
    · have e : q = n := by omega
      subst e
      obtain ⟨h1, h2⟩ := HM.out.done (by decide)
      have HD := uhide (And.intro h1 h2)
      have hl : cs.takeN (q * 19) = cs := by apply UD.ext; unfold UD.takeN; rw [UD.toL_ofL]; exact List.take_of_length_le (Nat.le_of_eq Ht.out.2.2.2.1)
      rw [hl]
      clear h1 h2 hl HM Ht Hp0 Hl0 Hkk
      go_wp2
      go_ret
      exact ⟨rfl, HD.out⟩
end Go.Proofs.YtdnodaoeflbfkaaGreat
/- Data as cells: the helpers of the laws over Base. -/
namespace Go.Proofs.YtdnodaoeflbfkaaGreat
open Go.RowKit Go.BigFrame
set_option linter.unusedVariables false
set_option linter.unusedSimpArgs false

set_option maxRecDepth 20000 in
set_option maxHeartbeats 800000 in
theorem umarkBase_any (d : UD) (k0 : Nat) (xs : List Value) (S : List Nat) (w : World) (ht : tyL d (uE 10)) (hnd : S.Nodup) (hk0 : 1 ≤ k0) (hk1 : k0 + cntT d ≤ 100000000) (hx : oH w d xs S) :
    Calls Tryz.prog 39 #[.agg xs.toArray, .int .i64 k0] w fun e w' => e = .returned (.int .i64 (k0 + cntT d : Nat)) ∧ oH w' (mkT d k0) xs S ∧ OutS S w w' := by
  obtain ⟨n0, c0, z1, z2, n3, c3, rfl, g0, g1, g2, g3⟩ := partsBase ht
  have hx' := hx
  obtain ⟨v0, _, _, _, rfl, _, _, ⟨_, _, o0, _⟩, ⟨_, rfl, ⟨_, rfl, ⟨v3, _, _, _, rfl, _, _, ⟨_, _, o3, _⟩, ⟨rfl, _⟩⟩⟩⟩⟩ := hx'
  obtain ⟨a0, p0, rfl⟩ := uowns_slice o0
  clear o0
  obtain ⟨a3, p3, rfl⟩ := uowns_slice o3
  clear o3
  simp only [cntT] at hk1
  have hlt := hx.lt
  have HC0 : Hid (∀ (wx : World) (x : Int), oH wx (.l 17 n0 c0 (.p (.int .i64 z1) (.p (.int .i64 z2) (.l 19 n3 c3 .nil)))) [.slice a0 n0 p0, .int .i64 z1, .int .i64 z2, .slice a3 n3 p3] S → x = ((k0 : Nat) : Int) → Calls Tryz.prog 96 #[.slice a0 n0 p0, .int .i64 x] wx fun e w' => e = .returned (.int .i64 ((k0 + cnt c0) : Nat)) ∧ oH w' (.l 17 n0 (mk c0 k0) (.p (.int .i64 z1) (.p (.int .i64 z2) (.l 19 n3 c3 .nil)))) [.slice a0 n0 p0, .int .i64 z1, .int .i64 z2, .slice a3 n3 p3] S ∧ OutS S wx w') := by
    intro wx x h hxx
    rw [hxx]
    obtain ⟨c', T, q1, q2, q3, q4, q5⟩ := h.part hnd 0 17 n0 c0 rfl
    cases q1
    exact (umarkObjS_any n0 k0 c0 _ T wx g0 q3 (by omega) (by omega) q2).mono fun e w' h => ⟨h.1, q5 w' _ h.2.2 h.2.1, h.2.2.mono q4⟩
  have HC1 : Hid (∀ (wx : World) (x : Int), oH wx (.l 17 n0 (mk c0 k0) (.p (.int .i64 z1) (.p (.int .i64 z2) (.l 19 n3 c3 .nil)))) [.slice a0 n0 p0, .int .i64 z1, .int .i64 z2, .slice a3 n3 p3] S → x = (((k0 + cnt c0) : Nat) : Int) → Calls Tryz.prog 45 #[.slice a3 n3 p3, .int .i64 x] wx fun e w' => e = .returned (.int .i64 (((k0 + cnt c0) + cnt c3) : Nat)) ∧ oH w' (.l 17 n0 (mk c0 k0) (.p (.int .i64 z1) (.p (.int .i64 z2) (.l 19 n3 (mk c3 (k0 + cnt c0)) .nil)))) [.slice a0 n0 p0, .int .i64 z1, .int .i64 z2, .slice a3 n3 p3] S ∧ OutS S wx w') := by
    intro wx x h hxx
    rw [hxx]
    obtain ⟨c', T, q1, q2, q3, q4, q5⟩ := h.part hnd 3 19 n3 c3 rfl
    cases q1
    exact (umarkChangeS_any n3 (k0 + cnt c0) c3 _ T wx g3 q3 (by omega) (by omega) q2).mono fun e w' h => ⟨h.1, q5 w' _ h.2.2 h.2.1, h.2.2.mono q4⟩
  have HE : Hid ((((k0 + cnt c0) + cnt c3) : Nat) = k0 + cntT (.l 17 n0 c0 (.p (.int .i64 z1) (.p (.int .i64 z2) (.l 19 n3 c3 .nil))))) := by show _ = _; simp only [cntT]; omega
  have HF : Hid (∀ wx, oH wx (.l 17 n0 (mk c0 k0) (.p (.int .i64 z1) (.p (.int .i64 z2) (.l 19 n3 (mk c3 (k0 + cnt c0)) .nil)))) [.slice a0 n0 p0, .int .i64 z1, .int .i64 z2, .slice a3 n3 p3] S → oH wx (mkT (.l 17 n0 c0 (.p (.int .i64 z1) (.p (.int .i64 z2) (.l 19 n3 c3 .nil)))) k0) [.slice a0 n0 p0, .int .i64 z1, .int .i64 z2, .slice a3 n3 p3] S) := fun wx h => h
  generalize k0 + cntT (.l 17 n0 c0 (.p (.int .i64 z1) (.p (.int .i64 z2) (.l 19 n3 c3 .nil)))) = R at *
  have H0 : Hid (∀ o, oH (w.alloc o) (.l 17 n0 c0 (.p (.int .i64 z1) (.p (.int .i64 z2) (.l 19 n3 c3 .nil)))) [.slice a0 n0 p0, .int .i64 z1, .int .i64 z2, .slice a3 n3 p3] S) := fun o => hx.below ((Below.refl _ _).alloc (Nat.le_refl _) _)
  have HS : Hid (w.heap.size ∉ S) := fun h => by have := hlt _ h; omega
  have HO : Hid (∀ o w', OutS S (w.alloc o) w' → OutS S w w') := fun o w' h => (OutS.of_below ((Below.refl _ _).alloc (Nat.le_refl _) _)).trans h
  clear ht hx hlt hnd g0 g1 g2 g3
  go_enter Tryz.func39, Tryz.ntmps39
  go_wp2_with fail
  refine (HC0.out _ _ (H0.out _) (by omega)).mono ?_
  rintro e w1 ⟨rfl, h1, ho1⟩
  have b1 : w1.cell? ⟨w.heap.size, 1, none⟩ = some (.int .i64 z1) := (ho1.cell (p := ⟨w.heap.size, 1, none⟩) (by simp) HS.out).trans (by simp [go_sem])
  have b2 : w1.cell? ⟨w.heap.size, 2, none⟩ = some (.int .i64 z2) := (ho1.cell (p := ⟨w.heap.size, 2, none⟩) (by simp) HS.out).trans (by simp [go_sem])
  have b3 : w1.cell? ⟨w.heap.size, 3, none⟩ = some (.slice a3 n3 p3) := (ho1.cell (p := ⟨w.heap.size, 3, none⟩) (by simp) HS.out).trans (by simp [go_sem])
  have I1 := uhide h1
  have B1 : Hid (OutS S w w1) := HO.out _ _ ho1
  clear h1 ho1
  go_wp2_with fail
  refine (HC1.out _ _ I1.out (by omega)).mono ?_
  rintro e w2 ⟨rfl, h2, ho2⟩
  have I2 := uhide h2
  have B2 : Hid (OutS S w w2) := B1.out.trans ho2
  clear h2 ho2
  go_wp2
  go_ret
  exact ⟨ret_intU (by have := HE.out; omega), HF.out _ I2.out, B2.out⟩
end Go.Proofs.YtdnodaoeflbfkaaGreat
/- Data as cells: the helpers of the laws over Obj. -/
namespace Go.Proofs.YtdnodaoeflbfkaaGreat
open Go.RowKit Go.BigFrame
set_option linter.unusedVariables false
set_option linter.unusedSimpArgs false

set_option maxRecDepth 20000 in
set_option maxHeartbeats 1600000 in
theorem uheldObjS_any {lo hi : Nat} (n k0 : Nat) (cs : UD) (c : Value) (w : World) (ht : tyS 17 n cs 8) (hk0 : 1 ≤ k0) (hk1 : k0 + cnt cs ≤ 100000000) (hx : uS w lo hi 17 n (mk cs k0) c) :
    Calls Tryz.prog 97 #[c, .int .i64 k0] w fun e w' => e = .returned (.int .i64 (k0 + cnt cs : Nat)) ∧ Below w.heap.size w w' := by
  obtain ⟨a, cap, rfl, hx2⟩ := hx
  have Hx : Hid (uS w lo hi 17 n (mk cs k0) (.slice a n cap)) := ⟨a, cap, rfl, hx2⟩
  have hmx := ht.2.2.1
  unfold maxLen at hmx
  have Ht := uhide ht
  have Hkk : Hid (∀ q, k0 + cnt (cs.takeN (q * 17)) ≤ 100000000) := fun q => by have := cnt_le cs (q * 17); omega
  clear hx2 ht
  go_enter Tryz.func97, Tryz.ntmps97
  go_wp2
  go_loopw [1, 5] (fun s i wr => ∃ (q : Nat), q ≤ n ∧ i = .int .i64 q ∧ s = .int .i64 (k0 + cnt (cs.takeN (q * 17)) : Nat) ∧ Below w.heap.size w wr) (fun _ i _ => n - (intOf i).toNat)
  case atStart => exact ⟨0, Nat.zero_le _, rfl, by rw [Nat.zero_mul]; rfl, Below.refl _ _⟩
  case round =>
    obtain ⟨q, hq, rfl, rfl, hbw⟩ := hrel
    by_cases hlt : q < n
    · obtain ⟨b, off, rfl, hbb, hm⟩ := (Hx.out.below hbw).cells (by omega)
      have htr := Ht.out.row hlt
      have hsz := uszD_row cs 17 q
      have hkn := cnt_row cs 17 q
      have hkb := Hkk.out (q + 1)
      have hkr := hkn
      have hrow := hm.row 17 q
      rw [mk_row] at hrow
      obtain ⟨z0, z1, z2, z3, z4, z5, n6, c6, z7, z8, z9, n10, c10, n11, c11, z12, z13, z14, n15, c15, n16, c16, hR, g0, g1, g2, g3, g4, g6, g7, g8, g9, g10, g11, g12, g13, g14, g15, g16⟩ := partsObj htr
      rw [hR] at hrow hkn hsz
      simp only [cnt, Nat.add_zero] at hkn
      obtain ⟨xs, hh, hcl⟩ := hrow.hand
      obtain ⟨_, rfl, ⟨_, rfl, ⟨_, rfl, ⟨_, rfl, ⟨_, rfl, ⟨_, rfl, ⟨v6, _, rfl, s6, ⟨_, rfl, ⟨_, rfl, ⟨_, rfl, ⟨v10, _, rfl, s10, ⟨v11, _, rfl, s11, ⟨_, rfl, ⟨_, rfl, ⟨_, rfl, ⟨v15, _, rfl, s15, ⟨v16, _, rfl, s16, rfl⟩⟩⟩⟩⟩⟩⟩⟩⟩⟩⟩⟩⟩⟩⟩⟩⟩ := hh
      obtain ⟨a6, p6, rfl, t6⟩ := s6
      obtain ⟨a10, p10, rfl, t10⟩ := s10
      obtain ⟨a11, p11, rfl, t11⟩ := s11
      obtain ⟨a15, p15, rfl, t15⟩ := s15
      obtain ⟨a16, p16, rfl, t16⟩ := s16
      generalize hKd : k0 + cnt (cs.takeN (q * 17)) = kq at *
      have hK0 : 1 ≤ kq := by omega
      have hend : k0 + cnt (cs.takeN ((q + 1) * 17)) = (((((((((((((((((kq + 1) + 1) + 1) + 1) + 1) + 1) + cnt c6) + 1) + 1) + 1) + cnt c10) + cnt c11) + 1) + 1) + 1) + cnt c15) + cnt c16) := by rw [hkn]; omega
      rw [hend] at hkb
      have q0 : wr.cell? ⟨b, off + q * 17, none⟩ = some (.int .i64 (kq : Nat)) := (show wr.cell? ⟨b, off + q * 17, none⟩ = _ from hcl 0 _ rfl).trans (congrArg some (mkP_int _ _ (by omega)))
      have q1 : wr.cell? ⟨b, off + q * 17 + 1, none⟩ = some (.string (umtx (kq + 1))) := hcl 1 _ rfl
      have q2 : wr.cell? ⟨b, off + q * 17 + 2, none⟩ = some (.int .i64 (((kq + 1) + 1) : Nat)) := (show wr.cell? ⟨b, off + q * 17 + 2, none⟩ = _ from hcl 2 _ rfl).trans (congrArg some (mkP_int _ _ (by omega)))
      have q3 : wr.cell? ⟨b, off + q * 17 + 3, none⟩ = some (.int .i64 ((((kq + 1) + 1) + 1) : Nat)) := (show wr.cell? ⟨b, off + q * 17 + 3, none⟩ = _ from hcl 3 _ rfl).trans (congrArg some (mkP_int _ _ (by omega)))
      have q4 : wr.cell? ⟨b, off + q * 17 + 4, none⟩ = some (.int .i64 (((((kq + 1) + 1) + 1) + 1) : Nat)) := (show wr.cell? ⟨b, off + q * 17 + 4, none⟩ = _ from hcl 4 _ rfl).trans (congrArg some (mkP_int _ _ (by omega)))
      have q5 : wr.cell? ⟨b, off + q * 17 + 5, none⟩ = some (.bool ((((((kq + 1) + 1) + 1) + 1) + 1) % 3 == 0)) := hcl 5 _ rfl
      have q6 : wr.cell? ⟨b, off + q * 17 + 6, none⟩ = some (.slice a6 n6 p6) := hcl 6 _ rfl
      have q7 : wr.cell? ⟨b, off + q * 17 + 7, none⟩ = some (.int .i64 ((((((((kq + 1) + 1) + 1) + 1) + 1) + 1) + cnt c6) : Nat)) := (show wr.cell? ⟨b, off + q * 17 + 7, none⟩ = _ from hcl 7 _ rfl).trans (congrArg some (mkP_int _ _ (by omega)))
      have q8 : wr.cell? ⟨b, off + q * 17 + 8, none⟩ = some (.string (umtx ((((((((kq + 1) + 1) + 1) + 1) + 1) + 1) + cnt c6) + 1))) := hcl 8 _ rfl
      have q9 : wr.cell? ⟨b, off + q * 17 + 9, none⟩ = some (.int .i64 ((((((((((kq + 1) + 1) + 1) + 1) + 1) + 1) + cnt c6) + 1) + 1) : Nat)) := (show wr.cell? ⟨b, off + q * 17 + 9, none⟩ = _ from hcl 9 _ rfl).trans (congrArg some (mkP_int _ _ (by omega)))
      have q10 : wr.cell? ⟨b, off + q * 17 + 10, none⟩ = some (.slice a10 n10 p10) := hcl 10 _ rfl
      have q11 : wr.cell? ⟨b, off + q * 17 + 11, none⟩ = some (.slice a11 n11 p11) := hcl 11 _ rfl
      have q12 : wr.cell? ⟨b, off + q * 17 + 12, none⟩ = some (.int .i64 (((((((((((((kq + 1) + 1) + 1) + 1) + 1) + 1) + cnt c6) + 1) + 1) + 1) + cnt c10) + cnt c11) : Nat)) := (show wr.cell? ⟨b, off + q * 17 + 12, none⟩ = _ from hcl 12 _ rfl).trans (congrArg some (mkP_int _ _ (by omega)))
      have q13 : wr.cell? ⟨b, off + q * 17 + 13, none⟩ = some (.string (umtx (((((((((((((kq + 1) + 1) + 1) + 1) + 1) + 1) + cnt c6) + 1) + 1) + 1) + cnt c10) + cnt c11) + 1))) := hcl 13 _ rfl
      have q14 : wr.cell? ⟨b, off + q * 17 + 14, none⟩ = some (.int .i64 (((((((((((((((kq + 1) + 1) + 1) + 1) + 1) + 1) + cnt c6) + 1) + 1) + 1) + cnt c10) + cnt c11) + 1) + 1) : Nat)) := (show wr.cell? ⟨b, off + q * 17 + 14, none⟩ = _ from hcl 14 _ rfl).trans (congrArg some (mkP_int _ _ (by omega)))
      have q15 : wr.cell? ⟨b, off + q * 17 + 15, none⟩ = some (.slice a15 n15 p15) := hcl 15 _ rfl
      have q16 : wr.cell? ⟨b, off + q * 17 + 16, none⟩ = some (.slice a16 n16 p16) := hcl 16 _ rfl
      have HQ0 : Hid (∀ wx, Below wr.heap.size wr wx → wx.cell? ⟨b, off + q * 17, none⟩ = some (.int .i64 (kq : Nat))) := fun wx hb => (hb.cell (p := ⟨b, off + q * 17, none⟩) hbb).trans q0
      have HQ1 : Hid (∀ wx, Below wr.heap.size wr wx → wx.cell? ⟨b, off + q * 17 + 1, none⟩ = some (.string (umtx (kq + 1)))) := fun wx hb => (hb.cell (p := ⟨b, off + q * 17 + 1, none⟩) hbb).trans q1
      have HQ2 : Hid (∀ wx, Below wr.heap.size wr wx → wx.cell? ⟨b, off + q * 17 + 2, none⟩ = some (.int .i64 (((kq + 1) + 1) : Nat))) := fun wx hb => (hb.cell (p := ⟨b, off + q * 17 + 2, none⟩) hbb).trans q2
      have HQ3 : Hid (∀ wx, Below wr.heap.size wr wx → wx.cell? ⟨b, off + q * 17 + 3, none⟩ = some (.int .i64 ((((kq + 1) + 1) + 1) : Nat))) := fun wx hb => (hb.cell (p := ⟨b, off + q * 17 + 3, none⟩) hbb).trans q3
      have HQ4 : Hid (∀ wx, Below wr.heap.size wr wx → wx.cell? ⟨b, off + q * 17 + 4, none⟩ = some (.int .i64 (((((kq + 1) + 1) + 1) + 1) : Nat))) := fun wx hb => (hb.cell (p := ⟨b, off + q * 17 + 4, none⟩) hbb).trans q4
      have HQ5 : Hid (∀ wx, Below wr.heap.size wr wx → wx.cell? ⟨b, off + q * 17 + 5, none⟩ = some (.bool ((((((kq + 1) + 1) + 1) + 1) + 1) % 3 == 0))) := fun wx hb => (hb.cell (p := ⟨b, off + q * 17 + 5, none⟩) hbb).trans q5
      have HQ6 : Hid (∀ wx, Below wr.heap.size wr wx → wx.cell? ⟨b, off + q * 17 + 6, none⟩ = some (.slice a6 n6 p6)) := fun wx hb => (hb.cell (p := ⟨b, off + q * 17 + 6, none⟩) hbb).trans q6
      have HQ7 : Hid (∀ wx, Below wr.heap.size wr wx → wx.cell? ⟨b, off + q * 17 + 7, none⟩ = some (.int .i64 ((((((((kq + 1) + 1) + 1) + 1) + 1) + 1) + cnt c6) : Nat))) := fun wx hb => (hb.cell (p := ⟨b, off + q * 17 + 7, none⟩) hbb).trans q7
      have HQ8 : Hid (∀ wx, Below wr.heap.size wr wx → wx.cell? ⟨b, off + q * 17 + 8, none⟩ = some (.string (umtx ((((((((kq + 1) + 1) + 1) + 1) + 1) + 1) + cnt c6) + 1)))) := fun wx hb => (hb.cell (p := ⟨b, off + q * 17 + 8, none⟩) hbb).trans q8
      have HQ9 : Hid (∀ wx, Below wr.heap.size wr wx → wx.cell? ⟨b, off + q * 17 + 9, none⟩ = some (.int .i64 ((((((((((kq + 1) + 1) + 1) + 1) + 1) + 1) + cnt c6) + 1) + 1) : Nat))) := fun wx hb => (hb.cell (p := ⟨b, off + q * 17 + 9, none⟩) hbb).trans q9
      have HQ10 : Hid (∀ wx, Below wr.heap.size wr wx → wx.cell? ⟨b, off + q * 17 + 10, none⟩ = some (.slice a10 n10 p10)) := fun wx hb => (hb.cell (p := ⟨b, off + q * 17 + 10, none⟩) hbb).trans q10
      have HQ11 : Hid (∀ wx, Below wr.heap.size wr wx → wx.cell? ⟨b, off + q * 17 + 11, none⟩ = some (.slice a11 n11 p11)) := fun wx hb => (hb.cell (p := ⟨b, off + q * 17 + 11, none⟩) hbb).trans q11
      have HQ12 : Hid (∀ wx, Below wr.heap.size wr wx → wx.cell? ⟨b, off + q * 17 + 12, none⟩ = some (.int .i64 (((((((((((((kq + 1) + 1) + 1) + 1) + 1) + 1) + cnt c6) + 1) + 1) + 1) + cnt c10) + cnt c11) : Nat))) := fun wx hb => (hb.cell (p := ⟨b, off + q * 17 + 12, none⟩) hbb).trans q12
      have HQ13 : Hid (∀ wx, Below wr.heap.size wr wx → wx.cell? ⟨b, off + q * 17 + 13, none⟩ = some (.string (umtx (((((((((((((kq + 1) + 1) + 1) + 1) + 1) + 1) + cnt c6) + 1) + 1) + 1) + cnt c10) + cnt c11) + 1)))) := fun wx hb => (hb.cell (p := ⟨b, off + q * 17 + 13, none⟩) hbb).trans q13
      have HQ14 : Hid (∀ wx, Below wr.heap.size wr wx → wx.cell? ⟨b, off + q * 17 + 14, none⟩ = some (.int .i64 (((((((((((((((kq + 1) + 1) + 1) + 1) + 1) + 1) + cnt c6) + 1) + 1) + 1) + cnt c10) + cnt c11) + 1) + 1) : Nat))) := fun wx hb => (hb.cell (p := ⟨b, off + q * 17 + 14, none⟩) hbb).trans q14
      have HQ15 : Hid (∀ wx, Below wr.heap.size wr wx → wx.cell? ⟨b, off + q * 17 + 15, none⟩ = some (.slice a15 n15 p15)) := fun wx hb => (hb.cell (p := ⟨b, off + q * 17 + 15, none⟩) hbb).trans q15
      have HQ16 : Hid (∀ wx, Below wr.heap.size wr wx → wx.cell? ⟨b, off + q * 17 + 16, none⟩ = some (.slice a16 n16 p16)) := fun wx hb => (hb.cell (p := ⟨b, off + q * 17 + 16, none⟩) hbb).trans q16
      clear q0 q1 q2 q3 q4 q5 q6 q7 q8 q9 q10 q11 q12 q13 q14 q15 q16
      have HC1 : Hid (∀ (wx : World) (x : Int), Below wr.heap.size wr wx → x = (((kq + 1) : Nat) : Int) → Calls Tryz.prog 84 #[.int .i64 x] wx fun e w' => e = .returned (.string (umtx (kq + 1))) ∧ Hid (Below wr.heap.size wr w')) := fun wx x hb hx => by rw [hx]; exact (umarkText_any _ wx (by omega) (by omega)).mono fun e w' h => ⟨h.1, hb.trans (h.2.mono hb.size)⟩
      have HC6 : Hid (∀ (wx : World) (x : Int), Below wr.heap.size wr wx → x = ((((((((kq + 1) + 1) + 1) + 1) + 1) + 1) : Nat) : Int) → Calls Tryz.prog 105 #[.slice a6 n6 p6, .int .i64 x] wx fun e w' => e = .returned (.int .i64 ((((((((kq + 1) + 1) + 1) + 1) + 1) + 1) + cnt c6 : Nat))) ∧ Hid (Below wr.heap.size wr w')) := fun wx x hb hx => by rw [hx]; exact (uheldStringS_any (lo := lo) (hi := hi) n6 ((((((kq + 1) + 1) + 1) + 1) + 1) + 1) c6 _ wx g6 (by omega) (by omega) ((show uS wr lo hi 1 n6 (mk c6 ((((((kq + 1) + 1) + 1) + 1) + 1) + 1)) (.slice a6 n6 p6) from ⟨_, _, rfl, t6⟩).below hb)).mono fun e w' h => ⟨h.1, hb.trans (h.2.mono hb.size)⟩
      have HC8 : Hid (∀ (wx : World) (x : Int), Below wr.heap.size wr wx → x = ((((((((((kq + 1) + 1) + 1) + 1) + 1) + 1) + cnt c6) + 1) : Nat) : Int) → Calls Tryz.prog 84 #[.int .i64 x] wx fun e w' => e = .returned (.string (umtx ((((((((kq + 1) + 1) + 1) + 1) + 1) + 1) + cnt c6) + 1))) ∧ Hid (Below wr.heap.size wr w')) := fun wx x hb hx => by rw [hx]; exact (umarkText_any _ wx (by omega) (by omega)).mono fun e w' h => ⟨h.1, hb.trans (h.2.mono hb.size)⟩
      have HC10 : Hid (∀ (wx : World) (x : Int), Below wr.heap.size wr wx → x = ((((((((((((kq + 1) + 1) + 1) + 1) + 1) + 1) + cnt c6) + 1) + 1) + 1) : Nat) : Int) → Calls Tryz.prog 105 #[.slice a10 n10 p10, .int .i64 x] wx fun e w' => e = .returned (.int .i64 ((((((((((((kq + 1) + 1) + 1) + 1) + 1) + 1) + cnt c6) + 1) + 1) + 1) + cnt c10 : Nat))) ∧ Hid (Below wr.heap.size wr w')) := fun wx x hb hx => by rw [hx]; exact (uheldStringS_any (lo := lo) (hi := hi) n10 ((((((((((kq + 1) + 1) + 1) + 1) + 1) + 1) + cnt c6) + 1) + 1) + 1) c10 _ wx g10 (by omega) (by omega) ((show uS wr lo hi 1 n10 (mk c10 ((((((((((kq + 1) + 1) + 1) + 1) + 1) + 1) + cnt c6) + 1) + 1) + 1)) (.slice a10 n10 p10) from ⟨_, _, rfl, t10⟩).below hb)).mono fun e w' h => ⟨h.1, hb.trans (h.2.mono hb.size)⟩
      have HC11 : Hid (∀ (wx : World) (x : Int), Below wr.heap.size wr wx → x = (((((((((((((kq + 1) + 1) + 1) + 1) + 1) + 1) + cnt c6) + 1) + 1) + 1) + cnt c10) : Nat) : Int) → Calls Tryz.prog 106 #[.slice a11 n11 p11, .int .i64 x] wx fun e w' => e = .returned (.int .i64 (((((((((((((kq + 1) + 1) + 1) + 1) + 1) + 1) + cnt c6) + 1) + 1) + 1) + cnt c10) + cnt c11 : Nat))) ∧ Hid (Below wr.heap.size wr w')) := fun wx x hb hx => by rw [hx]; exact (uheldValueS_any (lo := lo) (hi := hi) n11 (((((((((((kq + 1) + 1) + 1) + 1) + 1) + 1) + cnt c6) + 1) + 1) + 1) + cnt c10) c11 _ wx g11 (by omega) (by omega) ((show uS wr lo hi 5 n11 (mk c11 (((((((((((kq + 1) + 1) + 1) + 1) + 1) + 1) + cnt c6) + 1) + 1) + 1) + cnt c10)) (.slice a11 n11 p11) from ⟨_, _, rfl, t11⟩).below hb)).mono fun e w' h => ⟨h.1, hb.trans (h.2.mono hb.size)⟩
      have HC13 : Hid (∀ (wx : World) (x : Int), Below wr.heap.size wr wx → x = (((((((((((((((kq + 1) + 1) + 1) + 1) + 1) + 1) + cnt c6) + 1) + 1) + 1) + cnt c10) + cnt c11) + 1) : Nat) : Int) → Calls Tryz.prog 84 #[.int .i64 x] wx fun e w' => e = .returned (.string (umtx (((((((((((((kq + 1) + 1) + 1) + 1) + 1) + 1) + cnt c6) + 1) + 1) + 1) + cnt c10) + cnt c11) + 1))) ∧ Hid (Below wr.heap.size wr w')) := fun wx x hb hx => by rw [hx]; exact (umarkText_any _ wx (by omega) (by omega)).mono fun e w' h => ⟨h.1, hb.trans (h.2.mono hb.size)⟩
      have HC15 : Hid (∀ (wx : World) (x : Int), Below wr.heap.size wr wx → x = (((((((((((((((((kq + 1) + 1) + 1) + 1) + 1) + 1) + cnt c6) + 1) + 1) + 1) + cnt c10) + cnt c11) + 1) + 1) + 1) : Nat) : Int) → Calls Tryz.prog 105 #[.slice a15 n15 p15, .int .i64 x] wx fun e w' => e = .returned (.int .i64 (((((((((((((((((kq + 1) + 1) + 1) + 1) + 1) + 1) + cnt c6) + 1) + 1) + 1) + cnt c10) + cnt c11) + 1) + 1) + 1) + cnt c15 : Nat))) ∧ Hid (Below wr.heap.size wr w')) := fun wx x hb hx => by rw [hx]; exact (uheldStringS_any (lo := lo) (hi := hi) n15 (((((((((((((((kq + 1) + 1) + 1) + 1) + 1) + 1) + cnt c6) + 1) + 1) + 1) + cnt c10) + cnt c11) + 1) + 1) + 1) c15 _ wx g15 (by omega) (by omega) ((show uS wr lo hi 1 n15 (mk c15 (((((((((((((((kq + 1) + 1) + 1) + 1) + 1) + 1) + cnt c6) + 1) + 1) + 1) + cnt c10) + cnt c11) + 1) + 1) + 1)) (.slice a15 n15 p15) from ⟨_, _, rfl, t15⟩).below hb)).mono fun e w' h => ⟨h.1, hb.trans (h.2.mono hb.size)⟩
      have HC16 : Hid (∀ (wx : World) (x : Int), Below wr.heap.size wr wx → x = ((((((((((((((((((kq + 1) + 1) + 1) + 1) + 1) + 1) + cnt c6) + 1) + 1) + 1) + cnt c10) + cnt c11) + 1) + 1) + 1) + cnt c15) : Nat) : Int) → Calls Tryz.prog 106 #[.slice a16 n16 p16, .int .i64 x] wx fun e w' => e = .returned (.int .i64 ((((((((((((((((((kq + 1) + 1) + 1) + 1) + 1) + 1) + cnt c6) + 1) + 1) + 1) + cnt c10) + cnt c11) + 1) + 1) + 1) + cnt c15) + cnt c16 : Nat))) ∧ Hid (Below wr.heap.size wr w')) := fun wx x hb hx => by rw [hx]; exact (uheldValueS_any (lo := lo) (hi := hi) n16 ((((((((((((((((kq + 1) + 1) + 1) + 1) + 1) + 1) + cnt c6) + 1) + 1) + 1) + cnt c10) + cnt c11) + 1) + 1) + 1) + cnt c15) c16 _ wx g16 (by omega) (by omega) ((show uS wr lo hi 5 n16 (mk c16 ((((((((((((((((kq + 1) + 1) + 1) + 1) + 1) + 1) + cnt c6) + 1) + 1) + 1) + cnt c10) + cnt c11) + 1) + 1) + 1) + cnt c15)) (.slice a16 n16 p16) from ⟨_, _, rfl, t16⟩).below hb)).mono fun e w' h => ⟨h.1, hb.trans (h.2.mono hb.size)⟩
      have HN := uhide hend
      clear hR hcl hm htr hsz hkn hkr hrow hend hKd Hx Ht Hkk g0 g1 g2 g3 g4 g6 g7 g8 g9 g10 g11 g12 g13 g14 g15 g16 t6 t10 t11 t15 t16
      generalize umtx (kq + 1) = M1 at *
      have E1 : (M1.toList == M1.toList) = true := by simp
      have EB5 : ((((((kq + 1) + 1) + 1) + 1) + 1) % 3 == 0) = ((((((((kq + 1) + 1) + 1) + 1) + 1) : Nat) : Int) % 3 == 0) := by rw [Bool.eq_iff_iff, beq_iff_eq, beq_iff_eq]; omega
      push_cast at EB5
      generalize cnt c6 = m6 at *
      generalize umtx ((((((((kq + 1) + 1) + 1) + 1) + 1) + 1) + m6) + 1) = M8 at *
      have E8 : (M8.toList == M8.toList) = true := by simp
      generalize cnt c10 = m10 at *
      generalize cnt c11 = m11 at *
      generalize umtx (((((((((((((kq + 1) + 1) + 1) + 1) + 1) + 1) + m6) + 1) + 1) + 1) + m10) + m11) + 1) = M13 at *
      have E13 : (M13.toList == M13.toList) = true := by simp
      generalize cnt c15 = m15 at *
      generalize cnt c16 = m16 at *
      have HB : Hid (Below wr.heap.size wr wr) := Below.refl _ _
      go_wp2_with (first
        | ((with_reducible refine wpList_load_one ?qqg170 3 ?qqx170 ?qqo170 b (off + q * 17) ?qqh170 (.int .i64 (kq : Nat)) Tryz.rObj_int (HQ0.out _ HB.out) ?_); (case qqg170 => rfl); (case qqo170 => rfl); (case qqh170 => simp [Act.eval, Act.put]))
        )
      have hq1 := HQ1.out _ HB.out
      go_region_held3 (fun w' => w'.cell? ⟨b, off + q * 17 + 1, none⟩ = some (.string M1)) (first | assumption | exact HQ1.out _ hb2.out | (simp; exact hq1) | go_keep)
        (first | (go_at_call 84; refine (HC1.out _ _ (by repeat (first | with_reducible exact HB.out | with_reducible refine Below.drew ?_ | with_reducible refine below_drewN ?_ _)) (by omega)).mono ?_; rintro e1 w2 ⟨rfl, hb2⟩))
      replace HB := hb2
      clear hq1
      go_wp2_with (first
        | ((with_reducible refine wpList_load_one ?qqg178 3 ?qqx178 ?qqo178 b (off + q * 17 + 2) ?qqh178 (.int .i64 (((kq + 1) + 1) : Nat)) Tryz.rObj_int (HQ2.out _ HB.out) ?_); (case qqg178 => rfl); (case qqo178 => rfl); (case qqh178 => simp [Act.eval, Act.put]))
        | ((with_reducible refine wpList_load_one ?qqg179 3 ?qqx179 ?qqo179 b (off + q * 17 + 3) ?qqh179 (.int .i64 ((((kq + 1) + 1) + 1) : Nat)) Tryz.rObj_int (HQ3.out _ HB.out) ?_); (case qqg179 => rfl); (case qqo179 => rfl); (case qqh179 => simp [Act.eval, Act.put]))
        | ((with_reducible refine wpList_load_one ?qqg180 3 ?qqx180 ?qqo180 b (off + q * 17 + 4) ?qqh180 (.int .i64 (((((kq + 1) + 1) + 1) + 1) : Nat)) Tryz.rObj_int (HQ4.out _ HB.out) ?_); (case qqg180 => rfl); (case qqo180 => rfl); (case qqh180 => simp [Act.eval, Act.put]))
        | ((with_reducible refine wpList_load_one ?qqg181 4 ?qqx181 ?qqo181 b (off + q * 17 + 5) ?qqh181 (.bool ((((((kq + 1) + 1) + 1) + 1) + 1) % 3 == 0)) Tryz.rObj_bool (HQ5.out _ HB.out) ?_); (case qqg181 => rfl); (case qqo181 => rfl); (case qqh181 => simp [Act.eval, Act.put]))
        | ((with_reducible refine wpList_load_one ?qqg182 23 ?qqx182 ?qqo182 b (off + q * 17 + 6) ?qqh182 (.slice a6 n6 p6) Tryz.rObj_Lstring (HQ6.out _ HB.out) ?_); (case qqg182 => rfl); (case qqo182 => rfl); (case qqh182 => simp [Act.eval, Act.put]))
        )
      refine (HC6.out _ _ HB.out (by omega)).mono ?_
      rintro e1 w9 ⟨rfl, hbn6⟩
      replace HB := hbn6
      go_wp2_with (first
        | ((with_reducible refine wpList_load_one ?qqg188 3 ?qqx188 ?qqo188 b (off + q * 17 + 7) ?qqh188 (.int .i64 ((((((((kq + 1) + 1) + 1) + 1) + 1) + 1) + m6) : Nat)) Tryz.rObj_int (HQ7.out _ HB.out) ?_); (case qqg188 => rfl); (case qqo188 => rfl); (case qqh188 => simp [Act.eval, Act.put]))
        )
      have hq8 := HQ8.out _ HB.out
      go_region_held3 (fun w' => w'.cell? ⟨b, off + q * 17 + 8, none⟩ = some (.string M8)) (first | assumption | exact HQ8.out _ hb2.out | (simp; exact hq8) | go_keep)
        (first | (go_at_call 84; refine (HC8.out _ _ (by repeat (first | with_reducible exact HB.out | with_reducible refine Below.drew ?_ | with_reducible refine below_drewN ?_ _)) (by omega)).mono ?_; rintro e1 w2 ⟨rfl, hb2⟩))
      replace HB := hb2
      clear hq8
      go_wp2_with (first
        | ((with_reducible refine wpList_load_one ?qqg196 3 ?qqx196 ?qqo196 b (off + q * 17 + 9) ?qqh196 (.int .i64 ((((((((((kq + 1) + 1) + 1) + 1) + 1) + 1) + m6) + 1) + 1) : Nat)) Tryz.rObj_int (HQ9.out _ HB.out) ?_); (case qqg196 => rfl); (case qqo196 => rfl); (case qqh196 => simp [Act.eval, Act.put]))
        | ((with_reducible refine wpList_load_one ?qqg197 23 ?qqx197 ?qqo197 b (off + q * 17 + 10) ?qqh197 (.slice a10 n10 p10) Tryz.rObj_Lstring (HQ10.out _ HB.out) ?_); (case qqg197 => rfl); (case qqo197 => rfl); (case qqh197 => simp [Act.eval, Act.put]))
        )
      refine (HC10.out _ _ HB.out (by omega)).mono ?_
      rintro e1 w13 ⟨rfl, hbn10⟩
      replace HB := hbn10
      go_wp2_with (first
        | ((with_reducible refine wpList_load_one ?qqg203 88 ?qqx203 ?qqo203 b (off + q * 17 + 11) ?qqh203 (.slice a11 n11 p11) Tryz.rObj_Limpl_Value (HQ11.out _ HB.out) ?_); (case qqg203 => rfl); (case qqo203 => rfl); (case qqh203 => simp [Act.eval, Act.put]))
        )
      refine (HC11.out _ _ HB.out (by omega)).mono ?_
      rintro e1 w14 ⟨rfl, hbn11⟩
      replace HB := hbn11
      go_wp2_with (first
        | ((with_reducible refine wpList_load_one ?qqg209 3 ?qqx209 ?qqo209 b (off + q * 17 + 12) ?qqh209 (.int .i64 (((((((((((((kq + 1) + 1) + 1) + 1) + 1) + 1) + m6) + 1) + 1) + 1) + m10) + m11) : Nat)) Tryz.rObj_int (HQ12.out _ HB.out) ?_); (case qqg209 => rfl); (case qqo209 => rfl); (case qqh209 => simp [Act.eval, Act.put]))
        )
      have hq13 := HQ13.out _ HB.out
      go_region_held3 (fun w' => w'.cell? ⟨b, off + q * 17 + 13, none⟩ = some (.string M13)) (first | assumption | exact HQ13.out _ hb2.out | (simp; exact hq13) | go_keep)
        (first | (go_at_call 84; refine (HC13.out _ _ (by repeat (first | with_reducible exact HB.out | with_reducible refine Below.drew ?_ | with_reducible refine below_drewN ?_ _)) (by omega)).mono ?_; rintro e1 w2 ⟨rfl, hb2⟩))
      replace HB := hb2
      clear hq13
      go_wp2_with (first
        | ((with_reducible refine wpList_load_one ?qqg217 3 ?qqx217 ?qqo217 b (off + q * 17 + 14) ?qqh217 (.int .i64 (((((((((((((((kq + 1) + 1) + 1) + 1) + 1) + 1) + m6) + 1) + 1) + 1) + m10) + m11) + 1) + 1) : Nat)) Tryz.rObj_int (HQ14.out _ HB.out) ?_); (case qqg217 => rfl); (case qqo217 => rfl); (case qqh217 => simp [Act.eval, Act.put]))
        | ((with_reducible refine wpList_load_one ?qqg218 23 ?qqx218 ?qqo218 b (off + q * 17 + 15) ?qqh218 (.slice a15 n15 p15) Tryz.rObj_Lstring (HQ15.out _ HB.out) ?_); (case qqg218 => rfl); (case qqo218 => rfl); (case qqh218 => simp [Act.eval, Act.put]))
        )
      refine (HC15.out _ _ HB.out (by omega)).mono ?_
      rintro e1 w18 ⟨rfl, hbn15⟩
      replace HB := hbn15
      go_wp2_with (first
        | ((with_reducible refine wpList_load_one ?qqg224 88 ?qqx224 ?qqo224 b (off + q * 17 + 16) ?qqh224 (.slice a16 n16 p16) Tryz.rObj_Limpl_Value (HQ16.out _ HB.out) ?_); (case qqg224 => rfl); (case qqo224 => rfl); (case qqh224 => simp [Act.eval, Act.put]))
        )
      refine (HC16.out _ _ HB.out (by omega)).mono ?_
      rintro e1 w19 ⟨rfl, hbn16⟩
      replace HB := hbn16
      go_wp2
      go_roundw
      case rel => exact ⟨q + 1, by omega, by go_num, by rw [HN.out]; go_num, hbw.trans (HB.out.mono hbw.size)⟩
      case measure => (simp [intOf]; omega)
    · have e : q = n := by omega
      subst e
      have hl : cs.takeN (q * 17) = cs := by apply UD.ext; unfold UD.takeN; rw [UD.toL_ofL]; exact List.take_of_length_le (Nat.le_of_eq Ht.out.2.2.2.1)
      rw [hl]
      clear hl Ht Hkk Hx
      go_wp2
      go_ret
      exact ⟨rfl, hbw⟩
end Go.Proofs.YtdnodaoeflbfkaaGreat
/- Data as cells: the helpers of the laws over Change. -/
namespace Go.Proofs.YtdnodaoeflbfkaaGreat
open Go.RowKit Go.BigFrame
set_option linter.unusedVariables false
set_option linter.unusedSimpArgs false

set_option maxRecDepth 20000 in
set_option maxHeartbeats 6400000 in
theorem uheldChangeS_any {lo hi : Nat} (n k0 : Nat) (cs : UD) (c : Value) (w : World) (ht : tyS 19 n cs 9) (hk0 : 1 ≤ k0) (hk1 : k0 + cnt cs ≤ 100000000) (hx : uS w lo hi 19 n (mk cs k0) c) :
    Calls Tryz.prog 46 #[c, .int .i64 k0] w fun e w' => e = .returned (.int .i64 (k0 + cnt cs : Nat)) ∧ Below w.heap.size w w' := by
  obtain ⟨a, cap, rfl, hx2⟩ := hx
  have Hx : Hid (uS w lo hi 19 n (mk cs k0) (.slice a n cap)) := ⟨a, cap, rfl, hx2⟩
  have hmx := ht.2.2.1
  unfold maxLen at hmx
  have Ht := uhide ht
  have Hkk : Hid (∀ q, k0 + cnt (cs.takeN (q * 19)) ≤ 100000000) := fun q => by have := cnt_le cs (q * 19); omega
  clear hx2 ht
  go_enter Tryz.func46, Tryz.ntmps46
  go_wp2
  go_loopw [1, 5] (fun s i wr => ∃ (q : Nat), q ≤ n ∧ i = .int .i64 q ∧ s = .int .i64 (k0 + cnt (cs.takeN (q * 19)) : Nat) ∧ Below w.heap.size w wr) (fun _ i _ => n - (intOf i).toNat)
  case atStart => exact ⟨0, Nat.zero_le _, rfl, by rw [Nat.zero_mul]; rfl, Below.refl _ _⟩
  case round =>
    obtain ⟨q, hq, rfl, rfl, hbw⟩ := hrel
    by_cases hlt : q < n
    · obtain ⟨b, off, rfl, hbb, hm⟩ := (Hx.out.below hbw).cells (by omega)
      have htr := Ht.out.row hlt
      have hsz := uszD_row cs 19 q
      have hkn := cnt_row cs 19 q
      have hkb := Hkk.out (q + 1)
      have hkr := hkn
      have hrow := hm.row 19 q
      rw [mk_row] at hrow
      obtain ⟨z0, z1, z2, z3, z4, z5, z6, z7, n8, c8, z9, z10, z11, n12, c12, n13, c13, z14, z15, z16, n17, c17, n18, c18, hR, g0, g2, g3, g4, g5, g6, g8, g9, g10, g11, g12, g13, g14, g15, g16, g17, g18⟩ := partsChange htr
      rw [hR] at hrow hkn hsz
      simp only [cnt, Nat.add_zero] at hkn
      obtain ⟨xs, hh, hcl⟩ := hrow.hand
      obtain ⟨_, rfl, ⟨_, rfl, ⟨_, rfl, ⟨_, rfl, ⟨_, rfl, ⟨_, rfl, ⟨_, rfl, ⟨_, rfl, ⟨v8, _, rfl, s8, ⟨_, rfl, ⟨_, rfl, ⟨_, rfl, ⟨v12, _, rfl, s12, ⟨v13, _, rfl, s13, ⟨_, rfl, ⟨_, rfl, ⟨_, rfl, ⟨v17, _, rfl, s17, ⟨v18, _, rfl, s18, rfl⟩⟩⟩⟩⟩⟩⟩⟩⟩⟩⟩⟩⟩⟩⟩⟩⟩⟩⟩ := hh
      obtain ⟨a8, p8, rfl, t8⟩ := s8
      obtain ⟨a12, p12, rfl, t12⟩ := s12
      obtain ⟨a13, p13, rfl, t13⟩ := s13
      obtain ⟨a17, p17, rfl, t17⟩ := s17
      obtain ⟨a18, p18, rfl, t18⟩ := s18
      generalize hKd : k0 + cnt (cs.takeN (q * 19)) = kq at *
      have hK0 : 1 ≤ kq := by omega
      have hend : k0 + cnt (cs.takeN ((q + 1) * 19)) = (((((((((((((((((((kq + 1) + 1) + 1) + 1) + 1) + 1) + 1) + 1) + cnt c8) + 1) + 1) + 1) + cnt c12) + cnt c13) + 1) + 1) + 1) + cnt c17) + cnt c18) := by rw [hkn]; omega
      rw [hend] at hkb
      have q0 : wr.cell? ⟨b, off + q * 19, none⟩ = some (.int .i64 (kq : Nat)) := (show wr.cell? ⟨b, off + q * 19, none⟩ = _ from hcl 0 _ rfl).trans (congrArg some (mkP_int _ _ (by omega)))
      have q1 : wr.cell? ⟨b, off + q * 19 + 1, none⟩ = some (.bool ((kq + 1) % 3 == 0)) := hcl 1 _ rfl
      have q2 : wr.cell? ⟨b, off + q * 19 + 2, none⟩ = some (.int .i64 (((kq + 1) + 1) : Nat)) := (show wr.cell? ⟨b, off + q * 19 + 2, none⟩ = _ from hcl 2 _ rfl).trans (congrArg some (mkP_int _ _ (by omega)))
      have q3 : wr.cell? ⟨b, off + q * 19 + 3, none⟩ = some (.string (umtx (((kq + 1) + 1) + 1))) := hcl 3 _ rfl
      have q4 : wr.cell? ⟨b, off + q * 19 + 4, none⟩ = some (.int .i64 (((((kq + 1) + 1) + 1) + 1) : Nat)) := (show wr.cell? ⟨b, off + q * 19 + 4, none⟩ = _ from hcl 4 _ rfl).trans (congrArg some (mkP_int _ _ (by omega)))
      have q5 : wr.cell? ⟨b, off + q * 19 + 5, none⟩ = some (.int .i64 ((((((kq + 1) + 1) + 1) + 1) + 1) : Nat)) := (show wr.cell? ⟨b, off + q * 19 + 5, none⟩ = _ from hcl 5 _ rfl).trans (congrArg some (mkP_int _ _ (by omega)))
      have q6 : wr.cell? ⟨b, off + q * 19 + 6, none⟩ = some (.int .i64 (((((((kq + 1) + 1) + 1) + 1) + 1) + 1) : Nat)) := (show wr.cell? ⟨b, off + q * 19 + 6, none⟩ = _ from hcl 6 _ rfl).trans (congrArg some (mkP_int _ _ (by omega)))
      have q7 : wr.cell? ⟨b, off + q * 19 + 7, none⟩ = some (.bool ((((((((kq + 1) + 1) + 1) + 1) + 1) + 1) + 1) % 3 == 0)) := hcl 7 _ rfl
      have q8 : wr.cell? ⟨b, off + q * 19 + 8, none⟩ = some (.slice a8 n8 p8) := hcl 8 _ rfl
      have q9 : wr.cell? ⟨b, off + q * 19 + 9, none⟩ = some (.int .i64 ((((((((((kq + 1) + 1) + 1) + 1) + 1) + 1) + 1) + 1) + cnt c8) : Nat)) := (show wr.cell? ⟨b, off + q * 19 + 9, none⟩ = _ from hcl 9 _ rfl).trans (congrArg some (mkP_int _ _ (by omega)))
      have q10 : wr.cell? ⟨b, off + q * 19 + 10, none⟩ = some (.string (umtx ((((((((((kq + 1) + 1) + 1) + 1) + 1) + 1) + 1) + 1) + cnt c8) + 1))) := hcl 10 _ rfl
      have q11 : wr.cell? ⟨b, off + q * 19 + 11, none⟩ = some (.int .i64 ((((((((((((kq + 1) + 1) + 1) + 1) + 1) + 1) + 1) + 1) + cnt c8) + 1) + 1) : Nat)) := (show wr.cell? ⟨b, off + q * 19 + 11, none⟩ = _ from hcl 11 _ rfl).trans (congrArg some (mkP_int _ _ (by omega)))
      have q12 : wr.cell? ⟨b, off + q * 19 + 12, none⟩ = some (.slice a12 n12 p12) := hcl 12 _ rfl
      have q13 : wr.cell? ⟨b, off + q * 19 + 13, none⟩ = some (.slice a13 n13 p13) := hcl 13 _ rfl
      have q14 : wr.cell? ⟨b, off + q * 19 + 14, none⟩ = some (.int .i64 (((((((((((((((kq + 1) + 1) + 1) + 1) + 1) + 1) + 1) + 1) + cnt c8) + 1) + 1) + 1) + cnt c12) + cnt c13) : Nat)) := (show wr.cell? ⟨b, off + q * 19 + 14, none⟩ = _ from hcl 14 _ rfl).trans (congrArg some (mkP_int _ _ (by omega)))
      have q15 : wr.cell? ⟨b, off + q * 19 + 15, none⟩ = some (.string (umtx (((((((((((((((kq + 1) + 1) + 1) + 1) + 1) + 1) + 1) + 1) + cnt c8) + 1) + 1) + 1) + cnt c12) + cnt c13) + 1))) := hcl 15 _ rfl
      have q16 : wr.cell? ⟨b, off + q * 19 + 16, none⟩ = some (.int .i64 (((((((((((((((((kq + 1) + 1) + 1) + 1) + 1) + 1) + 1) + 1) + cnt c8) + 1) + 1) + 1) + cnt c12) + cnt c13) + 1) + 1) : Nat)) := (show wr.cell? ⟨b, off + q * 19 + 16, none⟩ = _ from hcl 16 _ rfl).trans (congrArg some (mkP_int _ _ (by omega)))
      have q17 : wr.cell? ⟨b, off + q * 19 + 17, none⟩ = some (.slice a17 n17 p17) := hcl 17 _ rfl
      have q18 : wr.cell? ⟨b, off + q * 19 + 18, none⟩ = some (.slice a18 n18 p18) := hcl 18 _ rfl
      have HQ0 : Hid (∀ wx, Below wr.heap.size wr wx → wx.cell? ⟨b, off + q * 19, none⟩ = some (.int .i64 (kq : Nat))) := fun wx hb => (hb.cell (p := ⟨b, off + q * 19, none⟩) hbb).trans q0
      have HQ1 : Hid (∀ wx, Below wr.heap.size wr wx → wx.cell? ⟨b, off + q * 19 + 1, none⟩ = some (.bool ((kq + 1) % 3 == 0))) := fun wx hb => (hb.cell (p := ⟨b, off + q * 19 + 1, none⟩) hbb).trans q1
      have HQ2 : Hid (∀ wx, Below wr.heap.size wr wx → wx.cell? ⟨b, off + q * 19 + 2, none⟩ = some (.int .i64 (((kq + 1) + 1) : Nat))) := fun wx hb => (hb.cell (p := ⟨b, off + q * 19 + 2, none⟩) hbb).trans q2
      have HQ3 : Hid (∀ wx, Below wr.heap.size wr wx → wx.cell? ⟨b, off + q * 19 + 3, none⟩ = some (.string (umtx (((kq + 1) + 1) + 1)))) := fun wx hb => (hb.cell (p := ⟨b, off + q * 19 + 3, none⟩) hbb).trans q3
      have HQ4 : Hid (∀ wx, Below wr.heap.size wr wx → wx.cell? ⟨b, off + q * 19 + 4, none⟩ = some (.int .i64 (((((kq + 1) + 1) + 1) + 1) : Nat))) := fun wx hb => (hb.cell (p := ⟨b, off + q * 19 + 4, none⟩) hbb).trans q4
      have HQ5 : Hid (∀ wx, Below wr.heap.size wr wx → wx.cell? ⟨b, off + q * 19 + 5, none⟩ = some (.int .i64 ((((((kq + 1) + 1) + 1) + 1) + 1) : Nat))) := fun wx hb => (hb.cell (p := ⟨b, off + q * 19 + 5, none⟩) hbb).trans q5
      have HQ6 : Hid (∀ wx, Below wr.heap.size wr wx → wx.cell? ⟨b, off + q * 19 + 6, none⟩ = some (.int .i64 (((((((kq + 1) + 1) + 1) + 1) + 1) + 1) : Nat))) := fun wx hb => (hb.cell (p := ⟨b, off + q * 19 + 6, none⟩) hbb).trans q6
      have HQ7 : Hid (∀ wx, Below wr.heap.size wr wx → wx.cell? ⟨b, off + q * 19 + 7, none⟩ = some (.bool ((((((((kq + 1) + 1) + 1) + 1) + 1) + 1) + 1) % 3 == 0))) := fun wx hb => (hb.cell (p := ⟨b, off + q * 19 + 7, none⟩) hbb).trans q7
      have HQ8 : Hid (∀ wx, Below wr.heap.size wr wx → wx.cell? ⟨b, off + q * 19 + 8, none⟩ = some (.slice a8 n8 p8)) := fun wx hb => (hb.cell (p := ⟨b, off + q * 19 + 8, none⟩) hbb).trans q8
      have HQ9 : Hid (∀ wx, Below wr.heap.size wr wx → wx.cell? ⟨b, off + q * 19 + 9, none⟩ = some (.int .i64 ((((((((((kq + 1) + 1) + 1) + 1) + 1) + 1) + 1) + 1) + cnt c8) : Nat))) := fun wx hb => (hb.cell (p := ⟨b, off + q * 19 + 9, none⟩) hbb).trans q9
      have HQ10 : Hid (∀ wx, Below wr.heap.size wr wx → wx.cell? ⟨b, off + q * 19 + 10, none⟩ = some (.string (umtx ((((((((((kq + 1) + 1) + 1) + 1) + 1) + 1) + 1) + 1) + cnt c8) + 1)))) := fun wx hb => (hb.cell (p := ⟨b, off + q * 19 + 10, none⟩) hbb).trans q10
      have HQ11 : Hid (∀ wx, Below wr.heap.size wr wx → wx.cell? ⟨b, off + q * 19 + 11, none⟩ = some (.int .i64 ((((((((((((kq + 1) + 1) + 1) + 1) + 1) + 1) + 1) + 1) + cnt c8) + 1) + 1) : Nat))) := fun wx hb => (hb.cell (p := ⟨b, off + q * 19 + 11, none⟩) hbb).trans q11
      have HQ12 : Hid (∀ wx, Below wr.heap.size wr wx → wx.cell? ⟨b, off + q * 19 + 12, none⟩ = some (.slice a12 n12 p12)) := fun wx hb => (hb.cell (p := ⟨b, off + q * 19 + 12, none⟩) hbb).trans q12
      have HQ13 : Hid (∀ wx, Below wr.heap.size wr wx → wx.cell? ⟨b, off + q * 19 + 13, none⟩ = some (.slice a13 n13 p13)) := fun wx hb => (hb.cell (p := ⟨b, off + q * 19 + 13, none⟩) hbb).trans q13
      have HQ14 : Hid (∀ wx, Below wr.heap.size wr wx → wx.cell? ⟨b, off + q * 19 + 14, none⟩ = some (.int .i64 (((((((((((((((kq + 1) + 1) + 1) + 1) + 1) + 1) + 1) + 1) + cnt c8) + 1) + 1) + 1) + cnt c12) + cnt c13) : Nat))) := fun wx hb => (hb.cell (p := ⟨b, off + q * 19 + 14, none⟩) hbb).trans q14
      have HQ15 : Hid (∀ wx, Below wr.heap.size wr wx → wx.cell? ⟨b, off + q * 19 + 15, none⟩ = some (.string (umtx (((((((((((((((kq + 1) + 1) + 1) + 1) + 1) + 1) + 1) + 1) + cnt c8) + 1) + 1) + 1) + cnt c12) + cnt c13) + 1)))) := fun wx hb => (hb.cell (p := ⟨b, off + q * 19 + 15, none⟩) hbb).trans q15
      have HQ16 : Hid (∀ wx, Below wr.heap.size wr wx → wx.cell? ⟨b, off + q * 19 + 16, none⟩ = some (.int .i64 (((((((((((((((((kq + 1) + 1) + 1) + 1) + 1) + 1) + 1) + 1) + cnt c8) + 1) + 1) + 1) + cnt c12) + cnt c13) + 1) + 1) : Nat))) := fun wx hb => (hb.cell (p := ⟨b, off + q * 19 + 16, none⟩) hbb).trans q16
      have HQ17 : Hid (∀ wx, Below wr.heap.size wr wx → wx.cell? ⟨b, off + q * 19 + 17, none⟩ = some (.slice a17 n17 p17)) := fun wx hb => (hb.cell (p := ⟨b, off + q * 19 + 17, none⟩) hbb).trans q17
      have HQ18 : Hid (∀ wx, Below wr.heap.size wr wx → wx.cell? ⟨b, off + q * 19 + 18, none⟩ = some (.slice a18 n18 p18)) := fun wx hb => (hb.cell (p := ⟨b, off + q * 19 + 18, none⟩) hbb).trans q18
      clear q0 q1 q2 q3 q4 q5 q6 q7 q8 q9 q10 q11 q12 q13 q14 q15 q16 q17 q18
      have HC3 : Hid (∀ (wx : World) (x : Int), Below wr.heap.size wr wx → x = (((((kq + 1) + 1) + 1) : Nat) : Int) → Calls Tryz.prog 84 #[.int .i64 x] wx fun e w' => e = .returned (.string (umtx (((kq + 1) + 1) + 1))) ∧ Hid (Below wr.heap.size wr w')) := fun wx x hb hx => by rw [hx]; exact (umarkText_any _ wx (by omega) (by omega)).mono fun e w' h => ⟨h.1, hb.trans (h.2.mono hb.size)⟩
      have HC8 : Hid (∀ (wx : World) (x : Int), Below wr.heap.size wr wx → x = ((((((((((kq + 1) + 1) + 1) + 1) + 1) + 1) + 1) + 1) : Nat) : Int) → Calls Tryz.prog 105 #[.slice a8 n8 p8, .int .i64 x] wx fun e w' => e = .returned (.int .i64 ((((((((((kq + 1) + 1) + 1) + 1) + 1) + 1) + 1) + 1) + cnt c8 : Nat))) ∧ Hid (Below wr.heap.size wr w')) := fun wx x hb hx => by rw [hx]; exact (uheldStringS_any (lo := lo) (hi := hi) n8 ((((((((kq + 1) + 1) + 1) + 1) + 1) + 1) + 1) + 1) c8 _ wx g8 (by omega) (by omega) ((show uS wr lo hi 1 n8 (mk c8 ((((((((kq + 1) + 1) + 1) + 1) + 1) + 1) + 1) + 1)) (.slice a8 n8 p8) from ⟨_, _, rfl, t8⟩).below hb)).mono fun e w' h => ⟨h.1, hb.trans (h.2.mono hb.size)⟩
      have HC10 : Hid (∀ (wx : World) (x : Int), Below wr.heap.size wr wx → x = ((((((((((((kq + 1) + 1) + 1) + 1) + 1) + 1) + 1) + 1) + cnt c8) + 1) : Nat) : Int) → Calls Tryz.prog 84 #[.int .i64 x] wx fun e w' => e = .returned (.string (umtx ((((((((((kq + 1) + 1) + 1) + 1) + 1) + 1) + 1) + 1) + cnt c8) + 1))) ∧ Hid (Below wr.heap.size wr w')) := fun wx x hb hx => by rw [hx]; exact (umarkText_any _ wx (by omega) (by omega)).mono fun e w' h => ⟨h.1, hb.trans (h.2.mono hb.size)⟩
      have HC12 : Hid (∀ (wx : World) (x : Int), Below wr.heap.size wr wx → x = ((((((((((((((kq + 1) + 1) + 1) + 1) + 1) + 1) + 1) + 1) + cnt c8) + 1) + 1) + 1) : Nat) : Int) → Calls Tryz.prog 105 #[.slice a12 n12 p12, .int .i64 x] wx fun e w' => e = .returned (.int .i64 ((((((((((((((kq + 1) + 1) + 1) + 1) + 1) + 1) + 1) + 1) + cnt c8) + 1) + 1) + 1) + cnt c12 : Nat))) ∧ Hid (Below wr.heap.size wr w')) := fun wx x hb hx => by rw [hx]; exact (uheldStringS_any (lo := lo) (hi := hi) n12 ((((((((((((kq + 1) + 1) + 1) + 1) + 1) + 1) + 1) + 1) + cnt c8) + 1) + 1) + 1) c12 _ wx g12 (by omega) (by omega) ((show uS wr lo hi 1 n12 (mk c12 ((((((((((((kq + 1) + 1) + 1) + 1) + 1) + 1) + 1) + 1) + cnt c8) + 1) + 1) + 1)) (.slice a12 n12 p12) from ⟨_, _, rfl, t12⟩).below hb)).mono fun e w' h => ⟨h.1, hb.trans (h.2.mono hb.size)⟩
      have HC13 : Hid (∀ (wx : World) (x : Int), Below wr.heap.size wr wx → x = (((((((((((((((kq + 1) + 1) + 1) + 1) + 1) + 1) + 1) + 1) + cnt c8) + 1) + 1) + 1) + cnt c12) : Nat) : Int) → Calls Tryz.prog 106 #[.slice a13 n13 p13, .int .i64 x] wx fun e w' => e = .returned (.int .i64 (((((((((((((((kq + 1) + 1) + 1) + 1) + 1) + 1) + 1) + 1) + cnt c8) + 1) + 1) + 1) + cnt c12) + cnt c13 : Nat))) ∧ Hid (Below wr.heap.size wr w')) := fun wx x hb hx => by rw [hx]; exact (uheldValueS_any (lo := lo) (hi := hi) n13 (((((((((((((kq + 1) + 1) + 1) + 1) + 1) + 1) + 1) + 1) + cnt c8) + 1) + 1) + 1) + cnt c12) c13 _ wx g13 (by omega) (by omega) ((show uS wr lo hi 5 n13 (mk c13 (((((((((((((kq + 1) + 1) + 1) + 1) + 1) + 1) + 1) + 1) + cnt c8) + 1) + 1) + 1) + cnt c12)) (.slice a13 n13 p13) from ⟨_, _, rfl, t13⟩).below hb)).mono fun e w' h => ⟨h.1, hb.trans (h.2.mono hb.size)⟩
      have HC15 : Hid (∀ (wx : World) (x : Int), Below wr.heap.size wr wx → x = (((((((((((((((((kq + 1) + 1) + 1) + 1) + 1) + 1) + 1) + 1) + cnt c8) + 1) + 1) + 1) + cnt c12) + cnt c13) + 1) : Nat) : Int) → Calls Tryz.prog 84 #[.int .i64 x] wx fun e w' => e = .returned (.string (umtx (((((((((((((((kq + 1) + 1) + 1) + 1) + 1) + 1) + 1) + 1) + cnt c8) + 1) + 1) + 1) + cnt c12) + cnt c13) + 1))) ∧ Hid (Below wr.heap.size wr w')) := fun wx x hb hx => by rw [hx]; exact (umarkText_any _ wx (by omega) (by omega)).mono fun e w' h => ⟨h.1, hb.trans (h.2.mono hb.size)⟩
      have HC17 : Hid (∀ (wx : World) (x : Int), Below wr.heap.size wr wx → x = (((((((((((((((((((kq + 1) + 1) + 1) + 1) + 1) + 1) + 1) + 1) + cnt c8) + 1) + 1) + 1) + cnt c12) + cnt c13) + 1) + 1) + 1) : Nat) : Int) → Calls Tryz.prog 105 #[.slice a17 n17 p17, .int .i64 x] wx fun e w' => e = .returned (.int .i64 (((((((((((((((((((kq + 1) + 1) + 1) + 1) + 1) + 1) + 1) + 1) + cnt c8) + 1) + 1) + 1) + cnt c12) + cnt c13) + 1) + 1) + 1) + cnt c17 : Nat))) ∧ Hid (Below wr.heap.size wr w')) := fun wx x hb hx => by rw [hx]; exact (uheldStringS_any (lo := lo) (hi := hi) n17 (((((((((((((((((kq + 1) + 1) + 1) + 1) + 1) + 1) + 1) + 1) + cnt c8) + 1) + 1) + 1) + cnt c12) + cnt c13) + 1) + 1) + 1) c17 _ wx g17 (by omega) (by omega) ((show uS wr lo hi 1 n17 (mk c17 (((((((((((((((((kq + 1) + 1) + 1) + 1) + 1) + 1) + 1) + 1) + cnt c8) + 1) + 1) + 1) + cnt c12) + cnt c13) + 1) + 1) + 1)) (.slice a17 n17 p17) from ⟨_, _, rfl, t17⟩).below hb)).mono fun e w' h => ⟨h.1, hb.trans (h.2.mono hb.size)⟩
      have HC18 : Hid (∀ (wx : World) (x : Int), Below wr.heap.size wr wx → x = ((((((((((((((((((((kq + 1) + 1) + 1) + 1) + 1) + 1) + 1) + 1) + cnt c8) + 1) + 1) + 1) + cnt c12) + cnt c13) + 1) + 1) + 1) + cnt c17) : Nat) : Int) → Calls Tryz.prog 106 #[.slice a18 n18 p18, .int .i64 x] wx fun e w' => e = .returned (.int .i64 ((((((((((((((((((((kq + 1) + 1) + 1) + 1) + 1) + 1) + 1) + 1) + cnt c8) + 1) + 1) + 1) + cnt c12) + cnt c13) + 1) + 1) + 1) + cnt c17) + cnt c18 : Nat))) ∧ Hid (Below wr.heap.size wr w')) := fun wx x hb hx => by rw [hx]; exact (uheldValueS_any (lo := lo) (hi := hi) n18 ((((((((((((((((((kq + 1) + 1) + 1) + 1) + 1) + 1) + 1) + 1) + cnt c8) + 1) + 1) + 1) + cnt c12) + cnt c13) + 1) + 1) + 1) + cnt c17) c18 _ wx g18 (by omega) (by omega) ((show uS wr lo hi 5 n18 (mk c18 ((((((((((((((((((kq + 1) + 1) + 1) + 1) + 1) + 1) + 1) + 1) + cnt c8) + 1) + 1) + 1) + cnt c12) + cnt c13) + 1) + 1) + 1) + cnt c17)) (.slice a18 n18 p18) from ⟨_, _, rfl, t18⟩).below hb)).mono fun e w' h => ⟨h.1, hb.trans (h.2.mono hb.size)⟩
      have HN := uhide hend
      clear hR hcl hm htr hsz hkn hkr hrow hend hKd Hx Ht Hkk g0 g2 g3 g4 g5 g6 g8 g9 g10 g11 g12 g13 g14 g15 g16 g17 g18 t8 t12 t13 t17 t18
      have EB1 : ((kq + 1) % 3 == 0) = ((((kq + 1) : Nat) : Int) % 3 == 0) := by rw [Bool.eq_iff_iff, beq_iff_eq, beq_iff_eq]; omega
      push_cast at EB1
      generalize umtx (((kq + 1) + 1) + 1) = M3 at *
      have E3 : (M3.toList == M3.toList) = true := by simp
      have EB7 : ((((((((kq + 1) + 1) + 1) + 1) + 1) + 1) + 1) % 3 == 0) = ((((((((((kq + 1) + 1) + 1) + 1) + 1) + 1) + 1) : Nat) : Int) % 3 == 0) := by rw [Bool.eq_iff_iff, beq_iff_eq, beq_iff_eq]; omega
      push_cast at EB7
      generalize cnt c8 = m8 at *
      generalize umtx ((((((((((kq + 1) + 1) + 1) + 1) + 1) + 1) + 1) + 1) + m8) + 1) = M10 at *
      have E10 : (M10.toList == M10.toList) = true := by simp
      generalize cnt c12 = m12 at *
      generalize cnt c13 = m13 at *
      generalize umtx (((((((((((((((kq + 1) + 1) + 1) + 1) + 1) + 1) + 1) + 1) + m8) + 1) + 1) + 1) + m12) + m13) + 1) = M15 at *
      have E15 : (M15.toList == M15.toList) = true := by simp
      generalize cnt c17 = m17 at *
      generalize cnt c18 = m18 at *
      have HB : Hid (Below wr.heap.size wr wr) := Below.refl _ _
      go_wp2_with (first
        | ((with_reducible refine wpList_load_one ?qqg149 3 ?qqx149 ?qqo149 b (off + q * 19) ?qqh149 (.int .i64 (kq : Nat)) Tryz.rChange_int (HQ0.out _ HB.out) ?_); (case qqg149 => rfl); (case qqo149 => rfl); (case qqh149 => simp [Act.eval, Act.put]))
        | ((with_reducible refine wpList_load_one ?qqg150 4 ?qqx150 ?qqo150 b (off + q * 19 + 1) ?qqh150 (.bool ((kq + 1) % 3 == 0)) Tryz.rChange_bool (HQ1.out _ HB.out) ?_); (case qqg150 => rfl); (case qqo150 => rfl); (case qqh150 => simp [Act.eval, Act.put]))
        | ((with_reducible refine wpList_load_one ?qqg151 3 ?qqx151 ?qqo151 b (off + q * 19 + 2) ?qqh151 (.int .i64 (((kq + 1) + 1) : Nat)) Tryz.rChange_int (HQ2.out _ HB.out) ?_); (case qqg151 => rfl); (case qqo151 => rfl); (case qqh151 => simp [Act.eval, Act.put]))
        )
      have hq3 := HQ3.out _ HB.out
      go_region_held3 (fun w' => w'.cell? ⟨b, off + q * 19 + 3, none⟩ = some (.string M3)) (first | assumption | exact HQ3.out _ hb2.out | (simp; exact hq3) | go_keep)
        (first | (go_at_call 84; refine (HC3.out _ _ (by repeat (first | with_reducible exact HB.out | with_reducible refine Below.drew ?_ | with_reducible refine below_drewN ?_ _)) (by omega)).mono ?_; rintro e1 w2 ⟨rfl, hb2⟩))
      replace HB := hb2
      clear hq3
      go_wp2_with (first
        | ((with_reducible refine wpList_load_one ?qqg159 3 ?qqx159 ?qqo159 b (off + q * 19 + 4) ?qqh159 (.int .i64 (((((kq + 1) + 1) + 1) + 1) : Nat)) Tryz.rChange_int (HQ4.out _ HB.out) ?_); (case qqg159 => rfl); (case qqo159 => rfl); (case qqh159 => simp [Act.eval, Act.put]))
        | ((with_reducible refine wpList_load_one ?qqg160 3 ?qqx160 ?qqo160 b (off + q * 19 + 5) ?qqh160 (.int .i64 ((((((kq + 1) + 1) + 1) + 1) + 1) : Nat)) Tryz.rChange_int (HQ5.out _ HB.out) ?_); (case qqg160 => rfl); (case qqo160 => rfl); (case qqh160 => simp [Act.eval, Act.put]))
        | ((with_reducible refine wpList_load_one ?qqg161 3 ?qqx161 ?qqo161 b (off + q * 19 + 6) ?qqh161 (.int .i64 (((((((kq + 1) + 1) + 1) + 1) + 1) + 1) : Nat)) Tryz.rChange_int (HQ6.out _ HB.out) ?_); (case qqg161 => rfl); (case qqo161 => rfl); (case qqh161 => simp [Act.eval, Act.put]))
        | ((with_reducible refine wpList_load_one ?qqg162 4 ?qqx162 ?qqo162 b (off + q * 19 + 7) ?qqh162 (.bool ((((((((kq + 1) + 1) + 1) + 1) + 1) + 1) + 1) % 3 == 0)) Tryz.rChange_bool (HQ7.out _ HB.out) ?_); (case qqg162 => rfl); (case qqo162 => rfl); (case qqh162 => simp [Act.eval, Act.put]))
        | ((with_reducible refine wpList_load_one ?qqg163 23 ?qqx163 ?qqo163 b (off + q * 19 + 8) ?qqh163 (.slice a8 n8 p8) Tryz.rChange_Lstring (HQ8.out _ HB.out) ?_); (case qqg163 => rfl); (case qqo163 => rfl); (case qqh163 => simp [Act.eval, Act.put]))
        )
      refine (HC8.out _ _ HB.out (by omega)).mono ?_
      rintro e1 w11 ⟨rfl, hbn8⟩
      replace HB := hbn8
      go_wp2_with (first
        | ((with_reducible refine wpList_load_one ?qqg169 3 ?qqx169 ?qqo169 b (off + q * 19 + 9) ?qqh169 (.int .i64 ((((((((((kq + 1) + 1) + 1) + 1) + 1) + 1) + 1) + 1) + m8) : Nat)) Tryz.rChange_int (HQ9.out _ HB.out) ?_); (case qqg169 => rfl); (case qqo169 => rfl); (case qqh169 => simp [Act.eval, Act.put]))
        )
      have hq10 := HQ10.out _ HB.out
      go_region_held3 (fun w' => w'.cell? ⟨b, off + q * 19 + 10, none⟩ = some (.string M10)) (first | assumption | exact HQ10.out _ hb2.out | (simp; exact hq10) | go_keep)
        (first | (go_at_call 84; refine (HC10.out _ _ (by repeat (first | with_reducible exact HB.out | with_reducible refine Below.drew ?_ | with_reducible refine below_drewN ?_ _)) (by omega)).mono ?_; rintro e1 w2 ⟨rfl, hb2⟩))
      replace HB := hb2
      clear hq10
      go_wp2_with (first
        | ((with_reducible refine wpList_load_one ?qqg177 3 ?qqx177 ?qqo177 b (off + q * 19 + 11) ?qqh177 (.int .i64 ((((((((((((kq + 1) + 1) + 1) + 1) + 1) + 1) + 1) + 1) + m8) + 1) + 1) : Nat)) Tryz.rChange_int (HQ11.out _ HB.out) ?_); (case qqg177 => rfl); (case qqo177 => rfl); (case qqh177 => simp [Act.eval, Act.put]))
        | ((with_reducible refine wpList_load_one ?qqg178 23 ?qqx178 ?qqo178 b (off + q * 19 + 12) ?qqh178 (.slice a12 n12 p12) Tryz.rChange_Lstring (HQ12.out _ HB.out) ?_); (case qqg178 => rfl); (case qqo178 => rfl); (case qqh178 => simp [Act.eval, Act.put]))
        )
      refine (HC12.out _ _ HB.out (by omega)).mono ?_
      rintro e1 w15 ⟨rfl, hbn12⟩
      replace HB := hbn12
      go_wp2_with (first
        | ((with_reducible refine wpList_load_one ?qqg184 88 ?qqx184 ?qqo184 b (off + q * 19 + 13) ?qqh184 (.slice a13 n13 p13) Tryz.rChange_Limpl_Value (HQ13.out _ HB.out) ?_); (case qqg184 => rfl); (case qqo184 => rfl); (case qqh184 => simp [Act.eval, Act.put]))
        )
      refine (HC13.out _ _ HB.out (by omega)).mono ?_
      rintro e1 w16 ⟨rfl, hbn13⟩
      replace HB := hbn13
      go_wp2_with (first
        | ((with_reducible refine wpList_load_one ?qqg190 3 ?qqx190 ?qqo190 b (off + q * 19 + 14) ?qqh190 (.int .i64 (((((((((((((((kq + 1) + 1) + 1) + 1) + 1) + 1) + 1) + 1) + m8) + 1) + 1) + 1) + m12) + m13) : Nat)) Tryz.rChange_int (HQ14.out _ HB.out) ?_); (case qqg190 => rfl); (case qqo190 => rfl); (case qqh190 => simp [Act.eval, Act.put]))
        )
      have hq15 := HQ15.out _ HB.out
      go_region_held3 (fun w' => w'.cell? ⟨b, off + q * 19 + 15, none⟩ = some (.string M15)) (first | assumption | exact HQ15.out _ hb2.out | (simp; exact hq15) | go_keep)
        (first | (go_at_call 84; refine (HC15.out _ _ (by repeat (first | with_reducible exact HB.out | with_reducible refine Below.drew ?_ | with_reducible refine below_drewN ?_ _)) (by omega)).mono ?_; rintro e1 w2 ⟨rfl, hb2⟩))
      replace HB := hb2
      clear hq15
      go_wp2_with (first
        | ((with_reducible refine wpList_load_one ?qqg198 3 ?qqx198 ?qqo198 b (off + q * 19 + 16) ?qqh198 (.int .i64 (((((((((((((((((kq + 1) + 1) + 1) + 1) + 1) + 1) + 1) + 1) + m8) + 1) + 1) + 1) + m12) + m13) + 1) + 1) : Nat)) Tryz.rChange_int (HQ16.out _ HB.out) ?_); (case qqg198 => rfl); (case qqo198 => rfl); (case qqh198 => simp [Act.eval, Act.put]))
        | ((with_reducible refine wpList_load_one ?qqg199 23 ?qqx199 ?qqo199 b (off + q * 19 + 17) ?qqh199 (.slice a17 n17 p17) Tryz.rChange_Lstring (HQ17.out _ HB.out) ?_); (case qqg199 => rfl); (case qqo199 => rfl); (case qqh199 => simp [Act.eval, Act.put]))
        )
      refine (HC17.out _ _ HB.out (by omega)).mono ?_
      rintro e1 w20 ⟨rfl, hbn17⟩
      replace HB := hbn17
      go_wp2_with (first
        | ((with_reducible refine wpList_load_one ?qqg205 88 ?qqx205 ?qqo205 b (off + q * 19 + 18) ?qqh205 (.slice a18 n18 p18) Tryz.rChange_Limpl_Value (HQ18.out _ HB.out) ?_); (case qqg205 => rfl); (case qqo205 => rfl); (case qqh205 => simp [Act.eval, Act.put]))
        )
      refine (HC18.out _ _ HB.out (by omega)).mono ?_
      rintro e1 w21 ⟨rfl, hbn18⟩
      replace HB := hbn18
      go_wp2
      go_roundw
      case rel => exact ⟨q + 1, by omega, by go_num, by rw [HN.out]; go_num, hbw.trans (HB.out.mono hbw.size)⟩
      case measure => (simp [intOf]; omega)
    · have e : q = n := by omega
      subst e
      have hl : cs.takeN (q * 19) = cs := by apply UD.ext; unfold UD.takeN; rw [UD.toL_ofL]; exact List.take_of_length_le (Nat.le_of_eq Ht.out.2.2.2.1)
      rw [hl]
      clear hl Ht Hkk Hx
      go_wp2
      go_ret
      exact ⟨rfl, hbw⟩
end Go.Proofs.YtdnodaoeflbfkaaGreat
