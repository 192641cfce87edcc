/- Where a text leads to among a value's kids: spec.l4Kid, impl.kidPlace. -/
import Derived.Test.YtbadjopaocindaaBinS
import Derived.Test.YtbadjopaocindaaDigs
import Derived.Test.YtbadjopaocindaaValM
namespace Go.Proofs.Ytbadjopaocindaa
open Go.RowKit Go.BigFrame
set_option linter.unusedVariables false

def kidI (kd : Int) (ks : List ByteArray) (n : Nat) (s : ByteArray) : Option Nat :=
  if kd = 5 then (if Bs.ix ks s < ks.length then some (Bs.ix ks s) else none) else if kd = 4 then (if 0 ≤ Dg.numI s ∧ Dg.numI s < n then some (Dg.numI s).toNat else none) else none
def kidR : Option Nat → Int
  | some i => i
  | none => -1
theorem ix_first {ks : List ByteArray} {s : ByteArray} {k : Nat} (hk : k < ks.length) (h : ∀ j, j < k → ssAt ks j ≠ s) (he : ssAt ks k = s) : Bs.ix ks s = k := by
  have hlt : Bs.ix ks s < ks.length := by
    unfold Bs.ix
    rw [List.findIdx_lt_length]
    exact ⟨ks[k], List.getElem_mem hk, by rw [← ssAt_get hk, he]; simp⟩
  have h1 := Bs.ix_ssAt hlt
  rcases Nat.lt_trichotomy (Bs.ix ks s) k with h2 | h2 | h2
  · exact absurd h1 (h _ h2)
  · exact h2
  · exfalso
    have := List.not_of_lt_findIdx (p := fun x => decide (x = s)) (show k < ks.findIdx _ from h2)
    rw [← ssAt_get hk, he] at this
    simp at this
theorem ix_none {ks : List ByteArray} {s : ByteArray} (h : ∀ j, j < ks.length → ssAt ks j ≠ s) : ¬ Bs.ix ks s < ks.length := fun hlt => h _ hlt (Bs.ix_ssAt hlt)
theorem hd_kids {kd : Int} {tx : ByteArray} {nm : Int} {ks : List ByteArray} {m : Nat} (h : hdB kd tx nm ks m = true) : (kd = 5 → ks.length = m ∧ valsB ks = true) ∧ (kd ≠ 5 → kd ≠ 4 → m = 0) := by
  unfold hdB at h
  constructor
  · intro e; subst e
    simp at h
    exact ⟨h.1.2, h.2⟩
  · intro e1 e2
    by_cases k1 : kd = 1
    · rw [if_pos k1] at h; simp at h; exact h.2
    · rw [if_neg k1] at h
      by_cases k2 : kd = 2
      · rw [if_pos k2] at h; simp at h; exact h.2
      · rw [if_neg k2] at h
        by_cases k3 : kd = 3
        · rw [if_pos k3] at h; simp at h; exact h.2
        · rw [if_neg k3, if_neg e2, if_neg e1] at h; cases h
theorem kidI_lt {kd : Int} {tx : ByteArray} {nm : Int} {ks : List ByteArray} {m : Nat} {s : ByteArray} {i : Nat} (h : hdB kd tx nm ks m = true) (hi : kidI kd ks m s = some i) : i < m := by
  unfold kidI at hi
  by_cases k5 : kd = 5
  · rw [if_pos k5] at hi
    split at hi
    · cases hi; rw [← ((hd_kids h).1 k5).1]; assumption
    · cases hi
  · rw [if_neg k5] at hi
    split at hi
    · split at hi
      · cases hi; omega
      · cases hi
    · cases hi
set_option maxHeartbeats 1600000 in
theorem l4Kid_any (z0 : Int) (z1 : ByteArray) (z2 : Int) (ks : List ByteArray) (a3 a4 : Option Addr) (p3 p4 n4 : Nat) (s : ByteArray) (w : World) (hh : hdB z0 z1 z2 ks n4 = true) (hl : ks.length ≤ maxLen) (hl4 : n4 ≤ maxLen) (hs : s.size ≤ maxLen) (hrow : strOf w a3 ks) :
    Calls Try.prog 105 #[.agg #[.int .i64 z0, .string z1, .int .i64 z2, .slice a3 ks.length p3, .slice a4 n4 p4], .string s] w fun e w' => e = .returned (.int .i64 (kidR (kidI z0 ks n4 s))) ∧ Below w.heap.size w w' := by
  obtain ⟨h5, h0⟩ := hd_kids hh
  unfold maxLen at hl hl4
  have HA : Hid (∀ o, Below w.heap.size w (w.alloc o)) := fun o => (Below.refl _ _).alloc (Nat.le_refl _) _
  by_cases k5 : z0 = 5
  · subst k5
    obtain ⟨hn, -⟩ := h5 rfl
    have Hr := hide hrow
    have HF : Hid (∀ k, k < ks.length → (∀ j, j < k → ssAt ks j ≠ s) → ssAt ks k = s → kidR (kidI 5 ks n4 s) = k) := fun k hk h he => by
      have := ix_first hk h he
      unfold kidI
      rw [if_pos rfl, if_pos (by omega), this]; rfl
    have HN : Hid ((∀ j, j < ks.length → ssAt ks j ≠ s) → kidR (kidI 5 ks n4 s) = -1) := fun h => by
      unfold kidI
      rw [if_pos rfl, if_neg (ix_none h)]; rfl
    generalize kidR (kidI 5 ks n4 s) = R at *
    have hn4 : ks.length ≤ n4 := by omega
    clear hrow hh h5 h0 hn
    go_enter Try.func105, Try.ntmps105
    go_wp2
    go_loop [5] (fun i => ∃ k : Nat, k ≤ ks.length ∧ i = .int .i64 k ∧ Hid (∀ j, j < k → ssAt ks j ≠ s)) (fun i => ks.length - (intOf i).toNat)
    case atStart => exact ⟨0, Nat.zero_le _, rfl, fun j hj => by omega⟩
    case round =>
      obtain ⟨k, hk, rfl, Hx⟩ := hrel
      by_cases hlt : k < ks.length
      · obtain ⟨b, off, rfl, hat⟩ := Hr.out (by omega)
        have hcc := strAt_cells hat _ hlt
        have hbb : b < w.heap.size := World.block_lt_of_cell? _ _ hcc
        have hd := beq_str (ssAt ks k) s
        have Hs : Hid (ssAt ks k ≠ s → ∀ j, j < k + 1 → ssAt ks j ≠ s) := fun h j hj => by
          by_cases e : j = k
          · rw [e]; exact h
          · exact Hx.out j (by omega)
        have Hf : Hid (ssAt ks k = s → R = k) := HF.out k hlt Hx.out
        have hk4 : (k : Int) < (n4 : Int) := by omega
        clear hat Hx HF
        generalize ssAt ks k = K at *
        by_cases hq : K = s
        · rw [decide_eq_true hq] at hd
          have HR := hide (Hf.out hq)
          clear hq Hf Hs
          go_wp2
          go_ret
          exact ⟨ret_int HR.out.symm, HA.out _⟩
        · rw [decide_eq_false hq] at hd
          have Hn := hide (Hs.out hq)
          clear hq Hf Hs
          go_wp2
          go_round
          case rel => exact ⟨k + 1, by omega, by go_num, Hn⟩
          case measure => simp [intOf]; omega
      · have e : k = ks.length := by omega
        subst e
        have HR := hide (HN.out Hx.out)
        clear Hx HN HF
        go_wp2
        go_ret
        exact ⟨ret_int HR.out.symm, HA.out _⟩
  have j5 : (z0 == 5) = false := by simpa using k5
  by_cases k4 : z0 = 4
  · subst k4
    have HC : Hid (∀ wx, Calls Try.prog 124 #[.string s] wx fun e w' => e = .returned (.int .i64 (Dg.numI s)) ∧ w' = wx) := fun wx => Dg.l4Number_any s wx hs
    have HY : Hid (Dg.numI s < n4 → kidR (kidI 4 ks n4 s) = Dg.numI s) := fun h => by
      unfold kidI
      rw [if_neg (by decide), if_pos rfl]
      by_cases g : 0 ≤ Dg.numI s
      · rw [if_pos ⟨g, h⟩]; show ((Dg.numI s).toNat : Int) = _; omega
      · rw [if_neg (by omega)]
        show (-1 : Int) = _
        unfold Dg.numI at g ⊢
        split
        · rename_i q; rw [if_pos q] at g; omega
        · rfl
    have HN : Hid (¬ Dg.numI s < n4 → kidR (kidI 4 ks n4 s) = -1) := fun h => by
      unfold kidI
      rw [if_neg (by decide), if_pos rfl, if_neg (by omega)]; rfl
    generalize kidR (kidI 4 ks n4 s) = R at *
    have hnb : Dg.numI s ≤ 9223372036854775807 ∨ True := .inr trivial
    generalize Dg.numI s = N at *
    clear hrow hh h5 h0
    by_cases hlt : N < (n4 : Int)
    · have HR := hide (HY.out hlt)
      clear HY HN
      go_enter Try.func105, Try.ntmps105
      go_wp2_with (go_at_call 124; refine (HC.out _).mono ?_; rintro e w' ⟨rfl, rfl⟩)
      go_ret
      exact ⟨ret_int HR.out.symm, HA.out _⟩
    · have HR := hide (HN.out hlt)
      clear HY HN
      go_enter Try.func105, Try.ntmps105
      go_wp2_with (go_at_call 124; refine (HC.out _).mono ?_; rintro e w' ⟨rfl, rfl⟩)
      go_ret
      exact ⟨ret_int HR.out.symm, HA.out _⟩
  · have j4 : (z0 == 4) = false := by simpa using k4
    have HR : Hid (kidR (kidI z0 ks n4 s) = -1) := by show _ = _; unfold kidI; rw [if_neg k5, if_neg k4]; rfl
    clear hrow hh h5 h0 k5 k4
    go_enter Try.func105, Try.ntmps105
    go_wp2
    go_ret
    exact ⟨ret_int HR.out.symm, HA.out _⟩
set_option maxHeartbeats 1600000 in
theorem kidPlace_any (z0 : Int) (z1 : ByteArray) (z2 : Int) (ks : List ByteArray) (a3 a4 : Option Addr) (p3 p4 n4 : Nat) (s : ByteArray) (w : World) (hh : hdB z0 z1 z2 ks n4 = true) (hl : ks.length ≤ 1048576) (hl4 : n4 ≤ 1048576) (hrow : strOf w a3 ks) :
    Calls Try.prog 64 #[.agg #[.int .i64 z0, .string z1, .int .i64 z2, .slice a3 ks.length p3, .slice a4 n4 p4], .string s] w fun e w' => ∃ i : Nat, i ≤ 1000000000 ∧ e = .returned (.tuple #[.int .i64 i, .bool (kidI z0 ks n4 s).isSome]) ∧ (∀ j, kidI z0 ks n4 s = some j → j = i) ∧ Below w.heap.size w w' := by
  obtain ⟨h5, h0⟩ := hd_kids hh
  have HA : Hid (∀ o, Below w.heap.size w (w.alloc o)) := fun o => (Below.refl _ _).alloc (Nat.le_refl _) _
  by_cases k5 : z0 = 5
  · subst k5
    obtain ⟨hn, hv⟩ := h5 rfl
    have HC : Hid (∀ wx, Below w.heap.size w wx → Calls Try.prog 103 #[.slice a3 ks.length p3, .string s] wx fun e w' => ∃ i : Nat, i ≤ ks.length ∧ e = .returned (.tuple #[.int .i64 i, .bool (kidI 5 ks n4 s).isSome]) ∧ Hid (∀ j, kidI 5 ks n4 s = some j → j = i) ∧ Below wx.heap.size wx w') := fun wx hb => (Bs.search_any a3 p3 ks s wx hl (Bs.asc_of hv) (hrow.below hb)).mono fun e w' ⟨i, h1, h2, h3, h4⟩ => by
      refine ⟨i, h1, ?_, ?_, h4⟩
      · rw [h2]; unfold kidI; rw [if_pos rfl]
        by_cases g : Bs.ix ks s < ks.length
        · rw [if_pos g, decide_eq_true g]; rfl
        · rw [if_neg g, decide_eq_false g]; rfl
      · intro j hj
        unfold kidI at hj
        rw [if_pos rfl] at hj
        by_cases g : Bs.ix ks s < ks.length
        · rw [if_pos g] at hj; cases hj; exact h3 g
        · rw [if_neg g] at hj; cases hj
    clear hrow hh h5 h0 hn hv
    go_enter Try.func64, Try.ntmps64
    go_wp2_with (go_at_call 103; refine (HC.out _ (HA.out _)).mono ?_; rintro e w1 ⟨i, hi, rfl, Hj, hb⟩)
    go_ret2
    exact ⟨i, by omega, rfl, Hj.out, (HA.out _).trans (hb.mono (by simp))⟩
  have j5 : (z0 == 5) = false := by simpa using k5
  have HC : Hid (∀ wx, Calls Try.prog 104 #[.string s, .int .i64 9] wx fun e w' => e = .returned (.tuple #[.int .i64 ((Dg.pdR s).1 : Nat), .bool (Dg.pdR s).2]) ∧ Below wx.heap.size wx w') := fun wx => Dg.pd_any s wx
  have hd : (Dg.pdR s).1 ≤ 1000000000 := by
    unfold Dg.pdR
    split
    · rename_i h
      unfold Dg.numB at h
      simp only [Bool.and_eq_true, decide_eq_true_eq, List.all_eq_true] at h
      have := Dg.dval_lt s.data.toList h.2
      have h9 : 10 ^ s.data.toList.length ≤ 10 ^ 9 := Nat.pow_le_pow_right (by decide) h.1.1.2
      show Dg.dval _ ≤ _
      omega
    · exact Nat.zero_le _
  have HK : Hid ((kidI z0 ks n4 s).isSome = ((Dg.pdR s).2 && decide ((Dg.pdR s).1 < n4)) ∧ ∀ j, kidI z0 ks n4 s = some j → j = (Dg.pdR s).1) := by
    show _ ∧ _
    unfold kidI
    rw [if_neg k5]
    by_cases k4 : z0 = 4
    · rw [if_pos k4]
      unfold Dg.numI
      cases hq : (Dg.pdR s).2
      · simp
      · simp only [if_true, Bool.true_and]
        by_cases g : (Dg.pdR s).1 < n4
        · rw [if_pos ⟨by omega, by omega⟩, decide_eq_true g]
          exact ⟨rfl, fun j hj => by cases hj; simp⟩
        · rw [if_neg (by omega), decide_eq_false g]
          exact ⟨rfl, fun j hj => by cases hj⟩
    · rw [if_neg k4, h0 k5 k4]
      simp
  generalize kidI z0 ks n4 s = KI at *
  generalize Dg.pdR s = PR at *
  obtain ⟨D, Q⟩ := PR
  simp only at HC hd HK
  clear hrow hh h5 h0 k5
  cases Q
  · go_enter Try.func64, Try.ntmps64
    go_wp2_with fail
    refine (HC.out _).mono ?_
    rintro e w1 ⟨rfl, hb⟩
    simp only
    have b4 : w1.cell? ⟨w.heap.size, 4, none⟩ = some (.slice a4 n4 p4) := (hb.cell (p := ⟨w.heap.size, 4, none⟩) (by simp)).trans (by simp [go_sem])
    have HB : Hid (Below w.heap.size w w1) := (HA.out _).trans (hb.mono (by simp))
    clear hb
    go_wp2
    go_quiet (fail)
    go_wp2
    go_ret2
    exact ⟨D, hd, by rw [HK.out.1]; rfl, HK.out.2, by repeat (first | exact HB.out | refine Below.drew ?_ | refine below_drewN ?_ _)⟩
  · by_cases g : D < n4
    · have HE : Hid (KI.isSome = true) := by show _ = _; rw [HK.out.1, decide_eq_true g]; rfl
      have g' : (D : Int) < (n4 : Int) := by omega
      clear g
      go_enter Try.func64, Try.ntmps64
      go_wp2_with fail
      refine (HC.out _).mono ?_
      rintro e w1 ⟨rfl, hb⟩
      simp only
      have b4 : w1.cell? ⟨w.heap.size, 4, none⟩ = some (.slice a4 n4 p4) := (hb.cell (p := ⟨w.heap.size, 4, none⟩) (by simp)).trans (by simp [go_sem])
      have HB : Hid (Below w.heap.size w w1) := (HA.out _).trans (hb.mono (by simp))
      clear hb
      go_wp2
      go_quiet (fail)
      go_wp2
      go_ret2
      exact ⟨D, hd, by rw [HE.out]; rfl, HK.out.2, by repeat (first | exact HB.out | refine Below.drew ?_ | refine below_drewN ?_ _)⟩
    · have HE : Hid (KI.isSome = false) := by show _ = _; rw [HK.out.1, decide_eq_false g]; rfl
      have g' : ¬ (D : Int) < (n4 : Int) := by omega
      have g2 : decide (D < n4) = false := decide_eq_false g
      clear g
      go_enter Try.func64, Try.ntmps64
      go_wp2_with fail
      refine (HC.out _).mono ?_
      rintro e w1 ⟨rfl, hb⟩
      simp only
      have b4 : w1.cell? ⟨w.heap.size, 4, none⟩ = some (.slice a4 n4 p4) := (hb.cell (p := ⟨w.heap.size, 4, none⟩) (by simp)).trans (by simp [go_sem])
      have HB : Hid (Below w.heap.size w w1) := (HA.out _).trans (hb.mono (by simp))
      clear hb
      go_wp2
      go_quiet (fail)
      go_wp2
      go_ret2
      exact ⟨D, hd, by rw [HE.out]; rfl, HK.out.2, by repeat (first | exact HB.out | refine Below.drew ?_ | refine below_drewN ?_ _)⟩
end Go.Proofs.Ytbadjopaocindaa
