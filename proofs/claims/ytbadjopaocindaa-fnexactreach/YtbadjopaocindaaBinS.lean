/- slices.BinarySearch over texts that ascend. -/
import Derived.Test.YtbadjopaocindaaSel
namespace Go.Proofs.Ytbadjopaocindaa
open Go.RowKit Go.BigFrame
set_option linter.unusedVariables false
namespace Bs
theorem less_trans {a b c : List UInt8} (h1 : Op.bytesLess a b = true) (h2 : Op.bytesLess b c = true) : Op.bytesLess a c = true := by
  revert a b c
  intro a
  induction a with
  | nil =>
    intro b c h1 h2
    cases c with
    | nil => cases b <;> simp [Op.bytesLess] at h2
    | cons _ _ => rfl
  | cons x a ih =>
    intro b c h1 h2
    match b, c, h1, h2 with
    | y :: b, z :: c, h1, h2 =>
      simp only [Op.bytesLess, Bool.or_eq_true, Bool.and_eq_true, decide_eq_true_eq, beq_iff_eq] at *
      rcases h1 with h1 | ⟨rfl, h1⟩
      · rcases h2 with h2 | ⟨rfl, h2⟩
        · exact .inl (UInt8.lt_trans h1 h2)
        · exact .inl h1
      · rcases h2 with h2 | ⟨rfl, h2⟩
        · exact .inl h2
        · exact .inr ⟨rfl, ih h1 h2⟩
theorem less_irr : ∀ a : List UInt8, Op.bytesLess a a = false
  | [] => rfl
  | x :: a => by unfold Op.bytesLess; rw [less_irr a]; simp
def lt (a b : ByteArray) : Bool := Op.bytesLess a.toList b.toList
def asc (ks : List ByteArray) : Prop := ∀ i j, i < j → j < ks.length → lt (ssAt ks i) (ssAt ks j) = true
theorem asc_of {ks : List ByteArray} (h : valsB ks = true) : asc ks := by
  unfold valsB at h
  rw [decide_eq_true_eq] at h
  intro i j hij
  induction j with
  | zero => omega
  | succ j ih =>
    intro hj
    have hs := (h (j + 1) hj).2 (by omega)
    unfold ltS at hs
    rw [Nat.add_sub_cancel] at hs
    by_cases e : i = j
    · rw [e]; exact hs
    · exact less_trans (ih (by omega) (by omega)) hs
def between (ks : List ByteArray) (key : ByteArray) (lo hi : Nat) : Prop := (∀ t, t < lo → lt (ssAt ks t) key = true) ∧ ∀ t, hi ≤ t → t < ks.length → lt (ssAt ks t) key = false
theorem between_up {ks : List ByteArray} {key : ByteArray} {lo hi m : Nat} (ha : asc ks) (h : between ks key lo hi) (hm : m < ks.length) (hc : lt (ssAt ks m) key = true) : between ks key (m + 1) hi := by
  refine ⟨fun t ht => ?_, h.2⟩
  by_cases e : t = m
  · rw [e]; exact hc
  · exact less_trans (ha t m (by omega) hm) hc
theorem between_down {ks : List ByteArray} {key : ByteArray} {lo hi m : Nat} (ha : asc ks) (h : between ks key lo hi) (hm : m < ks.length) (hc : lt (ssAt ks m) key = false) : between ks key lo m := by
  refine ⟨h.1, fun t ht hl => ?_⟩
  by_cases e : t = m
  · rw [e]; exact hc
  · cases hx : lt (ssAt ks t) key with
    | false => rfl
    | true => rw [show lt (ssAt ks m) key = true from less_trans (ha m t (by omega) hl) hx] at hc; cases hc
/-- where a key stands -/
def ix (ks : List ByteArray) (key : ByteArray) : Nat := ks.findIdx fun k => decide (k = key)
theorem ix_ssAt {ks : List ByteArray} {key : ByteArray} (h : ix ks key < ks.length) : ssAt ks (ix ks key) = key := by
  have := List.findIdx_getElem (p := fun k => decide (k = key)) (w := h)
  rw [ssAt_get h]
  exact of_decide_eq_true this
/-- what the search tells -/
theorem found {ks : List ByteArray} {key : ByteArray} {i : Nat} (ha : asc ks) (hb : between ks key i i) (hi : i ≤ ks.length) : (i < ks.length ∧ ssAt ks i = key → ix ks key = i) ∧ (¬ (i < ks.length ∧ ssAt ks i = key) → ks.length ≤ ix ks key) := by
  have hno : ∀ t, t < ks.length → t ≠ i → ssAt ks t ≠ key := by
    intro t ht hne e
    rcases Nat.lt_or_ge t i with h | h
    · have := hb.1 t h
      rw [e] at this
      unfold lt at this; rw [less_irr] at this; cases this
    · have h1 := hb.2 i (Nat.le_refl _) (by omega)
      have h2 := ha i t (by omega) ht
      rw [e] at h2
      rw [h2] at h1; cases h1
  constructor
  · rintro ⟨h1, h2⟩
    have hlt : ix ks key < ks.length := by
      unfold ix
      rw [List.findIdx_lt_length]
      exact ⟨ks[i], List.getElem_mem h1, by rw [← ssAt_get h1, h2]; simp⟩
    have := ix_ssAt hlt
    by_cases e : ix ks key = i
    · exact e
    · exact absurd this (hno _ hlt e)
  · intro hn
    rcases Nat.lt_or_ge (ix ks key) ks.length with h | h
    · have := ix_ssAt h
      by_cases e : ix ks key = i
      · exact absurd ⟨e ▸ h, e ▸ this⟩ hn
      · exact absurd this (hno _ h e)
    · exact h
theorem nan1 (s : ByteArray) (w : World) : Calls Try.prog 130 #[.string s] w fun e w' => e = .returned (.bool false) ∧ w' = w := by
  have h : (s.toList == s.toList) = true := by simp
  go_enter Try.func130, Try.ntmps130
  go_wp2
  go_ret
  exact ⟨rfl, rfl⟩
theorem nan2 (s : ByteArray) (w : World) : Calls Try.prog 123 #[.string s] w fun e w' => e = .returned (.bool false) ∧ w' = w := by
  have h : (s.toList == s.toList) = true := by simp
  go_enter Try.func123, Try.ntmps123
  go_wp2
  go_ret
  exact ⟨rfl, rfl⟩
theorem less_any (a b : ByteArray) (w : World) : Calls Try.prog 122 #[.string a, .string b] w fun e w' => e = .returned (.bool (lt a b)) ∧ w' = w := by
  have E : Hid (lt a b = Op.bytesLess a.toList b.toList) := rfl
  go_enter Try.func122, Try.ntmps122
  go_wp2_with (go_at_call 130; refine (nan1 _ _).mono ?_; rintro e w' ⟨rfl, rfl⟩)
  go_ret
  exact ⟨ret_bool E.out.symm, rfl⟩
set_option maxHeartbeats 1600000 in
theorem search_any (a : Option Addr) (cap : Nat) (ks : List ByteArray) (key : ByteArray) (w : World) (hl : ks.length ≤ 1048576) (ha : asc ks) (hrow : strOf w a ks) :
    Calls Try.prog 103 #[.slice a ks.length cap, .string key] w fun e w' => ∃ i : Nat, i ≤ ks.length ∧ e = .returned (.tuple #[.int .i64 i, .bool (decide (ix ks key < ks.length))]) ∧ (ix ks key < ks.length → ix ks key = i) ∧ Below w.heap.size w w' := by
  have Hr := hide hrow
  have Ha := hide ha
  clear hrow ha
  go_enter Try.func103, Try.ntmps103
  go_wp2
  go_loopw [7, 8] (fun i j wr => ∃ lo hi : Nat, lo ≤ hi ∧ hi ≤ ks.length ∧ i = .int .i64 lo ∧ j = .int .i64 hi ∧ Hid (between ks key lo hi) ∧ Below w.heap.size w wr) (fun i j _ => (intOf j).toNat - (intOf i).toNat)
  case atStart => exact ⟨0, ks.length, by omega, by omega, rfl, rfl, ⟨fun t ht => by omega, fun t h1 h2 => by omega⟩, Below.refl _ _⟩
  case round =>
    obtain ⟨lo, hi, h1, h2, rfl, rfl, Hbt, hbw⟩ := hrel
    by_cases hlt : lo < hi
    · have hm : (lo + hi) / 2 < ks.length := by omega
      obtain ⟨b, off, rfl, hat⟩ := Hr.out (by omega)
      have hcc := strAt_cells hat _ hm
      have hbb : b < w.heap.size := World.block_lt_of_cell? _ _ hcc
      have c0 := (hbw.cell (p := ⟨b, off + (lo + hi) / 2, none⟩) hbb).trans hcc
      have Hcon : Hid (∀ wx, Calls Try.prog 122 #[.string (ssAt ks ((lo + hi) / 2)), .string key] wx fun e w' => e = .returned (.bool (lt (ssAt ks ((lo + hi) / 2)) key)) ∧ w' = wx) := fun wx => less_any _ _ _
      have Hup : Hid (lt (ssAt ks ((lo + hi) / 2)) key = true → between ks key ((lo + hi) / 2 + 1) hi) := fun hc => between_up Ha.out Hbt.out hm hc
      have Hdn : Hid (lt (ssAt ks ((lo + hi) / 2)) key = false → between ks key lo ((lo + hi) / 2)) := fun hc => between_down Ha.out Hbt.out hm hc
      clear hat hcc Hr Ha Hbt
      generalize ssAt ks ((lo + hi) / 2) = K at *
      obtain ⟨q, hq⟩ : ∃ q, lt K key = q := ⟨_, rfl⟩
      rw [hq] at Hcon Hup Hdn
      clear hq
      cases q
      · have Hn := hide (Hdn.out rfl)
        clear Hup Hdn
        go_wp2_with (go_at_call 122; refine (Hcon.out _).mono ?_; rintro e w3 ⟨rfl, rfl⟩)
        go_roundw
        case rel => exact ⟨lo, (lo + hi) / 2, by omega, by omega, rfl, by go_num, Hn, hbw⟩
        case measure => simp [intOf]; omega
      · have Hn := hide (Hup.out rfl)
        clear Hup Hdn
        go_wp2_with (go_at_call 122; refine (Hcon.out _).mono ?_; rintro e w3 ⟨rfl, rfl⟩)
        go_roundw
        case rel => exact ⟨(lo + hi) / 2 + 1, hi, by omega, h2, by go_num, rfl, Hn, hbw⟩
        case measure => simp [intOf]; omega
    · have e : hi = lo := by omega
      subst e
      have hf := found Ha.out Hbt.out h2
      by_cases hin : hi < ks.length
      · obtain ⟨b, off, rfl, hat⟩ := Hr.out (by omega)
        have hcc := strAt_cells hat _ hin
        have hbb : b < w.heap.size := World.block_lt_of_cell? _ _ hcc
        have c0 := (hbw.cell (p := ⟨b, off + hi, none⟩) hbb).trans hcc
        have hd : ∀ t : ByteArray, (t.toList == key.toList) = decide (t = key) := fun t => beq_str t key
        have Hf : Hid ((ssAt ks hi = key → ix ks key = hi) ∧ (¬ ssAt ks hi = key → ks.length ≤ ix ks key)) := ⟨fun h => hf.1 ⟨hin, h⟩, fun h => hf.2 (fun g => h g.2)⟩
        have hk := hd (ssAt ks hi)
        clear hat hcc Hr Ha Hbt hf hd
        generalize ssAt ks hi = K at *
        by_cases hq : K = key
        · rw [decide_eq_true hq] at hk
          have HA := hide (Hf.out.1 hq)
          clear hq Hf
          have HB : Hid (decide (ix ks key < ks.length) = true) := by show _ = _; rw [HA.out]; simpa using hin
          go_wp2_with (go_at_call 123; refine (nan2 _ _).mono ?_; rintro e w3 ⟨rfl, rfl⟩)
          go_ret2
          exact ⟨hi, by omega, by rw [HB.out]; rfl, fun _ => HA.out, hbw⟩
        · rw [decide_eq_false hq] at hk
          have HA := hide (Hf.out.2 hq)
          clear hq Hf
          have HB : Hid (decide (ix ks key < ks.length) = false) := by show _ = _; rw [decide_eq_false_iff_not]; have := HA.out; omega
          go_wp2_with (go_at_call 123; refine (nan2 _ _).mono ?_; rintro e w3 ⟨rfl, rfl⟩)
          go_ret2
          exact ⟨hi, by omega, by rw [HB.out]; rfl, fun h => absurd h (by have := HA.out; omega), hbw⟩
      · have HA := hide (hf.2 (fun g => hin g.1))
        have HB : Hid (decide (ix ks key < ks.length) = false) := by show _ = _; rw [decide_eq_false_iff_not]; have := HA.out; omega
        have hge : decide ((hi : Int) < (ks.length : Int)) = false := by rw [decide_eq_false_iff_not]; omega
        clear hf Hr Ha Hbt
        go_wp2
        go_ret2
        exact ⟨hi, by omega, by rw [HB.out]; rfl, fun h => absurd h (by have := HA.out; omega), hbw⟩
end Bs
end Go.Proofs.Ytbadjopaocindaa
