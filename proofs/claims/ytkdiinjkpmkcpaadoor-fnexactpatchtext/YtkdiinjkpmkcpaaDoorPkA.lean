/- What is asked of a path: names alone, one to five (impl: slices.ContainsFunc over stepWrong; spec: l5Path). -/
import Derived.Test.YtkdiinjkpmkcpaaDoorVSmN
import Derived.Test.YtkdiinjkpmkcpaaDoorDigs
namespace Go.Proofs.YtkdiinjkpmkcpaaDoor
open Go.RowKit Go.BigFrame Dg
set_option linter.unusedVariables false

theorem numB_name {s : ByteArray} (h : numB s.data.toList = true) : nameB s = true := by
  unfold numB at h
  simp only [Bool.and_eq_true, decide_eq_true_eq, List.all_eq_true] at h
  obtain ⟨⟨⟨h1, h2⟩, -⟩, h3⟩ := h
  rw [len_size] at h1 h2
  have key : ∀ j, j < s.size → 48 ≤ byt s j ∧ byt s j ≤ 57 := fun j hj => by
    unfold byt
    have hj' : j < s.data.toList.length := by rw [len_size]; exact hj
    rw [List.getElem?_eq_getElem hj']
    have := h3 _ (List.getElem_mem hj')
    unfold isD at this
    rw [decide_eq_true_eq] at this
    simp only [Option.getD_some]
    omega
  unfold nameB
  rw [decide_eq_true_eq]
  refine ⟨fun j hj => ?_, h1, by omega, ?_, ?_⟩
  · have := key j hj
    unfold nbI
    rw [decide_eq_true_eq]; omega
  · have := key 0 (by omega); omega
  · have := key (s.size - 1) (by omega); omega
theorem noname_num {s : ByteArray} (h : nameB s = false) : numI s = -1 := by
  cases hn : numB s.data.toList with
  | false => exact numI_no hn
  | true => rw [numB_name hn] at h; cases h
/-- all texts of a row are names -/
def allNm (c : UD) : Prop := ∀ j (g : j < (strL c).length), nameB ((strL c)[j]'g) = true
def ixP (c : UD) (n : Nat) (r : Int) : Prop := (r < 0 ↔ allNm c) ∧ -1 ≤ r ∧ r ≤ n
theorem stepWrong_any (s : ByteArray) (w : World) : Calls Tryd.prog 39 #[.string s] w fun e w' => e = .returned (.bool (!nameB s)) ∧ Below w.heap.size w w' := by
  have HN := uhide (iname_any s)
  go_enter Tryd.func39, Tryd.ntmps39
  go_wp2_with fail
  refine (HN.out _).mono ?_
  rintro e w1 ⟨rfl, hb⟩
  go_wp2
  go_ret
  exact ⟨rfl, hb⟩
set_option maxHeartbeats 800000 in
theorem ixStep_any (n : Nat) (c : UD) (a : Option Addr) (cap lo hi : Nat) (w : World) (ht : tyS 1 n c 0) (hx : uS w lo hi 1 n c (.slice a n cap)) :
    Calls Tryd.prog 52 #[.slice a n cap, .func (.func 39) #[] #[]] w fun e w' => ∃ r : Int, e = .returned (.int .i64 r) ∧ ixP c n r ∧ Below w.heap.size w w' := by
  have hn := ht.2.2.1
  unfold maxLen at hn
  have Ht := uhide ht
  have Hx := uhide hx
  clear ht hx
  go_enter Tryd.func52, Tryd.ntmps52
  go_wp2
  go_loopw [8] (fun i wr => ∃ (q : Nat), q ≤ n ∧ i = .int .i64 q ∧ Hid (∀ j (g : j < (strL c).length), j < q → nameB ((strL c)[j]'g) = true) ∧ Hid (Below w.heap.size w wr)) (fun i _ => n - (intOf i).toNat)
  case atStart => exact ⟨0, Nat.zero_le _, rfl, (fun j _ h => by omega), Below.refl _ _⟩
  case round =>
    obtain ⟨q, hq, rfl, HE, HB⟩ := hrel
    by_cases hlt : q < n
    · obtain ⟨b1, off, rfl, hbk, -⟩ := (Hx.out.below HB.out).cells (by omega)
      have hl := strL_len Ht.out
      have q0 := txt_at Ht.out (Hx.out.below HB.out) q (by omega)
      have Hnx : Hid (nameB ((strL c)[q]'(by omega)) = true → ∀ j (g : j < (strL c).length), j < q + 1 → nameB ((strL c)[j]'g) = true) := fun he j g hj => by
        by_cases e : j = q
        · subst e; exact he
        · exact HE.out j g (by omega)
      have Hno : Hid (nameB ((strL c)[q]'(by omega)) = false → ¬ allNm c) := fun hne e => by rw [e q (by omega)] at hne; cases hne
      generalize (strL c)[q]'(by omega) = X at *
      have HC := uhide (stepWrong_any X)
      cases hX : nameB X with
      | true =>
        rw [hX] at HC
        have Hnx := uhide (Hnx.out hX)
        clear Hno hX hl HE
        go_wp2_with fail
        refine (HC.out _).mono ?_
        rintro e w1 ⟨rfl, hb1⟩
        have HB1 : Hid (Below w.heap.size w w1) := HB.out.trans (hb1.mono HB.out.size)
        clear hb1 HC
        go_wp2
        go_roundw
        case rel => exact ⟨q + 1, by omega, by go_num, Hnx, HB1⟩
        case measure => simp [intOf]; omega
      | false =>
        rw [hX] at HC
        have Hno := uhide (Hno.out hX)
        clear Hnx hX hl HE
        go_wp2_with fail
        refine (HC.out _).mono ?_
        rintro e w1 ⟨rfl, hb1⟩
        have HB1 : Hid (Below w.heap.size w w1) := HB.out.trans (hb1.mono HB.out.size)
        clear hb1 HC
        go_wp2
        refine bodyPost_ret (v := .int .i64 q) ?_ rfl ⟨q, rfl, ⟨⟨fun h => by omega, fun h => (Hno.out h).elim⟩, by omega, by omega⟩, HB1.out⟩
        simp [results, Tryd.results52, go_sem]
    · have e1 : q = n := by omega
      subst e1
      have hc : allNm c := fun j g => HE.out j g (by have := strL_len Ht.out; omega)
      have Hc := uhide hc
      clear hc
      go_wp2
      refine bodyPost_ret (v := .int .i64 (-1)) ?_ rfl ⟨-1, rfl, ⟨⟨fun _ => Hc.out, fun _ => by omega⟩, by omega, by omega⟩, HB.out⟩
      simp [results, Tryd.results52, go_sem]
theorem coStep_any (n : Nat) (c : UD) (a : Option Addr) (cap lo hi : Nat) (w : World) (r : Bool) (ht : tyS 1 n c 0) (hx : uS w lo hi 1 n c (.slice a n cap)) (hr : r = false ↔ allNm c) :
    Calls Tryd.prog 38 #[.slice a n cap, .func (.func 39) #[] #[]] w fun e w' => e = .returned (.bool r) ∧ Below w.heap.size w w' := by
  have HC := uhide (ixStep_any n c a cap lo hi w ht hx)
  have hn := ht.2.2.1
  unfold maxLen at hn
  have HR := uhide hr
  clear ht hx hr
  go_enter Tryd.func38, Tryd.ntmps38
  go_wp2_with fail
  refine HC.out.mono ?_
  rintro e w1 ⟨x, rfl, ⟨hx1, hx2, hx3⟩, hb⟩
  by_cases h0 : x < 0
  · have hrf : r = false := HR.out.2 (hx1.1 h0)
    subst hrf
    have h1 : ¬ (0 ≤ x) := by omega
    clear hx1
    go_wp2
    go_ret
    first | exact ⟨rfl, hb⟩ | exact ⟨ret_bool (decide_eq_false (by omega)), hb⟩
  · have hrt : r = true := by
      cases h : r with
      | true => rfl
      | false => exact (h0 (hx1.2 (HR.out.1 h))).elim
    subst hrt
    have h1 : 0 ≤ x := by omega
    clear hx1
    go_wp2
    go_ret
    first | exact ⟨rfl, hb⟩ | exact ⟨ret_bool (decide_eq_true (by omega)), hb⟩
set_option maxHeartbeats 800000 in
theorem l5Path_any (n : Nat) (c : UD) (a : Option Addr) (cap lo hi : Nat) (w : World) (r : Bool) (ht : tyS 1 n c 0) (hx : uS w lo hi 1 n c (.slice a n cap)) (hr : r = true ↔ (1 ≤ n ∧ n ≤ 5) ∧ allNm c) :
    Calls Tryd.prog 19 #[.slice a n cap] w fun e w' => e = .returned (.bool r) ∧ Below w.heap.size w w' := by
  have hn := ht.2.2.1
  unfold maxLen at hn
  have Ht := uhide ht
  have Hx := uhide hx
  have HR := uhide hr
  clear ht hx hr
  go_enter Tryd.func19, Tryd.ntmps19
  go_wp2
  go_loopw [3] (fun i wr => ∃ (q : Nat), q ≤ n ∧ i = .int .i64 q ∧ Hid (∀ j (g : j < (strL c).length), j < q → nameB ((strL c)[j]'g) = true) ∧ Hid (Below w.heap.size w wr)) (fun i _ => n - (intOf i).toNat)
  case atStart => exact ⟨0, Nat.zero_le _, rfl, (fun j _ h => by omega), Below.refl _ _⟩
  case round =>
    obtain ⟨q, hq, rfl, HE, HB⟩ := hrel
    by_cases hlt : q < n
    · obtain ⟨b1, off, rfl, hbk, -⟩ := (Hx.out.below HB.out).cells (by omega)
      have hl := strL_len Ht.out
      have q0 := txt_at Ht.out (Hx.out.below HB.out) q (by omega)
      have hz := ((strL_get c 0 Ht.out.2.2.2.2).2 q (by omega)).2
      have Hnx : Hid (nameB ((strL c)[q]'(by omega)) = true → ∀ j (g : j < (strL c).length), j < q + 1 → nameB ((strL c)[j]'g) = true) := fun he j g hj => by
        by_cases e : j = q
        · subst e; exact he
        · exact HE.out j g (by omega)
      have Hno : Hid (nameB ((strL c)[q]'(by omega)) = false → ¬ allNm c) := fun hne e => by rw [e q (by omega)] at hne; cases hne
      generalize (strL c)[q]'(by omega) = X at *
      have HC : Hid (∀ wx, Calls Tryd.prog 33 #[.string X] wx fun e w' => e = .returned (.bool (nameB X)) ∧ w' = wx) := fun wx => sname_any X wx hz
      have HD : Hid (∀ wx, Calls Tryd.prog 34 #[.string X] wx fun e w' => e = .returned (.int .i64 (numI X)) ∧ w' = wx) := fun wx => l4Number_any X wx hz
      clear hz
      cases hX : nameB X with
      | true =>
        rw [hX] at HC
        have Hnx := uhide (Hnx.out hX)
        clear Hno hX hl HE
        go_wp2_with (first | (go_at_call 33; refine (HC.out _).mono ?_; rintro e w1 ⟨rfl, rfl⟩) | (go_at_call 34; refine (HD.out _).mono ?_; rintro e w1 ⟨rfl, rfl⟩))
        go_roundw
        case rel => exact ⟨q + 1, by omega, by go_num, Hnx, HB⟩
        case measure => simp [intOf]; omega
      | false =>
        rw [hX] at HC
        rw [noname_num hX] at HD
        have hrf : r = false := by
          cases h : r with
          | false => rfl
          | true => exact (Hno.out hX (HR.out.1 h).2).elim
        subst hrf
        clear Hnx hX hl HE Hno HR
        go_wp2_with (first | (go_at_call 33; refine (HC.out _).mono ?_; rintro e w1 ⟨rfl, rfl⟩) | (go_at_call 34; refine (HD.out _).mono ?_; rintro e w1 ⟨rfl, rfl⟩))
        go_ret
        exact ⟨rfl, HB.out⟩
    · have e1 : q = n := by omega
      subst e1
      have hc : allNm c := fun j g => HE.out j g (by have := strL_len Ht.out; omega)
      have hre : inB (q : Int) 1 5 = r := by
        rw [Bool.eq_iff_iff, HR.out]
        unfold inB
        rw [decide_eq_true_eq]
        exact ⟨fun h => ⟨by omega, hc⟩, fun h => by omega⟩
      have HI := uhide (l1In_any (q : Int) 1 5)
      rw [hre] at HI
      clear hre hc HE HR
      go_wp2_with (go_at_call 18; refine (HI.out _).mono ?_; rintro e w1 ⟨rfl, rfl⟩)
      go_ret
      exact ⟨rfl, HB.out⟩
end Go.Proofs.YtkdiinjkpmkcpaaDoor
