/- spec.l6Right, spec.Total. -/
import Derived.Test.YtdnodaoeflbfkaaBas
import Derived.Test.YtdnodaoeflbfkaaULeaf
import Derived.Test.YtdnodaoeflbfkaaShrM
namespace Go.Proofs.Ytdnodaoeflbfkaa
open Go.RowKit Go.BigFrame
set_option linter.unusedVariables false
theorem cell_int {w : World} {lo hi n : Nat} {c : UD} {b off cap : Nat} (ht : tyS 1 n c 1) (h : uS w lo hi 1 n c (.slice (some ⟨b, off, none⟩) n cap)) (j : Nat) (hj : j < n) : w.cell? ⟨b, off + j, none⟩ = some (.int .i64 (gI (intL c) j)) := by
  have := int_at ht h j (by rw [intL_len ht]; exact hj)
  rw [this, gI_get]
theorem gI_in {n : Nat} {c : UD} (ht : tyS 1 n c 1) (j : Nat) (hj : j < n) : -9223372036854775808 ≤ gI (intL c) j ∧ gI (intL c) j ≤ 9223372036854775807 := by
  have := int_in ht j (by rw [intL_len ht]; exact hj)
  rw [gI_get (by rw [intL_len ht]; exact hj)]; exact this
/-- one place is as told -/
def goodAt (ws cs : List Int) (i : Nat) : Prop := (0 ≤ gI ws i ∧ gI ws i ≤ 1000) ∧ 0 ≤ gI cs i ∧ gI cs i ≤ 10000
theorem inB_t {x a b : Int} (h : a ≤ x ∧ x ≤ b) : inB x a b = true := by unfold inB; rw [decide_eq_true_eq]; exact h
theorem inB_f {x a b : Int} (h : ¬ (a ≤ x ∧ x ≤ b)) : inB x a b = false := by unfold inB; rw [decide_eq_false_iff_not]; exact h
set_option maxRecDepth 20000 in
set_option maxHeartbeats 3200000 in
theorem l6Right_any (n : Int) (k1 k2 : Nat) (c1 c2 : UD) (v1 v2 : Value) (lo hi lo' hi' : Nat) (w : World) (r : Bool) (ht1 : tyS 1 k1 c1 1) (ht2 : tyS 1 k2 c2 1) (hx1 : uS w lo hi 1 k1 c1 v1) (hx2 : uS w lo' hi' 1 k2 c2 v2) (hr : r = true ↔ rightP n (intL c1) (intL c2)) :
    Calls Try.prog 218 #[.int .i64 n, v1, v2] w fun e w' => e = .returned (.bool r) ∧ w' = w := by
  obtain ⟨a1, p1, rfl, hy1⟩ := hx1
  obtain ⟨a2, p2, rfl, hy2⟩ := hx2
  have H1 : Hid (uS w lo hi 1 k1 c1 (.slice a1 k1 p1)) := ⟨_, _, rfl, hy1⟩
  have H2 : Hid (uS w lo' hi' 1 k2 c2 (.slice a2 k2 p2)) := ⟨_, _, rfl, hy2⟩
  have T1 := uhide ht1
  have T2 := uhide ht2
  have hl1 := intL_len ht1
  have hl2 := intL_len ht2
  have hm1 := ht1.2.2.1
  have hm2 := ht2.2.2.1
  unfold maxLen at hm1 hm2
  unfold rightP at hr
  rw [hl1, hl2] at hr
  have no : ∀ {p : Prop}, (r = true ↔ p) → ¬ p → r = false := fun h hp => by
    cases r
    · rfl
    · exact (hp (h.1 rfl)).elim
  have NO : Hid (¬ (((0 ≤ n ∧ n ≤ 10000) ∧ k1 ≤ 64 ∧ k1 = k2) ∧ ∀ i, i < k1 → goodAt (intL c1) (intL c2) i) → r = false) := fun h => no hr h
  have YES : Hid ((((0 ≤ n ∧ n ≤ 10000) ∧ k1 ≤ 64 ∧ k1 = k2) ∧ ∀ i, i < k1 → goodAt (intL c1) (intL c2) i) → r = true) := fun h => hr.2 h
  clear hy1 hy2 ht1 ht2 hl1 hl2 hr no
  have HI := uhide (l1In_any n 0 10000)
  by_cases hn : 0 ≤ n ∧ n ≤ 10000
  rotate_left
  · have hrf := NO.out (fun h => hn h.1.1)
    subst hrf
    rw [inB_f hn] at HI
    clear NO YES
    go_enter Try.func218, Try.ntmps218
    go_wp2_with fail
    refine (HI.out _).mono ?_
    rintro e w1 ⟨rfl, rfl⟩
    go_wp2
    go_ret
    exact ⟨rfl, rfl⟩
  rw [inB_t hn] at HI
  by_cases h64 : 64 < k1
  · have hrf := NO.out (fun h => by omega)
    subst hrf
    clear NO YES
    go_enter Try.func218, Try.ntmps218
    go_wp2_with fail
    refine (HI.out _).mono ?_
    rintro e w1 ⟨rfl, rfl⟩
    go_wp2
    go_ret
    exact ⟨rfl, rfl⟩
  by_cases hk : k1 = k2
  rotate_left
  · have hrf := NO.out (fun h => hk h.1.2.2)
    subst hrf
    have hk' : ((k1 : Int) != (k2 : Int)) = true := by rw [bne_iff_ne]; omega
    clear NO YES
    go_enter Try.func218, Try.ntmps218
    go_wp2_with fail
    refine (HI.out _).mono ?_
    rintro e w1 ⟨rfl, rfl⟩
    go_wp2
    go_ret
    exact ⟨rfl, rfl⟩
  subst hk
  have hk' : ((k1 : Int) != (k1 : Int)) = false := by simp
  have NO2 : Hid (∀ i, i < k1 → ¬ goodAt (intL c1) (intL c2) i → r = false) := fun i hi hg => NO.out (fun h => hg (h.2 i hi))
  have YES2 : Hid ((∀ i, i < k1 → goodAt (intL c1) (intL c2) i) → r = true) := fun h => YES.out ⟨⟨hn, by omega, rfl⟩, h⟩
  clear NO YES
  go_enter Try.func218, Try.ntmps218
  go_wp2_with fail
  refine (HI.out _).mono ?_
  rintro e w1 ⟨rfl, rfl⟩
  clear HI
  go_wp2
  go_loopw [7] (fun i wr => ∃ (q : Nat), q ≤ k1 ∧ i = .int .i64 q ∧ Hid (∀ j, j < q → goodAt (intL c1) (intL c2) j) ∧ wr = w1) (fun i _ => k1 - (intOf i).toNat)
  case atStart => exact ⟨0, Nat.zero_le _, rfl, (fun j h => by omega), rfl⟩
  case round =>
    obtain ⟨q, hq, rfl, HE, rfl⟩ := hrel
    by_cases hlt : q < k1
    · obtain ⟨b1, off1, rfl, hb1, -⟩ := H1.out.cells (by omega)
      obtain ⟨b2, off2, rfl, hb2, -⟩ := H2.out.cells (by omega)
      have q1 := cell_int T1.out H1.out q hlt
      have q2 := cell_int T2.out H2.out q hlt
      have HX := uhide (l1In_any (gI (intL c1) q) 0 1000)
      have HY := uhide (l1In_any (gI (intL c2) q) 0 10000)
      have HN : Hid (goodAt (intL c1) (intL c2) q → ∀ j, j < q + 1 → goodAt (intL c1) (intL c2) j) := fun hg j hj => by
        by_cases e : j = q
        · subst e; exact hg
        · exact HE.out j (by omega)
      have HF : Hid (¬ goodAt (intL c1) (intL c2) q → r = false) := NO2.out q hlt
      unfold goodAt at HF
      by_cases hx : 0 ≤ gI (intL c1) q ∧ gI (intL c1) q ≤ 1000
      rotate_left
      · have hrf := HF.out (fun h => hx h.1)
        subst hrf
        rw [inB_f hx] at HX
        clear HF HN HY HE YES2 NO2
        generalize gI (intL c1) q = X at *
        generalize gI (intL c2) q = Y at *
        go_wp2_with fail
        refine (HX.out _).mono ?_
        rintro e w1 ⟨rfl, rfl⟩
        go_wp2
        go_ret
        exact ⟨rfl, rfl⟩
      rw [inB_t hx] at HX
      by_cases hy : 0 ≤ gI (intL c2) q ∧ gI (intL c2) q ≤ 10000
      rotate_left
      · have hrf := HF.out (fun h => hy h.2)
        subst hrf
        rw [inB_f hy] at HY
        clear HF HN HE YES2 NO2
        generalize gI (intL c1) q = X at *
        generalize gI (intL c2) q = Y at *
        go_wp2_with fail
        refine (HX.out _).mono ?_
        rintro e w1 ⟨rfl, rfl⟩
        go_wp2_with fail
        refine (HY.out _).mono ?_
        rintro e w1 ⟨rfl, rfl⟩
        go_wp2
        go_ret
        exact ⟨rfl, rfl⟩
      rw [inB_t hy] at HY
      have HN2 := uhide (HN.out ⟨hx, hy⟩)
      clear HF HN HE NO2
      generalize gI (intL c1) q = X at *
      generalize gI (intL c2) q = Y at *
      go_wp2_with fail
      refine (HX.out _).mono ?_
      rintro e w1 ⟨rfl, rfl⟩
      go_wp2_with fail
      refine (HY.out _).mono ?_
      rintro e w1 ⟨rfl, rfl⟩
      go_wp2
      go_roundw
      case rel => exact ⟨q + 1, by omega, by go_num, HN2, trivial⟩
      case measure => simp [intOf]; omega
    · have e : q = k1 := by omega
      subst e
      have hrt := YES2.out HE.out
      subst hrt
      go_wp2
      go_ret
      exact ⟨rfl, rfl⟩
end Go.Proofs.Ytdnodaoeflbfkaa
