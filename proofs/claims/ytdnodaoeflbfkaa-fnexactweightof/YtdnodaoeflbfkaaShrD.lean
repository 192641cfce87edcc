/- Shares: who is served of what is left over; what is divided, round by round: plain numbers. -/
import Derived.Test.YtdnodaoeflbfkaaShrM
namespace Go.Proofs.Ytdnodaoeflbfkaa
open Go.RowKit
set_option linter.unusedVariables false
/-- i is served ahead of j -/
def ahead (r : Nat → Int) (i j : Nat) : Prop := r j < r i ∨ (r i = r j ∧ i < j)
theorem ahead_or (r : Nat → Int) {i j : Nat} (h : i ≠ j) : ahead r i j ∨ ahead r j i := by unfold ahead; omega
theorem ahead_not {r : Nat → Int} {i j : Nat} (h : ahead r i j) : ¬ ahead r j i := by unfold ahead at *; omega
theorem ahead_trans {r : Nat → Int} {i j k : Nat} (h : ahead r i j) (h' : ahead r j k) : ahead r i k := by unfold ahead at *; omega
/-- how many of the first k -/
def nOf (P : Nat → Bool) : Nat → Nat
  | 0 => 0
  | k + 1 => nOf P k + (if P k = true then 1 else 0)
theorem nOf_sub {P Q : Nat → Bool} : ∀ k, (∀ i, i < k → P i = true → Q i = true) → nOf P k ≤ nOf Q k ∧ (nOf P k = nOf Q k → ∀ i, i < k → Q i = true → P i = true)
  | 0, _ => ⟨Nat.le_refl _, fun _ i hi => by omega⟩
  | k + 1, h => by
    obtain ⟨h1, h2⟩ := nOf_sub k (fun i hi => h i (by omega))
    have hk := h k (by omega)
    unfold nOf
    by_cases hp : P k = true
    · have hq := hk hp
      rw [if_pos hp, if_pos hq]
      refine ⟨by omega, fun e i hi hqi => ?_⟩
      by_cases e' : i = k
      · rw [e']; exact hp
      · exact h2 (by omega) i (by omega) hqi
    · rw [if_neg hp]
      by_cases hq : Q k = true
      · rw [if_pos hq]; exact ⟨by omega, fun e => by omega⟩
      · rw [if_neg hq]
        refine ⟨by omega, fun e i hi hqi => ?_⟩
        by_cases e' : i = k
        · rw [e'] at hqi; exact (hq hqi).elim
        · exact h2 (by omega) i (by omega) hqi
/-- those that were served: of the open ones, and whoever is ahead of one of them is one -/
def Seg (L : Nat) (O : Nat → Bool) (r : Nat → Int) (P : Nat → Bool) : Prop := (∀ i, P i = true → i < L ∧ O i = true) ∧ ∀ i j, P j = true → i < L → O i = true → ahead r i j → P i = true
theorem Seg.uniq {L : Nat} {O : Nat → Bool} {r : Nat → Int} {P Q : Nat → Bool} (hP : Seg L O r P) (hQ : Seg L O r Q) (hn : nOf P L = nOf Q L) : P = Q := by
  have key : ∀ {P Q : Nat → Bool}, Seg L O r P → Seg L O r Q → nOf P L = nOf Q L → (∃ i, P i = true ∧ Q i = false) → False := by
    intro P Q hP hQ hn ⟨i, hi, hqi⟩
    have hsub : ∀ j, j < L → Q j = true → P j = true := by
      intro j _ hj
      by_cases e : i = j
      · subst e; rw [hqi] at hj; cases hj
      · rcases ahead_or r e with h | h
        · have := hQ.2 i j hj (hP.1 i hi).1 (hP.1 i hi).2 h
          rw [hqi] at this; cases this
        · exact hP.2 j i hi (hQ.1 j hj).1 (hQ.1 j hj).2 h
    have := (nOf_sub L hsub).2 hn.symm i (hP.1 i hi).1 hi
    rw [hqi] at this; cases this
  funext i
  cases hp : P i <;> cases hq : Q i
  · rfl
  · exact (key hQ hP hn.symm ⟨i, hq, hp⟩).elim
  · exact (key hP hQ hn ⟨i, hp, hq⟩).elim
  · rfl
def upB (P : Nat → Bool) (b : Nat) : Nat → Bool := fun i => P i || decide (i = b)
theorem upB_ne {P : Nat → Bool} {b i : Nat} (h : i ≠ b) : upB P b i = P i := by unfold upB; rw [decide_eq_false h, Bool.or_false]
theorem upB_self (P : Nat → Bool) (b : Nat) : upB P b b = true := by unfold upB; rw [decide_eq_true rfl, Bool.or_true]
theorem nOf_up {P : Nat → Bool} {b : Nat} (hb : P b = false) : ∀ k, nOf (upB P b) k = nOf P k + (if b < k then 1 else 0)
  | 0 => rfl
  | k + 1 => by
    unfold nOf
    rw [nOf_up hb k]
    by_cases e : k = b
    · subst e
      rw [upB_self, hb, if_neg (show ¬ k < k by omega), if_pos (show k < k + 1 by omega)]; simp
    · rw [upB_ne e]
      by_cases h : b < k
      · rw [if_pos h, if_pos (show b < k + 1 by omega)]; omega
      · rw [if_neg h, if_neg (show ¬ b < k + 1 by omega)]; omega
theorem Seg.up {L : Nat} {O : Nat → Bool} {r : Nat → Int} {P : Nat → Bool} (h : Seg L O r P) {b : Nat} (hb : b < L) (ho : O b = true) (hp : P b = false) (hm : ∀ i, i < L → O i = true → P i = false → i ≠ b → ahead r b i) : Seg L O r (upB P b) ∧ nOf (upB P b) L = nOf P L + 1 := by
  refine ⟨⟨fun i hi => ?_, fun i j hj hi hoi ha => ?_⟩, by rw [nOf_up hp, if_pos hb]⟩
  · by_cases e : i = b
    · subst e; exact ⟨hb, ho⟩
    · rw [upB_ne e] at hi; exact h.1 i hi
  · by_cases ei : i = b
    · subst ei; exact upB_self _ _
    rw [upB_ne ei]
    by_cases ej : j = b
    · subst ej
      cases hpi : P i
      · exact (ahead_not ha (hm i hi hoi hpi ei)).elim
      · rfl
    · rw [upB_ne ej] at hj
      exact h.2 i j hj hi hoi ha
theorem Seg.none (L : Nat) (O : Nat → Bool) (r : Nat → Int) : Seg L O r (fun _ => false) ∧ nOf (fun _ => false) L = 0 := by
  refine ⟨⟨fun i h => (by cases h), fun i j h => (by cases h)⟩, ?_⟩
  induction L with
  | zero => rfl
  | succ k ih => unfold nOf; rw [ih]; rfl
/-- the first of all that are asked for -/
theorem first_ex (r : Nat → Int) (C : Nat → Prop) : ∀ k, (∃ i, i < k ∧ C i) → ∃ b, b < k ∧ C b ∧ ∀ i, i < k → C i → i ≠ b → ahead r b i
  | 0, ⟨i, hi, _⟩ => by omega
  | k + 1, hx => by
    by_cases hk : ∃ i, i < k ∧ C i
    · obtain ⟨b, hb, hc, hm⟩ := first_ex r C k hk
      by_cases hck : C k
      · by_cases hlt : r b < r k
        · refine ⟨k, by omega, hck, fun i hi hci hne => ?_⟩
          by_cases e : i = b
          · subst e; exact .inl hlt
          · exact ahead_trans (.inl hlt) (hm i (by omega) hci e)
        · refine ⟨b, by omega, hc, fun i hi hci hne => ?_⟩
          by_cases e : i = k
          · subst e; unfold ahead; omega
          · exact hm i (by omega) hci hne
      · refine ⟨b, by omega, hc, fun i hi hci hne => ?_⟩
        by_cases e : i = k
        · subst e; exact (hck hci).elim
        · exact hm i (by omega) hci hne
    · obtain ⟨i, hi, hc⟩ := hx
      have e : i = k := by
        by_cases h : i < k
        · exact (hk ⟨i, h, hc⟩).elim
        · omega
      subst e
      exact ⟨i, by omega, hc, fun j hj hcj hne => (hk ⟨j, by omega, hcj⟩).elim⟩
theorem more_ex {L : Nat} {O P : Nat → Bool} (h : nOf P L < nOf O L) : ∃ i, i < L ∧ O i = true ∧ P i = false := by
  by_cases hx : ∃ i, i < L ∧ O i = true ∧ P i = false
  · exact hx
  · have := (nOf_sub (P := O) (Q := P) L (fun i hi ho => by
      cases hp : P i
      · exact (hx ⟨i, hi, ho, hp⟩).elim
      · rfl)).1
    omega
theorem seg_ex (L : Nat) (O : Nat → Bool) (r : Nat → Int) : ∀ t, t ≤ nOf O L → ∃ P, Seg L O r P ∧ nOf P L = t
  | 0, _ => ⟨_, Seg.none L O r⟩
  | t + 1, h => by
    obtain ⟨P, hP, hn⟩ := seg_ex L O r t (by omega)
    obtain ⟨i, hi, ho, hp⟩ := more_ex (O := O) (P := P) (L := L) (by omega)
    obtain ⟨b, hb, ⟨ho', hp'⟩, hm⟩ := first_ex r (fun i => O i = true ∧ P i = false) L ⟨i, hi, ho, hp⟩
    obtain ⟨h1, h2⟩ := hP.up hb ho' hp' (fun i hi ho hp hne => hm i hi ⟨ho, hp⟩ hne)
    exact ⟨_, h1, by rw [h2, hn]⟩
open Classical in
/-- those that are served of t that are left -/
noncomputable def segOf (L : Nat) (O : Nat → Bool) (r : Nat → Int) (t : Nat) : Nat → Bool := if h : ∃ P, Seg L O r P ∧ nOf P L = t then Classical.choose h else fun _ => false
theorem segOf_eq {L : Nat} {O : Nat → Bool} {r : Nat → Int} {P : Nat → Bool} {t : Nat} (h : Seg L O r P) (hn : nOf P L = t) : segOf L O r t = P := by
  have hx : ∃ P, Seg L O r P ∧ nOf P L = t := ⟨P, h, hn⟩
  unfold segOf
  rw [dif_pos hx]
  have hc := Classical.choose_spec hx
  exact hc.1.uniq h (by rw [hc.2, hn])
/-- a sum over the open ones -/
def onO (O : Nat → Bool) (f : Nat → Int) : Nat → Int := fun i => if O i = true then f i else 0
/-- of quotas: what each gets, its rest -/
def quo (m s : Int) (w : Nat → Int) : Nat → Int := fun i => m * w i / s
def rem (m s : Int) (w : Nat → Int) : Nat → Int := fun i => m * w i % s
theorem sum_parts {m s : Int} {w : Nat → Int} {O : Nat → Bool} (hs : 0 < s) : ∀ k, m * sumTo (onO O w) k = s * sumTo (onO O (quo m s w)) k + sumTo (onO O (rem m s w)) k ∧ 0 ≤ sumTo (onO O (rem m s w)) k ∧ sumTo (onO O (rem m s w)) k ≤ s * (nOf O k : Int)
  | 0 => by simp [sumTo, nOf]
  | k + 1 => by
    obtain ⟨h1, h2, h3⟩ := sum_parts (m := m) (w := w) (O := O) hs k
    unfold sumTo nOf onO
    by_cases ho : O k = true
    · rw [if_pos ho, if_pos ho, if_pos ho, if_pos ho]
      have e1 : m * w k = s * (m * w k / s) + m * w k % s := (Int.mul_ediv_add_emod (m * w k) s).symm
      have e2 := Int.emod_nonneg (m * w k) (show s ≠ 0 by omega)
      have e3 := Int.emod_lt_of_pos (m * w k) hs
      have e4 : s * ((nOf O k + 1 : Nat) : Int) = s * (nOf O k : Int) + s := by push_cast; rw [Int.mul_add, Int.mul_one]
      have e5 : m * (sumTo (onO O w) k + w k) = m * sumTo (onO O w) k + m * w k := Int.mul_add _ _ _
      have e6 : s * (sumTo (onO O (quo m s w)) k + m * w k / s) = s * sumTo (onO O (quo m s w)) k + s * (m * w k / s) := Int.mul_add _ _ _
      refine ⟨?_, ?_, ?_⟩
      · show m * (sumTo (onO O w) k + w k) = s * (sumTo (onO O (quo m s w)) k + m * w k / s) + (sumTo (onO O (rem m s w)) k + m * w k % s)
        rw [e5, e6]; omega
      · show 0 ≤ sumTo (onO O (rem m s w)) k + m * w k % s
        omega
      · show sumTo (onO O (rem m s w)) k + m * w k % s ≤ _
        rw [e4]; omega
    · rw [if_neg ho, if_neg ho, if_neg ho, if_neg ho]
      simp only [Int.add_zero, Nat.add_zero]
      exact ⟨h1, h2, h3⟩
/-- what is left when each has its quota, down: not more than there are open ones -/
theorem left_bd {m s : Int} {w : Nat → Int} {O : Nat → Bool} {L : Nat} (hs : 0 < s) (he : s = sumTo (onO O w) L) : 0 ≤ m - sumTo (onO O (quo m s w)) L ∧ m - sumTo (onO O (quo m s w)) L ≤ (nOf O L : Int) := by
  obtain ⟨h1, h2, h3⟩ := sum_parts (m := m) (w := w) (O := O) hs L
  rw [← he] at h1
  have e : s * (m - sumTo (onO O (quo m s w)) L) = sumTo (onO O (rem m s w)) L := by
    rw [Int.mul_sub, Int.mul_comm s m]; omega
  constructor
  · refine Int.not_lt.1 (fun h => ?_)
    have : s * (m - sumTo (onO O (quo m s w)) L) < s * 0 := Int.mul_lt_mul_of_pos_left h hs
    rw [Int.mul_zero] at this; omega
  · refine Int.not_lt.1 (fun h => ?_)
    have : s * (nOf O L : Int) < s * (m - sumTo (onO O (quo m s w)) L) := Int.mul_lt_mul_of_pos_left h hs
    omega
/-- what is left over -/
def leftT (m s : Int) (w : Nat → Int) (O : Nat → Bool) (L : Nat) : Nat := (m - sumTo (onO O (quo m s w)) L).toNat
/-- what each would get of m -/
noncomputable def wantsF (L : Nat) (m s : Int) (w : Nat → Int) (O : Nat → Bool) : Nat → Int := fun i => onO O (quo m s w) i + (if segOf L O (rem m s w) (leftT m s w O L) i = true then 1 else 0)
/-- who is open -/
def openF (L : Nat) (w c out : Nat → Int) : Nat → Bool := fun i => decide (i < L ∧ 0 < w i ∧ out i < c i)
def openS (L : Nat) (w c out : Nat → Int) : Int := sumTo (onO (openF L w c out) w) L
noncomputable def getsF (L : Nat) (n : Int) (w c out : Nat → Int) : Nat → Int := fun i =>
  if c i - out i < wantsF L n (openS L w c out) w (openF L w c out) i then c i - out i else wantsF L n (openS L w c out) w (openF L w c out) i
open Classical in
noncomputable def divF (L : Nat) (w c : Nat → Int) : Nat → Int → (Nat → Int) → (Nat → Int)
  | 0, _, out => out
  | f + 1, n, out => if 0 < n ∧ 0 < openS L w c out then divF L w c f (n - sumTo (getsF L n w c out) L) (fun i => out i + getsF L n w c out i) else out
theorem divF_end {L : Nat} {w c out : Nat → Int} {f : Nat} {n : Int} (h : ¬ (0 < n ∧ 0 < openS L w c out)) : divF L w c f n out = out := by
  cases f with
  | zero => rfl
  | succ f => unfold divF; rw [if_neg h]
theorem divF_go {L : Nat} {w c out : Nat → Int} {f : Nat} {n : Int} (h : 0 < n ∧ 0 < openS L w c out) : divF L w c (f + 1) n out = divF L w c f (n - sumTo (getsF L n w c out) L) (fun i => out i + getsF L n w c out i) := by
  show (if _ then _ else _) = _
  rw [if_pos h]
theorem sumTo_congr {f g : Nat → Int} : ∀ k, (∀ i, i < k → f i = g i) → sumTo f k = sumTo g k
  | 0, _ => rfl
  | k + 1, h => by unfold sumTo; rw [sumTo_congr k (fun i hi => h i (by omega)), h k (by omega)]
theorem sumTo_le {f g : Nat → Int} : ∀ k, (∀ i, i < k → f i ≤ g i) → sumTo f k ≤ sumTo g k
  | 0, _ => Int.le_refl _
  | k + 1, h => by
    have h1 := sumTo_le k (fun i hi => h i (by omega))
    have h2 := h k (by omega)
    unfold sumTo; omega
theorem sumTo_add (f g : Nat → Int) : ∀ k, sumTo (fun i => f i + g i) k = sumTo f k + sumTo g k
  | 0 => rfl
  | k + 1 => by unfold sumTo; rw [sumTo_add f g k]; omega
theorem sumTo_if (P : Nat → Bool) : ∀ k, sumTo (fun i => if P i = true then (1 : Int) else 0) k = (nOf P k : Int)
  | 0 => rfl
  | k + 1 => by
    unfold sumTo nOf
    rw [sumTo_if P k]
    split <;> push_cast <;> omega
theorem sumTo_pos {f : Nat → Int} : ∀ k, (∀ i, i < k → 0 ≤ f i) → 0 < sumTo f k → ∃ i, i < k ∧ 0 < f i
  | 0, _, h => by simp [sumTo] at h
  | k + 1, hf, h => by
    by_cases hk : 0 < f k
    · exact ⟨k, by omega, hk⟩
    · have := hf k (by omega)
      unfold sumTo at h
      obtain ⟨i, hi, hp⟩ := sumTo_pos k (fun i hi => hf i (by omega)) (by omega)
      exact ⟨i, by omega, hp⟩
theorem sumTo_at {f : Nat → Int} : ∀ k, (∀ i, i < k → 0 ≤ f i) → ∀ j, j < k → f j ≤ sumTo f k
  | 0, _, j, hj => by omega
  | k + 1, hf, j, hj => by
    have h0 : 0 ≤ sumTo f k := by
      have := sumTo_le (f := fun _ => 0) (g := f) k (fun i hi => hf i (by omega))
      have e : sumTo (fun _ => 0) k = 0 := by
        clear this hf hj
        induction k with
        | zero => rfl
        | succ k ih => unfold sumTo; rw [ih]; rfl
      omega
    have hk := hf k (by omega)
    unfold sumTo
    by_cases e : j = k
    · subst e; omega
    · have := sumTo_at k (fun i hi => hf i (by omega)) j (by omega)
      omega
/-- what is wanted is m in all -/
theorem wants_sum {L : Nat} {m s : Int} {w : Nat → Int} {O : Nat → Bool} (hs : 0 < s) (he : s = sumTo (onO O w) L) : sumTo (wantsF L m s w O) L = m := by
  obtain ⟨h1, h2⟩ := left_bd (m := m) hs he
  obtain ⟨P, hP, hn⟩ := seg_ex L O (rem m s w) (leftT m s w O L) (by unfold leftT; omega)
  unfold wantsF
  rw [sumTo_add, segOf_eq hP hn, sumTo_if, hn]
  unfold leftT
  omega
theorem wants_bd {L : Nat} {m s : Int} {w : Nat → Int} {O : Nat → Bool} (hm : 0 ≤ m) (hw : ∀ i, 0 ≤ w i) (hs : 0 < s) (he : s = sumTo (onO O w) L) (i : Nat) : 0 ≤ wantsF L m s w O i ∧ (i < L → wantsF L m s w O i ≤ m) ∧ (O i = false → wantsF L m s w O i = 0) := by
  have h0 : ∀ i, 0 ≤ wantsF L m s w O i := fun i => by
    unfold wantsF onO quo
    have := Int.ediv_nonneg (Int.mul_nonneg hm (hw i)) (show 0 ≤ s by omega)
    split <;> split <;> omega
  refine ⟨h0 i, fun hi => ?_, fun ho => ?_⟩
  · have := sumTo_at L (fun i _ => h0 i) i hi
    rw [wants_sum hs he] at this
    exact this
  · obtain ⟨h1, h2⟩ := left_bd (m := m) hs he
    obtain ⟨P, hP, hn⟩ := seg_ex L O (rem m s w) (leftT m s w O L) (by unfold leftT; omega)
    unfold wantsF onO
    rw [segOf_eq hP hn, if_neg (by rw [ho]; exact Bool.false_ne_true)]
    have : P i ≠ true := fun h => by have := (hP.1 i h).2; rw [ho] at this; cases this
    rw [if_neg this]; rfl
theorem sumTo_nn {f : Nat → Int} {k : Nat} (h : ∀ i, i < k → 0 ≤ f i) : 0 ≤ sumTo f k := by
  induction k with
  | zero => exact Int.le_refl _
  | succ k ih =>
    have h1 := ih (fun i hi => h i (by omega))
    have h2 := h k (by omega)
    unfold sumTo; omega
/-- a round: none gets below 0, none more than its cap leaves; somebody gets something, together not more than there is -/
theorem gets_all {L : Nat} {n : Int} {w c out : Nat → Int} (hn : 0 < n) (hw : ∀ i, 0 ≤ w i) (ho : ∀ i, i < L → 0 ≤ out i ∧ out i ≤ c i) (hs : 0 < openS L w c out) : (∀ i, i < L → 0 ≤ getsF L n w c out i ∧ getsF L n w c out i ≤ c i - out i) ∧ 1 ≤ sumTo (getsF L n w c out) L ∧ sumTo (getsF L n w c out) L ≤ n := by
  have hb := fun i => wants_bd (L := L) (m := n) (O := openF L w c out) (w := w) (by omega) hw hs rfl i
  have h1 : ∀ i, i < L → 0 ≤ getsF L n w c out i ∧ getsF L n w c out i ≤ c i - out i := fun i hi => by
    have := hb i
    have := ho i hi
    unfold getsF
    split <;> omega
  refine ⟨h1, ?_, ?_⟩
  · have hsum := wants_sum (m := n) (w := w) (O := openF L w c out) (L := L) hs rfl
    obtain ⟨i, hi, hp⟩ := sumTo_pos (f := wantsF L n (openS L w c out) w (openF L w c out)) L (fun i _ => (hb i).1) (by have e : sumTo (wantsF L n (openS L w c out) w (openF L w c out)) L = n := hsum; omega)
    have hoi : openF L w c out i = true := by
      cases h : openF L w c out i
      · have := (hb i).2.2 h
        have hp' : 0 < wantsF L n (openS L w c out) w (openF L w c out) i := hp
        omega
      · rfl
    have hoc : out i < c i := by
      unfold openF at hoi
      rw [decide_eq_true_eq] at hoi
      exact hoi.2.2
    have hg : 1 ≤ getsF L n w c out i := by
      unfold getsF
      have hp' : 0 < wantsF L n (openS L w c out) w (openF L w c out) i := hp
      split <;> omega
    have := sumTo_at L (fun j hj => (h1 j hj).1) i hi
    omega
  · have hle := sumTo_le (f := getsF L n w c out) (g := wantsF L n (openS L w c out) w (openF L w c out)) L (fun i _ => by unfold getsF; split <;> omega)
    have hsum := wants_sum (m := n) (w := w) (O := openF L w c out) (L := L) hs rfl
    have e : sumTo (wantsF L n (openS L w c out) w (openF L w c out)) L = n := hsum
    omega
theorem onO_nn {L : Nat} {w c out : Nat → Int} (hw : ∀ i, 0 ≤ w i) : 0 ≤ openS L w c out := sumTo_nn (fun i _ => by unfold onO; split <;> first | exact hw i | exact Int.le_refl _)
/-- nobody has less than nothing, nobody more than its cap -/
theorem divF_bd {L : Nat} {w c : Nat → Int} (hw : ∀ i, 0 ≤ w i) : ∀ (f : Nat) (n : Int) (out : Nat → Int), (∀ i, i < L → 0 ≤ out i ∧ out i ≤ c i) → ∀ i, i < L → 0 ≤ divF L w c f n out i ∧ divF L w c f n out i ≤ c i
  | 0, n, out, h, i, hi => h i hi
  | f + 1, n, out, h, i, hi => by
    by_cases hg : 0 < n ∧ 0 < openS L w c out
    · rw [divF_go hg]
      obtain ⟨h1, -⟩ := gets_all hg.1 hw h hg.2
      exact divF_bd hw f _ _ (fun j hj => by
        have := h1 j hj
        have := h j hj
        omega) i hi
    · rw [divF_end hg]; exact h i hi
end Go.Proofs.Ytdnodaoeflbfkaa
