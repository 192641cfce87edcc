import Derived.Test.YtlbpfcchaobgjaaDoorNames
import Derived.Lib.ItoaNum
import Derived.Lib.Strings
namespace Go.Proofs.YtlbpfcchaobgjaaDoor
set_option linter.unusedVariables false
/-! amounts as texts, plain -/
def isD (c : UInt8) : Bool := decide (48 ≤ c.toNat ∧ c.toNat ≤ 57)
def dstep (n : Nat) (c : UInt8) : Nat := n * 10 + (c.toNat - 48)
def dval (L : List UInt8) : Nat := L.foldl dstep 0
theorem dval_snoc (L : List UInt8) (c : UInt8) : dval (L ++ [c]) = dval L * 10 + (c.toNat - 48) := by
  unfold dval; rw [List.foldl_append]; rfl
theorem dfold_lt : ∀ (L : List UInt8) (a : Nat), (∀ c ∈ L, isD c = true) → L.foldl dstep a < (a + 1) * 10 ^ L.length
  | [], a, _ => by simp
  | c :: L, a, h => by
    have h2 := h c (by simp)
    unfold isD at h2
    simp only [decide_eq_true_eq] at h2
    have ih := dfold_lt L (dstep a c) (fun x hx => h x (by simp [hx]))
    rw [List.foldl_cons, List.length_cons, Nat.pow_succ, Nat.mul_comm (10 ^ L.length) 10, ← Nat.mul_assoc]
    exact Nat.lt_of_lt_of_le ih (Nat.mul_le_mul_right _ (by unfold dstep; omega))
theorem dval_lt (L : List UInt8) (h : ∀ c ∈ L, isD c = true) : dval L < 10 ^ L.length := by
  have := dfold_lt L 0 h
  rw [Nat.zero_add, Nat.one_mul] at this
  exact this
theorem head_app {A B : List UInt8} (h : A ≠ []) : (A ++ B).head? = A.head? := by
  cases A with
  | nil => exact absurd rfl h
  | cons x A => rfl
def numB (D : List UInt8) : Bool := decide (1 ≤ D.length ∧ D.length ≤ 16) && (decide (D.length ≤ 1) || D.head? != some 48) && D.all isD
def amtU : List (List UInt8 × Nat) := [([71, 105], 1073741824000), ([77, 105], 1048576000), ([75, 105], 1024000), ([], 1000), ([109], 1), ([107], 1000000), ([77], 1000000000), ([71], 1000000000000)]
def amtIn (n z : Nat) : Nat × Bool := if n > 1000000000000000 / z then (0, false) else (n * z, true)
/-- as the program looks: the first unit behind which a number is left -/
def amtTry (L : List UInt8) : List (List UInt8 × Nat) → Nat × Bool
  | [] => (0, false)
  | (u, z) :: r => if Lib.hasSuffix L u = true ∧ numB (Lib.trimSuffix L u) = true then amtIn (dval (Lib.trimSuffix L u)) z else amtTry L r
/-- how many digits stand ahead (17 at most) -/
def amtK (L : List UInt8) : Nat := ((L.take 17).takeWhile isD).length
def amtV : List (List UInt8 × Nat) := [([109], 1), ([], 1000), ([107], 1000000), ([77], 1000000000), ([71], 1000000000000), ([75, 105], 1024000), ([77, 105], 1048576000), ([71, 105], 1073741824000)]
def amtLook (R : List UInt8) (n : Nat) : List (List UInt8 × Nat) → Nat × Bool
  | [] => (0, false)
  | (u, z) :: r => if R = u then amtIn n z else amtLook R n r
def amtOkK (L : List UInt8) (k : Nat) : Bool := decide (1 ≤ k ∧ k ≤ 16) && (decide (k ≤ 1) || L.head? != some 48)
def amtR (L : List UInt8) : Nat × Bool := if amtOkK L (amtK L) = true then amtLook (L.drop (amtK L)) (dval (L.take (amtK L))) amtV else (0, false)

theorem takeWhile_take (L : List UInt8) : L.take (amtK L) = (L.take 17).takeWhile isD := by
  have h : (L.take 17).takeWhile isD <+: L := (List.takeWhile_prefix _).trans (List.take_prefix _ _)
  unfold amtK
  exact (List.prefix_iff_eq_take.1 h).symm
theorem amtK_digits (L : List UInt8) : (L.take (amtK L)).all isD = true := by
  rw [takeWhile_take]; exact List.all_takeWhile
theorem amtK_len (L : List UInt8) : (L.take (amtK L)).length = amtK L := by
  rw [takeWhile_take]; rfl
theorem takeWhile_app {p : UInt8 → Bool} : ∀ (D E : List UInt8), D.all p = true → (∀ c, E.head? = some c → p c = false) → (D ++ E).takeWhile p = D
  | [], [], _, _ => rfl
  | [], e :: E, _, h => by simp [h e rfl]
  | d :: D, E, hD, h => by
    simp only [List.all_cons, Bool.and_eq_true] at hD
    rw [List.cons_append, List.takeWhile_cons, hD.1]
    simp [takeWhile_app D E hD.2 h]
theorem amtK_of {D u : List UInt8} (hD : D.all isD = true) (hl : D.length ≤ 16) (hu : ∀ c, u.head? = some c → isD c = false) : amtK (D ++ u) = D.length := by
  unfold amtK
  rw [List.take_append, List.take_of_length_le (by omega), takeWhile_app D _ hD]
  intro c hc
  apply hu
  cases u with
  | nil => simp at hc
  | cons x u =>
    have : 17 - D.length = (16 - D.length) + 1 := by omega
    rw [this] at hc
    simpa using hc
theorem suffix_split {L u : List UInt8} (h : Lib.hasSuffix L u = true) : L = Lib.trimSuffix L u ++ u := by
  unfold Lib.trimSuffix
  rw [if_pos h]
  unfold Lib.hasSuffix at h
  rw [List.isSuffixOf_iff_suffix] at h
  obtain ⟨D, rfl⟩ := h
  simp
theorem head_take {L : List UInt8} {k : Nat} (h : 1 ≤ k) : (L.take k).head? = L.head? := by
  cases L with
  | nil => simp
  | cons x L => obtain ⟨j, rfl⟩ : ∃ j, k = j + 1 := ⟨k - 1, by omega⟩; rfl
theorem unit_iff {L u : List UInt8} (hu : ∀ c, u.head? = some c → isD c = false) :
    (Lib.hasSuffix L u = true ∧ numB (Lib.trimSuffix L u) = true) ↔ (amtOkK L (amtK L) = true ∧ L.drop (amtK L) = u) := by
  constructor
  · rintro ⟨h1, h2⟩
    have hs := suffix_split h1
    generalize Lib.trimSuffix L u = D at *
    subst hs
    unfold numB at h2
    simp only [Bool.and_eq_true, Bool.or_eq_true, decide_eq_true_eq] at h2
    obtain ⟨⟨⟨h3, h4⟩, h5⟩, h6⟩ := h2
    rw [amtK_of h6 h4 hu]
    refine ⟨?_, by simp⟩
    unfold amtOkK
    simp only [Bool.and_eq_true, Bool.or_eq_true, decide_eq_true_eq]
    refine ⟨⟨h3, h4⟩, ?_⟩
    rcases h5 with h5 | h5
    · exact .inl h5
    · right
      cases D with
      | nil => simp at h3
      | cons x D => simpa using h5
  · rintro ⟨h1, h2⟩
    have hs : L = L.take (amtK L) ++ u := by rw [← h2, List.take_append_drop]
    have hd := amtK_digits L
    have hk := amtK_len L
    unfold amtOkK at h1
    simp only [Bool.and_eq_true, Bool.or_eq_true, decide_eq_true_eq] at h1
    have hh := head_take (L := L) h1.1.1
    have hsuf : Lib.hasSuffix L u = true := by
      unfold Lib.hasSuffix
      rw [List.isSuffixOf_iff_suffix]
      exact ⟨_, hs.symm⟩
    refine ⟨hsuf, ?_⟩
    have ht : Lib.trimSuffix L u = L.take (amtK L) := by
      have := suffix_split hsuf
      have e := this.symm.trans hs
      exact List.append_cancel_right e
    rw [ht]
    unfold numB
    rw [hk, hh, hd]
    simp only [Bool.and_eq_true, Bool.or_eq_true, decide_eq_true_eq, and_true]
    exact h1
theorem unit_trim {L u : List UInt8} (hu : ∀ c, u.head? = some c → isD c = false) (h : amtOkK L (amtK L) = true ∧ L.drop (amtK L) = u) : Lib.trimSuffix L u = L.take (amtK L) := by
  have h1 := (unit_iff hu).2 h
  have hs : L = L.take (amtK L) ++ u := by rw [← h.2, List.take_append_drop]
  exact List.append_cancel_right ((suffix_split h1.1).symm.trans hs)
theorem amtTry_at (L : List UInt8) : ∀ (U : List (List UInt8 × Nat)), (∀ x ∈ U, ∀ c, x.1.head? = some c → isD c = false) →
    amtTry L U = if amtOkK L (amtK L) = true then amtLook (L.drop (amtK L)) (dval (L.take (amtK L))) U else (0, false)
  | [], _ => by simp [amtTry, amtLook]
  | (u, z) :: r, h => by
    have hu := h (u, z) (by simp)
    have ih := amtTry_at L r (fun x hx => h x (by simp [hx]))
    unfold amtTry
    by_cases hc : amtOkK L (amtK L) = true ∧ L.drop (amtK L) = u
    · rw [if_pos ((unit_iff hu).2 hc), unit_trim hu hc, if_pos hc.1]
      unfold amtLook
      rw [if_pos hc.2]
    · rw [if_neg (fun q => hc ((unit_iff hu).1 q)), ih]
      by_cases ho : amtOkK L (amtK L) = true
      · rw [if_pos ho, if_pos ho]
        conv => rhs; unfold amtLook
        rw [if_neg (fun q => hc ⟨ho, q⟩)]
      · rw [if_neg ho, if_neg ho]
theorem amtLook_perm (R : List UInt8) (n : Nat) : amtLook R n amtU = amtLook R n amtV := by
  unfold amtU amtV
  simp only [amtLook]
  generalize amtIn n 1073741824000 = a1
  generalize amtIn n 1048576000 = a2
  generalize amtIn n 1024000 = a3
  generalize amtIn n 1000000000000 = a4
  generalize amtIn n 1000000000 = a5
  generalize amtIn n 1000000 = a6
  generalize amtIn n 1000 = a7
  generalize amtIn n 1 = a8
  by_cases h0 : R = [71, 105]
  · subst h0; simp (decide := true) only [if_true, if_false]
  by_cases h1 : R = [77, 105]
  · subst h1; simp (decide := true) only [if_true, if_false]
  by_cases h2 : R = [75, 105]
  · subst h2; simp (decide := true) only [if_true, if_false]
  by_cases h3 : R = []
  · subst h3; simp (decide := true) only [if_true, if_false]
  by_cases h4 : R = [109]
  · subst h4; simp (decide := true) only [if_true, if_false]
  by_cases h5 : R = [107]
  · subst h5; simp (decide := true) only [if_true, if_false]
  by_cases h6 : R = [77]
  · subst h6; simp (decide := true) only [if_true, if_false]
  by_cases h7 : R = [71]
  · subst h7; simp (decide := true) only [if_true, if_false]
  rw [if_neg h0, if_neg h1, if_neg h2, if_neg h3, if_neg h4, if_neg h5, if_neg h6, if_neg h7]
  rw [if_neg h4, if_neg h3, if_neg h5, if_neg h6, if_neg h7, if_neg h2, if_neg h1, if_neg h0]
theorem amt_same (L : List UInt8) : amtTry L amtU = amtR L := by
  unfold amtR
  rw [amtTry_at L amtU (by decide), amtLook_perm]
/-! the text -/
def amtL (n : Nat) : List UInt8 :=
  if n = 0 then [48] else if n % 1073741824000 = 0 then Lib.decDigits (n / 1073741824000) ++ [71, 105] else if n % 1048576000 = 0 then Lib.decDigits (n / 1048576000) ++ [77, 105]
  else if n % 1024000 = 0 then Lib.decDigits (n / 1024000) ++ [75, 105] else if n % 1000 = 0 then Lib.decDigits (n / 1000) else Lib.decDigits n ++ [109]
theorem dig_is {i : Nat} (h : i < 10) : isD (UInt8.ofNat (48 + i)) = true ∧ (UInt8.ofNat (48 + i)).toNat - 48 = i := by
  have e : (UInt8.ofNat (48 + i)).toNat = 48 + i := by rw [UInt8.toNat_ofNat']; omega
  unfold isD
  rw [e]
  exact ⟨decide_eq_true (by omega), by omega⟩
theorem decDigits_ok (n : Nat) : (Lib.decDigits n).all isD = true ∧ dval (Lib.decDigits n) = n ∧ ((Lib.decDigits n).length ≤ 1 ∨ (Lib.decDigits n).head? ≠ some 48) ∧ (0 < n → (Lib.decDigits n).head? ≠ some 48) := by
  induction n using Nat.strongRecOn with
  | _ n ih =>
    rw [Lib.decDigits]
    split
    · rename_i h
      have d := dig_is h
      refine ⟨by simp only [List.all_cons, List.all_nil, Bool.and_true]; exact d.1, by unfold dval; simp only [List.foldl, dstep]; omega, by simp, fun hp => ?_⟩
      simp only [List.head?, ne_eq, Option.some.injEq]
      intro e
      have := congrArg UInt8.toNat e
      rw [UInt8.toNat_ofNat'] at this
      simp at this
      omega
    · rename_i h
      obtain ⟨a, b, c, d⟩ := ih (n / 10) (by omega)
      have e := dig_is (show n % 10 < 10 by omega)
      have hne : (Lib.decDigits (n / 10)) ≠ [] := by
        intro q
        have := Lib.decDigits_length (n / 10)
        have := Lib.nDigits_pos (n / 10)
        rw [q] at *
        simp at *
        omega
      have hh : (Lib.decDigits (n / 10) ++ [UInt8.ofNat (48 + n % 10)]).head? ≠ some 48 := by
        rw [head_app hne]
        exact d (by omega)
      refine ⟨by rw [List.all_append, a]; simp only [List.all_cons, List.all_nil, Bool.and_true, Bool.true_and]; exact e.1, by rw [dval_snoc, b, e.2]; omega, .inr hh, fun _ => hh⟩
theorem nDigits_le {n : Nat} (h : n < 10 ^ 16) : Lib.nDigits n ≤ 16 := by
  apply Classical.byContradiction
  intro hk
  have h1 : ∀ m : Nat, 0 < m → 10 ^ (Lib.nDigits m - 1) ≤ m := by
    intro m
    induction m using Nat.strongRecOn with
    | _ m ih =>
      intro hm
      by_cases hs : m < 10
      · rw [Lib.nDigits_small hs]; exact hm
      · rw [Lib.nDigits_big hs]
        have := ih (m / 10) (by omega) (by omega)
        have hp := Lib.nDigits_pos (m / 10)
        obtain ⟨j, hj⟩ : ∃ j, Lib.nDigits (m / 10) = j + 1 := ⟨_, (Nat.sub_add_cancel hp).symm⟩
        rw [hj] at this ⊢
        simp only [Nat.add_sub_cancel] at this ⊢
        rw [Nat.pow_succ]
        omega
  by_cases h0 : 0 < n
  · have h2 := h1 n h0
    have h3 : 10 ^ 16 ≤ 10 ^ (Lib.nDigits n - 1) := Nat.pow_le_pow_right (by decide) (by omega)
    omega
  · have : n = 0 := by omega
    subst this
    rw [Lib.nDigits_small (by decide)] at hk
    omega
/-- a numeral with a unit behind it is read -/
theorem amtR_app {m z : Nat} {u : List UInt8} (hm : m < 10 ^ 16) (hu : ∀ c, u.head? = some c → isD c = false) (hl : ∀ n, amtLook u n amtV = amtIn n z) : amtR (Lib.decDigits m ++ u) = amtIn m z := by
  obtain ⟨a, b, c, d⟩ := decDigits_ok m
  have hlen := Lib.decDigits_length m
  have hle := nDigits_le hm
  have hp := Lib.nDigits_pos m
  have hk : amtK (Lib.decDigits m ++ u) = (Lib.decDigits m).length := amtK_of a (by omega) hu
  unfold amtR
  rw [hk]
  have hok : amtOkK (Lib.decDigits m ++ u) (Lib.decDigits m).length = true := by
    unfold amtOkK
    simp only [Bool.and_eq_true, Bool.or_eq_true, decide_eq_true_eq, bne_iff_ne, ne_eq]
    refine ⟨by omega, ?_⟩
    rcases c with c | c
    · exact .inl c
    · right
      rw [head_app (by intro q; rw [q] at hlen; simp at hlen; omega)]
      exact c
  rw [if_pos hok, List.drop_left, List.take_left, b, hl]
theorem amt_back {n : Nat} (hn : n ≤ 1000000000000000) : amtR (amtL n) = (n, true) := by
  have fin : ∀ z : Nat, 0 < z → n % z = 0 → amtIn (n / z) z = (n, true) := by
    intro z hz hm
    unfold amtIn
    rw [if_neg (by have := Nat.div_le_div_right (c := z) hn; omega), Nat.div_mul_cancel (Nat.dvd_of_mod_eq_zero hm)]
  have big : ∀ z : Nat, n / z < 10 ^ 16 := fun z => Nat.lt_of_le_of_lt (Nat.div_le_self _ _) (by omega)
  unfold amtL
  split
  · rename_i h; subst h; decide
  split
  · rename_i h
    rw [amtR_app (z := 1073741824000) (big _) (by decide) (fun n => by simp [amtLook, amtV])]
    exact fin _ (by decide) h
  split
  · rename_i h
    rw [amtR_app (z := 1048576000) (big _) (by decide) (fun n => by simp [amtLook, amtV])]
    exact fin _ (by decide) h
  split
  · rename_i h
    rw [amtR_app (z := 1024000) (big _) (by decide) (fun n => by simp [amtLook, amtV])]
    exact fin _ (by decide) h
  split
  · rename_i h
    have := amtR_app (m := n / 1000) (z := 1000) (u := []) (big _) (by decide) (fun n => by simp [amtLook, amtV])
    rw [List.append_nil] at this
    rw [this]
    exact fin _ (by decide) h
  · rw [amtR_app (m := n) (z := 1) (by omega) (by decide) (fun n => by simp [amtLook, amtV])]
    unfold amtIn
    rw [if_neg (by omega), Nat.mul_one]
end Go.Proofs.YtlbpfcchaobgjaaDoor
