/- Data as cells: a row of plain texts; rows compared one by one. -/
import Derived.Test.YtdnodaoeflbfkaaU2
namespace Go.Proofs.Ytdnodaoeflbfkaa
open Go.RowKit
set_option linter.unusedVariables false

/-- the texts of a row of plain texts -/
def strL : UD → List ByteArray
  | .nil => []
  | .p (.string s) r => s :: strL r
  | .p _ r => strL r
  | .l _ _ _ r => strL r
theorem strL_get : ∀ (d : UD) (i : Nat), tyU d (uE 0) i → (strL d).length = d.len ∧ ∀ j (h : j < (strL d).length), d.at? j = some (.p (.string ((strL d)[j]'h))) ∧ ((strL d)[j]'h).size ≤ maxLen
  | .nil, i, _ => ⟨rfl, fun j h => by cases h⟩
  | .p v r, i, ⟨⟨f, hf, hv⟩, h2⟩ => by
    have hf' : f = .s := by
      have : (i % (uE 0).length) = 0 := by show i % 1 = 0; omega
      rw [this] at hf
      exact (Option.some.inj hf).symm
    subst hf'
    obtain ⟨s, rfl, hs⟩ := hv
    obtain ⟨h3, h4⟩ := strL_get r (i + 1) h2
    refine ⟨by show (strL r).length + 1 = _; rw [h3, UD.len_p], fun j h => ?_⟩
    cases j with
    | zero => exact ⟨rfl, hs⟩
    | succ j => exact h4 j (by simpa [strL] using h)
  | .l k n cs r, i, ⟨⟨t, hf, _⟩, _⟩ => by
    have : (i % (uE 0).length) = 0 := by show i % 1 = 0; omega
    rw [this] at hf
    cases hf
theorem UD.len_nil {d : UD} (h : d.len = 0) : d = .nil := by
  cases d with
  | nil => rfl
  | p v r => rw [UD.len_p] at h; omega
  | l k n cs r => rw [UD.len_l] at h; omega
theorem strL_inj : ∀ (a b : UD) (i j : Nat), tyU a (uE 0) i → tyU b (uE 0) j → strL a = strL b → a = b
  | .nil, .nil, _, _, _, _, _ => rfl
  | .nil, b, i, j, ha, hb, h => by
    have h1 := (strL_get b j hb).1
    rw [← h] at h1
    exact (UD.len_nil h1.symm).symm
  | a, .nil, i, j, ha, hb, h => by
    have h1 := (strL_get a i ha).1
    rw [h] at h1
    exact UD.len_nil h1.symm
  | .p v r, .p v' r', i, j, ha, hb, h => by
    have g1 := (strL_get _ i ha).2 0
    have g2 := (strL_get _ j hb).2 0
    obtain ⟨⟨f, hf, hv⟩, h2⟩ := ha
    obtain ⟨⟨f', hf', hv'⟩, h2'⟩ := hb
    have e1 : f = .s := by
      have : (i % (uE 0).length) = 0 := by show i % 1 = 0; omega
      rw [this] at hf; exact (Option.some.inj hf).symm
    have e2 : f' = .s := by
      have : (j % (uE 0).length) = 0 := by show j % 1 = 0; omega
      rw [this] at hf'; exact (Option.some.inj hf').symm
    subst e1 e2
    obtain ⟨s, rfl, _⟩ := hv
    obtain ⟨s', rfl, _⟩ := hv'
    obtain ⟨rfl, h3⟩ := List.cons.inj (show s :: strL r = s' :: strL r' from h)
    rw [strL_inj r r' (i + 1) (j + 1) h2 h2' h3]
  | .l k n cs r, _, i, _, ha, _, _ => by
    obtain ⟨⟨t, hf, _⟩, _⟩ := ha
    have : (i % (uE 0).length) = 0 := by show i % 1 = 0; omega
    rw [this] at hf
    cases hf
  | _, .l k n cs r, _, j, _, hb, _ => by
    obtain ⟨⟨t, hf, _⟩, _⟩ := hb
    have : (j % (uE 0).length) = 0 := by show j % 1 = 0; omega
    rw [this] at hf
    cases hf
theorem strL_len {n : Nat} {c : UD} (h : tyS 1 n c 0) : (strL c).length = n := by rw [(strL_get c 0 h.2.2.2.2).1, h.2.2.2.1, Nat.mul_one]
theorem strL_ext {n : Nat} {c c' : UD} (h : tyS 1 n c 0) (h' : tyS 1 n c' 0) (he : ∀ j (g : j < (strL c).length) (g' : j < (strL c').length), (strL c)[j]'g = (strL c')[j]'g') : c = c' :=
  strL_inj c c' 0 0 h.2.2.2.2 h'.2.2.2.2 (List.ext_getElem (by rw [strL_len h, strL_len h']) he)
/-- a slice's cells are alike where its rows are -/
theorem rows_ext {k n : Nat} {a b : UD} (ha : a.len = n * k) (hb : b.len = n * k) (h : ∀ i, i < n → rowU a k i = rowU b k i) : a = b := by
  have key : ∀ m, m ≤ n → a.dropN ((n - m) * k) = b.dropN ((n - m) * k) := by
    intro m
    induction m with
    | zero => intro _; rw [Nat.sub_zero, ← ha, UD.dropN_all, ha, ← hb, UD.dropN_all]
    | succ m ih =>
      intro hm
      rw [UD.drop_row a, UD.drop_row b, h _ (by omega), show n - (m + 1) + 1 = n - m by omega, ih (by omega)]
  have := key n (Nat.le_refl _)
  rw [Nat.sub_self, Nat.zero_mul, UD.dropN_zero, UD.dropN_zero] at this
  exact this
theorem tyS.ext {k n t : Nat} {a b : UD} (ha : tyS k n a t) (hb : tyS k n b t) (h : ∀ i, i < n → rowU a k i = rowU b k i) : a = b := rows_ext ha.2.2.2.1 hb.2.2.2.1 h
theorem bool_iff (p : Prop) : ∃ b : Bool, (b = true ↔ p) := by
  by_cases h : p
  · exact ⟨true, by simp [h]⟩
  · exact ⟨false, by simp [h]⟩
/-- what is true at some measure is so at a least one -/
theorem least_of {α : Type} (R : α → Nat → Prop) : ∃ μ : α → Nat, ∀ a m, R a m → R a (μ a) ∧ μ a ≤ m := by
  have one : ∀ a, ∃ k, ∀ m, R a m → R a k ∧ k ≤ m := by
    intro a
    by_cases h : ∃ m, R a m
    · obtain ⟨m, hm⟩ := h
      induction m using Nat.strongRecOn with
      | ind m ih =>
        by_cases h' : ∃ k, k < m ∧ R a k
        · obtain ⟨k, hk, hr⟩ := h'; exact ih k hk hr
        · refine ⟨m, fun q hq => ⟨hm, ?_⟩⟩
          rcases Nat.lt_or_ge q m with hlt | hge
          · exact (h' ⟨q, hlt, hq⟩).elim
          · exact hge
    · exact ⟨0, fun m hm => (h ⟨m, hm⟩).elim⟩
  exact ⟨fun a => Classical.choose (one a), fun a => Classical.choose_spec (one a)⟩
end Go.Proofs.Ytdnodaoeflbfkaa
