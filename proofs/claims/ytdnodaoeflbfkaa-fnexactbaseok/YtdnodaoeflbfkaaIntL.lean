/- Data as cells: rows of plain numbers. -/
import Derived.Test.YtdnodaoeflbfkaaStrL
import Derived.Test.YtdnodaoeflbfkaaChecked
namespace Go.Proofs.Ytdnodaoeflbfkaa
open Go.RowKit
set_option linter.unusedVariables false

/-- the numbers of a row of plain numbers -/
def intL : UD → List Int
  | .nil => []
  | .p (.int _ z) r => z :: intL r
  | .p _ r => intL r
  | .l _ _ _ r => intL r
theorem intL_get : ∀ (d : UD) (i : Nat), tyU d (uE 1) i → (intL d).length = d.len ∧ ∀ j (h : j < (intL d).length), d.at? j = some (.p (.int .i64 ((intL d)[j]'h))) ∧ inK .i64 ((intL d)[j]'h)
  | .nil, i, _ => ⟨rfl, fun j h => by cases h⟩
  | .p v r, i, ⟨⟨f, hf, hv⟩, h2⟩ => by
    have hf' : f = .i .i64 := by
      have : (i % (uE 1).length) = 0 := by show i % 1 = 0; omega
      rw [this] at hf
      exact (Option.some.inj hf).symm
    subst hf'
    obtain ⟨z, rfl, hz⟩ := hv
    obtain ⟨h3, h4⟩ := intL_get r (i + 1) h2
    refine ⟨by show (intL r).length + 1 = _; rw [h3, UD.len_p], fun j h => ?_⟩
    cases j with
    | zero => exact ⟨rfl, hz⟩
    | succ j => exact h4 j (by simpa [intL] using h)
  | .l k n cs r, i, ⟨⟨t, hf, _⟩, _⟩ => by
    have : (i % (uE 1).length) = 0 := by show i % 1 = 0; omega
    rw [this] at hf
    cases hf
theorem intL_inj : ∀ (a b : UD) (i j : Nat), tyU a (uE 1) i → tyU b (uE 1) j → intL a = intL b → a = b
  | .nil, .nil, _, _, _, _, _ => rfl
  | .nil, b, i, j, ha, hb, h => by
    have h1 := (intL_get b j hb).1
    rw [← h] at h1
    exact (UD.len_nil h1.symm).symm
  | a, .nil, i, j, ha, hb, h => by
    have h1 := (intL_get a i ha).1
    rw [h] at h1
    exact UD.len_nil h1.symm
  | .p v r, .p v' r', i, j, ha, hb, h => by
    obtain ⟨⟨f, hf, hv⟩, h2⟩ := ha
    obtain ⟨⟨f', hf', hv'⟩, h2'⟩ := hb
    have e1 : f = .i .i64 := by
      have : (i % (uE 1).length) = 0 := by show i % 1 = 0; omega
      rw [this] at hf; exact (Option.some.inj hf).symm
    have e2 : f' = .i .i64 := by
      have : (j % (uE 1).length) = 0 := by show j % 1 = 0; omega
      rw [this] at hf'; exact (Option.some.inj hf').symm
    subst e1 e2
    obtain ⟨s, rfl, _⟩ := hv
    obtain ⟨s', rfl, _⟩ := hv'
    obtain ⟨rfl, h3⟩ := List.cons.inj (show s :: intL r = s' :: intL r' from h)
    rw [intL_inj r r' (i + 1) (j + 1) h2 h2' h3]
  | .l k n cs r, _, i, _, ha, _, _ => by
    obtain ⟨⟨t, hf, _⟩, _⟩ := ha
    have : (i % (uE 1).length) = 0 := by show i % 1 = 0; omega
    rw [this] at hf
    cases hf
  | _, .l k n cs r, _, j, _, hb, _ => by
    obtain ⟨⟨t, hf, _⟩, _⟩ := hb
    have : (j % (uE 1).length) = 0 := by show j % 1 = 0; omega
    rw [this] at hf
    cases hf
theorem intL_len {n : Nat} {c : UD} (h : tyS 1 n c 1) : (intL c).length = n := by rw [(intL_get c 0 h.2.2.2.2).1, h.2.2.2.1, Nat.mul_one]
/-- a row of numbers in memory -/
theorem int_at {w : World} {lo hi n : Nat} {c : UD} {b off cap : Nat} (ht : tyS 1 n c 1) (h : uS w lo hi 1 n c (.slice (some ⟨b, off, none⟩) n cap)) (j : Nat) (hj : j < (intL c).length) : w.cell? ⟨b, off + j, none⟩ = some (.int .i64 ((intL c)[j]'hj)) := by
  have hl := intL_len ht
  obtain ⟨b', off', e, _, hm⟩ := h.cells (by omega)
  cases e
  obtain ⟨c', q1, q2⟩ := hm.get j _ ((intL_get c 0 ht.2.2.2.2).2 j hj).1
  rw [q1, show c' = _ from q2]
theorem int_in {n : Nat} {c : UD} (ht : tyS 1 n c 1) (j : Nat) (hj : j < (intL c).length) : -9223372036854775808 ≤ (intL c)[j]'hj ∧ (intL c)[j]'hj ≤ 9223372036854775807 := ((intL_get c 0 ht.2.2.2.2).2 j hj).2
theorem cntU_int : ∀ (c : UD) (i : Nat), tyU c (uE 1) i → cnt c = c.len
  | .nil, _, _ => rfl
  | .p v r, i, h => by rw [UD.len_p]; show 1 + cnt r = _; rw [cntU_int r (i + 1) h.2]; omega
  | .l k n cs r, i, h => by
    obtain ⟨⟨t, hf, _⟩, _⟩ := h
    have : (i % (uE 1).length) = 0 := by show i % 1 = 0; omega
    rw [this] at hf
    cases hf
theorem cnt_int {n : Nat} {c : UD} (h : tyS 1 n c 1) : cnt c = n := by rw [cntU_int c 0 h.2.2.2.2, h.2.2.2.1, Nat.mul_one]
/-- the cells of a row of numbers -/
def ofInts : List Int → UD
  | [] => .nil
  | z :: r => .p (.int .i64 z) (ofInts r)
theorem intL_of : ∀ l : List Int, intL (ofInts l) = l
  | [] => rfl
  | z :: r => by show z :: intL (ofInts r) = _; rw [intL_of r]
theorem ofInts_len : ∀ l : List Int, (ofInts l).len = l.length
  | [] => rfl
  | z :: r => by show (UD.p _ (ofInts r)).len = _; rw [UD.len_p, ofInts_len r]; rfl
theorem ofInts_ty : ∀ (l : List Int) (i : Nat), (∀ z ∈ l, inK .i64 z) → tyU (ofInts l) (uE 1) i
  | [], _, _ => trivial
  | z :: r, i, h => ⟨⟨.i .i64, by have : (i % (uE 1).length) = 0 := by show i % 1 = 0; omega
                                  rw [this]; rfl, z, rfl, h z (by simp)⟩, ofInts_ty r (i + 1) (fun x hx => h x (by simp [hx]))⟩
theorem ofInts_tyS {l : List Int} (h : ∀ z ∈ l, inK .i64 z) (hl : l.length ≤ maxLen) : tyS 1 l.length (ofInts l) 1 := ⟨by decide, rfl, hl, by rw [ofInts_len, Nat.mul_one], ofInts_ty l 0 h⟩
theorem wt_ofInts : ∀ l : List Int, wt (ofInts l) = 0
  | [] => rfl
  | z :: r => by show wtP _ + wt (ofInts r) = 0; rw [wt_ofInts r]; rfl
theorem cnt_ofInts : ∀ l : List Int, cnt (ofInts l) = l.length
  | [] => rfl
  | z :: r => by show 1 + cnt (ofInts r) = _; rw [cnt_ofInts r, List.length_cons]; omega
theorem ofInts_own {w : World} : ∀ l : List Int, oH w (ofInts l) (l.map (Value.int .i64)) []
  | [] => ⟨rfl, rfl⟩
  | z :: r => ⟨_, rfl, ofInts_own r⟩
theorem Try.infoDInt : (Try.prog.info? 3).map (fun i => (i.zero, i.size, i.bytes)) = some (some (.int .i64 0), 1, 8) := by kernel_rfl
theorem infoD {P : Program} {t : TypeId} {z : Value} {k b : Nat} (h : (P.info? t).map (fun i => (i.zero, i.size, i.bytes)) = some (some z, k, b)) : ∃ i, P.info? t = some i ∧ i.zero = some z ∧ i.size = k ∧ i.bytes = b := by
  cases e : P.info? t with
  | none => rw [e] at h; cases h
  | some i => rw [e] at h; simp at h; exact ⟨i, rfl, h.1, h.2.1, h.2.2⟩
end Go.Proofs.Ytdnodaoeflbfkaa
