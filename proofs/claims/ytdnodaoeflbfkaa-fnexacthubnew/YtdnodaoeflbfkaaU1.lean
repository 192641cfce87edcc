/- Data as cells: their types. -/
import Derived.Test.YtdnodaoeflbfkaaU0
namespace Go.Proofs.Ytdnodaoeflbfkaa
open Go.RowKit
set_option linter.unusedVariables false

/-- a cell's type: a number, a text, a truth, a slice of things of k cells, of the type t -/
inductive UF where
  | i (k : IntKind)
  | s
  | b
  | l (k t : Nat)
def uE : Nat → List UF
  | 0 => [.s]
  | 1 => [.i .i64]
  | 2 => [.i .u8]
  | 3 => [.l 1 1]
  | 4 => [.s, .s]
  | 5 => [.i .i64, .s, .l 1 0]
  | 6 => [.i .i64, .s, .i .i64, .l 1 0, .l 5 6]
  | 7 => [.i .i64, .l 1 0, .i .i64, .s, .i .i64, .l 1 0, .l 5 6]
  | 8 => [.i .i64, .s, .i .i64, .i .i64, .i .i64, .b, .l 1 0, .i .i64, .s, .i .i64, .l 1 0, .l 5 6, .i .i64, .s, .i .i64, .l 1 0, .l 5 6]
  | 9 => [.i .i64, .b, .i .i64, .s, .i .i64, .i .i64, .i .i64, .b, .l 1 0, .i .i64, .s, .i .i64, .l 1 0, .l 5 6, .i .i64, .s, .i .i64, .l 1 0, .l 5 6]
  | 10 => [.l 17 8, .i .i64, .i .i64, .l 19 9]
  | 11 => [.i .i64, .l 17 8]
  | 12 => [.s, .i .i64, .i .i64]
  | 13 => [.l 3 12, .l 3 12, .l 1 0, .i .i64]
  | 14 => [.s, .l 2 4, .l 1 0, .i .i64]
  | 15 => [.s, .i .i64]
  | 16 => [.i .i64, .l 3 5, .l 1 0, .l 2 15]
  | 17 => [.s, .l 7 7]
  | 18 => [.i .i64, .s, .i .i64, .l 3 5, .l 1 0, .l 2 15, .i .i64, .s, .i .i64, .l 1 0, .l 5 6, .l 2 17, .b]
  | 19 => [.s, .l 2 4, .l 1 0, .i .i64, .i .i64, .i .i64]
  | 20 => [.i .i64, .s, .i .i64, .i .i64, .i .i64]
  | 21 => [.i .i64, .i .i64, .i .i64, .l 13 18, .l 6 19, .l 5 20, .l 1 0]
  | 22 => [.i .i64, .i .i64]
  | 23 => [.i .i64, .i .i64, .i .i64, .s, .i .i64, .l 1 0, .l 5 6]
  | 24 => [.s, .i .i64, .i .i64, .l 7 23, .l 2 22]
  | 25 => [.i .i64, .s, .i .i64, .l 7 23, .l 2 22]
  | 26 => [.i .i64, .s, .i .i64, .i .i64, .l 3 5, .l 1 0, .l 2 15, .i .i64, .s, .i .i64, .l 1 0, .l 5 6, .l 2 17, .s, .l 2 4, .l 1 0, .i .i64, .l 2 22]
  | 27 => [.i .i64, .i .i64, .s, .i .i64, .i .i64, .l 3 5, .l 1 0, .l 2 15, .i .i64, .s, .i .i64, .l 1 0, .l 5 6, .l 2 17, .s, .l 2 4, .l 1 0, .i .i64, .l 2 22, .s, .i .i64, .i .i64]
  | 28 => [.s, .i .i64]
  | 29 => [.i .i64, .i .i64, .i .i64, .l 13 18, .l 6 19, .l 5 20, .l 1 0, .b, .l 1 2, .l 5 24, .l 5 25, .l 1 0]
  | _ => []
def inK : IntKind → Int → Prop
  | .i64, z => -9223372036854775808 ≤ z ∧ z ≤ 9223372036854775807
  | .u8, z => 0 ≤ z ∧ z ≤ 255
  | _, _ => True
def tyP : UF → Value → Prop
  | .i k, v => ∃ z, v = .int k z ∧ inK k z
  | .s, v => ∃ t : ByteArray, v = .string t ∧ t.size ≤ maxLen
  | .b, v => ∃ t, v = .bool t
  | .l _ _, _ => False
/-- cells whose types come round and round -/
def tyU : UD → List UF → Nat → Prop
  | .nil, _, _ => True
  | .p v r, fs, i => (∃ f, fs[i % fs.length]? = some f ∧ tyP f v) ∧ tyU r fs (i + 1)
  | .l k n cs r, fs, i => (∃ t, fs[i % fs.length]? = some (.l k t) ∧ 0 < k ∧ k = (uE t).length ∧ n ≤ maxLen ∧ cs.len = n * k ∧ tyU cs (uE t) 0) ∧ tyU r fs (i + 1)
def tyS (k n : Nat) (cs : UD) (t : Nat) : Prop := 0 < k ∧ k = (uE t).length ∧ n ≤ maxLen ∧ cs.len = n * k ∧ tyU cs (uE t) 0
/-- cells of just these types -/
def tyL : UD → List UF → Prop
  | .nil, fs => fs = []
  | .p v r, fs => ∃ f fr, fs = f :: fr ∧ tyP f v ∧ tyL r fr
  | .l k n cs r, fs => ∃ t fr, fs = .l k t :: fr ∧ tyS k n cs t ∧ tyL r fr
theorem tyL.nil {d : UD} (h : tyL d []) : d = .nil := by
  cases d with
  | nil => rfl
  | p v r => obtain ⟨f, fr, e, _⟩ := h; cases e
  | l k n cs r => obtain ⟨t, fr, e, _⟩ := h; cases e
theorem tyL.i {d : UD} {k : IntKind} {fs : List UF} (h : tyL d (.i k :: fs)) : ∃ z r, d = .p (.int k z) r ∧ inK k z ∧ tyL r fs := by
  cases d with
  | nil => cases h
  | p v r => obtain ⟨f, fr, e, ⟨h1, h2⟩⟩ := h; cases e; obtain ⟨z, rfl, hz⟩ := h1; exact ⟨z, r, rfl, hz, h2⟩
  | l k n cs r => obtain ⟨t, fr, e, _⟩ := h; cases e
theorem tyL.s {d : UD} {fs : List UF} (h : tyL d (.s :: fs)) : ∃ (z : ByteArray) (r : UD), d = .p (.string z) r ∧ z.size ≤ maxLen ∧ tyL r fs := by
  cases d with
  | nil => cases h
  | p v r => obtain ⟨f, fr, e, ⟨h1, h2⟩⟩ := h; cases e; obtain ⟨z, rfl, hz⟩ := h1; exact ⟨z, r, rfl, hz, h2⟩
  | l k n cs r => obtain ⟨t, fr, e, _⟩ := h; cases e
theorem tyL.b {d : UD} {fs : List UF} (h : tyL d (.b :: fs)) : ∃ (z : Bool) (r : UD), d = .p (.bool z) r ∧ tyL r fs := by
  cases d with
  | nil => cases h
  | p v r => obtain ⟨f, fr, e, ⟨h1, h2⟩⟩ := h; cases e; obtain ⟨z, rfl⟩ := h1; exact ⟨z, r, rfl, h2⟩
  | l k n cs r => obtain ⟨t, fr, e, _⟩ := h; cases e
theorem tyL.l {d : UD} {k t : Nat} {fs : List UF} (h : tyL d (.l k t :: fs)) : ∃ n cs r, d = .l k n cs r ∧ tyS k n cs t ∧ tyL r fs := by
  cases d with
  | nil => cases h
  | p v r => obtain ⟨f, fr, e, ⟨h1, h2⟩⟩ := h; cases e; cases h1
  | l k n cs r => obtain ⟨t, fr, e, h1, h2⟩ := h; cases e; exact ⟨n, cs, r, rfl, h1, h2⟩
/-- a row of a slice's cells -/
def rowU (cs : UD) (k q : Nat) : UD := (cs.dropN (q * k)).takeN k
theorem UD.takeN_p (v : Value) (r : UD) (i : Nat) : (UD.p v r).takeN (i + 1) = .p v (r.takeN i) := rfl
theorem UD.takeN_l (k n : Nat) (cs r : UD) (i : Nat) : (UD.l k n cs r).takeN (i + 1) = .l k n cs (r.takeN i) := rfl
theorem UD.dropN_p (v : Value) (r : UD) (i : Nat) : (UD.p v r).dropN (i + 1) = r.dropN i := rfl
theorem UD.dropN_l (k n : Nat) (cs r : UD) (i : Nat) : (UD.l k n cs r).dropN (i + 1) = r.dropN i := rfl
theorem UD.dropN_zero (d : UD) : d.dropN 0 = d := UD.ofL_toL d
theorem UD.dropN_len (d : UD) (i : Nat) : (d.dropN i).len = d.len - i := by unfold UD.len UD.dropN; rw [UD.toL_ofL, List.length_drop]
theorem UD.dropN_dropN (d : UD) (i j : Nat) : (d.dropN i).dropN j = d.dropN (i + j) := by apply UD.ext; unfold UD.dropN; rw [UD.toL_ofL, UD.toL_ofL, UD.toL_ofL, List.drop_drop]
theorem UD.dropN_all (d : UD) : d.dropN d.len = .nil := by apply UD.ext; unfold UD.dropN; rw [UD.toL_ofL]; show d.toL.drop d.toL.length = []; rw [List.drop_length]
theorem tyU.drop : ∀ {d : UD} {fs : List UF} {i : Nat} (j : Nat), tyU d fs i → tyU (d.dropN j) fs (i + j)
  | d, fs, i, 0, h => by rw [UD.dropN_zero]; exact h
  | .nil, fs, i, j + 1, h => by unfold UD.dropN UD.toL; rw [List.drop_nil]; trivial
  | .p v r, fs, i, j + 1, h => by rw [UD.dropN_p, show i + (j + 1) = (i + 1) + j by omega]; exact tyU.drop j h.2
  | .l k n cs r, fs, i, j + 1, h => by rw [UD.dropN_l, show i + (j + 1) = (i + 1) + j by omega]; exact tyU.drop j h.2
theorem tyU.takes : ∀ (m : Nat) {d : UD} {fs : List UF} {i : Nat}, tyU d fs i → m ≤ d.len → (i % fs.length) + m = fs.length ∨ m = 0 ∧ fs.length ≤ i % fs.length → tyL (d.takeN m) (fs.drop (fs.length - m))
  | 0, d, fs, i, h, hm, hi => by
    unfold UD.takeN; rw [List.take_zero, Nat.sub_zero, List.drop_length]; exact rfl
  | m + 1, .nil, fs, i, h, hm, hi => by cases hm
  | m + 1, .p v r, fs, i, h, hm, hi => by
    rcases hi with hi | ⟨hi, _⟩
    · obtain ⟨⟨f, h1, h2⟩, h3⟩ := h
      rw [UD.takeN_p]
      have hlt : i % fs.length < fs.length := by omega
      rw [show fs.length - (m + 1) = i % fs.length by omega, List.drop_eq_getElem_cons hlt]
      rw [List.getElem?_eq_getElem hlt] at h1
      cases h1
      have hm' : m ≤ r.len := by rw [UD.len_p] at hm; omega
      refine ⟨_, _, rfl, h2, ?_⟩
      rcases Nat.eq_zero_or_pos m with rfl | hp
      · rw [show i % fs.length + 1 = fs.length by omega, List.drop_length]; unfold UD.takeN; rw [List.take_zero]; exact rfl
      · have hmod : (i + 1) % fs.length = i % fs.length + 1 := by rw [Nat.add_mod, Nat.mod_eq_of_lt (show 1 < fs.length by omega), Nat.mod_eq_of_lt (by omega)]
        have := tyU.takes m h3 hm' (.inl (by omega))
        rw [show fs.length - m = i % fs.length + 1 by omega] at this
        exact this
    · omega
  | m + 1, .l k n cs r, fs, i, h, hm, hi => by
    rcases hi with hi | ⟨hi, _⟩
    · obtain ⟨⟨t, h1, h2⟩, h3⟩ := h
      rw [UD.takeN_l]
      have hlt : i % fs.length < fs.length := by omega
      rw [show fs.length - (m + 1) = i % fs.length by omega, List.drop_eq_getElem_cons hlt]
      rw [List.getElem?_eq_getElem hlt] at h1
      have h1' := Option.some.inj h1
      rw [h1']
      have hm' : m ≤ r.len := by rw [UD.len_l] at hm; omega
      refine ⟨_, _, rfl, h2, ?_⟩
      rcases Nat.eq_zero_or_pos m with rfl | hp
      · rw [show i % fs.length + 1 = fs.length by omega, List.drop_length]; unfold UD.takeN; rw [List.take_zero]; exact rfl
      · have hmod : (i + 1) % fs.length = i % fs.length + 1 := by rw [Nat.add_mod, Nat.mod_eq_of_lt (show 1 < fs.length by omega), Nat.mod_eq_of_lt (by omega)]
        have := tyU.takes m h3 hm' (.inl (by omega))
        rw [show fs.length - m = i % fs.length + 1 by omega] at this
        exact this
    · omega
/-- a slice's row is of the slice's type -/
theorem tyS.row {k n : Nat} {cs : UD} {t q : Nat} (h : tyS k n cs t) (hq : q < n) : tyL (rowU cs k q) (uE t) := by
  obtain ⟨h0, h1, h2, h3, h4⟩ := h
  have hle : q * k + k ≤ n * k := by have := Nat.mul_le_mul_right k (show q + 1 ≤ n by omega); rw [Nat.succ_mul] at this; exact this
  have hd := tyU.drop (q * k) h4
  rw [Nat.zero_add] at hd
  have hm : (q * k) % (uE t).length = 0 := by rw [← h1, Nat.mul_mod_left]
  have := tyU.takes k hd (by rw [UD.dropN_len]; omega) (.inl (by rw [hm]; omega))
  rw [← h1, Nat.sub_self, List.drop_zero] at this
  exact this
theorem rowU_at (cs : UD) (k q j : Nat) (hj : j < k) : (rowU cs k q).at? j = cs.at? (q * k + j) := by
  unfold rowU UD.takeN UD.dropN UD.at?
  rw [UD.toL_ofL, UD.toL_ofL, List.getElem?_take, if_pos hj, List.getElem?_drop]
theorem rowU_len (cs : UD) (k q n : Nat) (hl : cs.len = n * k) (hq : q < n) : (rowU cs k q).len = k := by
  have hle : q * k + k ≤ n * k := by have := Nat.mul_le_mul_right k (show q + 1 ≤ n by omega); rw [Nat.succ_mul] at this; exact this
  unfold rowU UD.takeN UD.dropN UD.len
  rw [UD.toL_ofL, UD.toL_ofL, List.length_take, List.length_drop]
  unfold UD.len at hl
  omega
theorem uM.drop {w : World} {lo hi b : Nat} : ∀ {d : UD} {o : Nat} (j : Nat), uM w lo hi d b o → uM w lo hi (d.dropN j) b (o + j)
  | d, o, 0, h => by rw [UD.dropN_zero]; exact h
  | .nil, o, j + 1, h => by unfold UD.dropN UD.toL; rw [List.drop_nil]; trivial
  | .p v r, o, j + 1, h => by rw [UD.dropN_p, show o + (j + 1) = (o + 1) + j by omega]; exact uM.drop j h.2
  | .l k n cs r, o, j + 1, h => by rw [UD.dropN_l, show o + (j + 1) = (o + 1) + j by omega]; exact uM.drop j h.2
theorem uM.take {w : World} {lo hi b : Nat} : ∀ {d : UD} {o : Nat} (j : Nat), uM w lo hi d b o → uM w lo hi (d.takeN j) b o
  | d, o, 0, h => trivial
  | .nil, o, j + 1, h => trivial
  | .p v r, o, j + 1, h => by rw [UD.takeN_p]; exact ⟨h.1, uM.take j h.2⟩
  | .l k n cs r, o, j + 1, h => by rw [UD.takeN_l]; exact ⟨h.1, uM.take j h.2⟩
theorem uM.row {w : World} {lo hi b off : Nat} {cs : UD} (h : uM w lo hi cs b off) (k q : Nat) : uM w lo hi (rowU cs k q) b (off + q * k) := (h.drop (q * k)).take k
theorem UD.drop_row (cs : UD) (k q : Nat) : cs.dropN (q * k) = (rowU cs k q).app (cs.dropN ((q + 1) * k)) := by
  unfold rowU
  rw [← UD.app_take_drop (cs.dropN (q * k)) k, UD.dropN_dropN, show q * k + k = (q + 1) * k by rw [Nat.succ_mul]]
  congr 1
  apply UD.ext
  unfold UD.takeN
  rw [UD.toL_ofL, UD.toL_ofL, UD.app_toL, UD.toL_ofL, List.take_append, List.take_take, Nat.min_self]
  rw [List.length_take]
  have : List.take (k - min k (cs.dropN (q * k)).toL.length) (cs.dropN ((q + 1) * k)).toL = [] := by
    rcases Nat.le_total k (cs.dropN (q * k)).toL.length with h | h
    · rw [Nat.min_eq_left h, Nat.sub_self, List.take_zero]
    · have hz : (cs.dropN ((q + 1) * k)).toL = [] := by
        unfold UD.dropN at h ⊢
        rw [UD.toL_ofL] at h ⊢
        rw [List.length_drop] at h
        apply List.drop_eq_nil_of_le
        rw [Nat.succ_mul]; omega
      rw [hz, List.take_nil]
  rw [this, List.append_nil]
theorem UD.take_row (cs : UD) (k q : Nat) : cs.takeN ((q + 1) * k) = (cs.takeN (q * k)).app (rowU cs k q) := by
  unfold rowU
  apply UD.ext
  rw [UD.app_toL]
  unfold UD.takeN UD.dropN
  rw [UD.toL_ofL, UD.toL_ofL, UD.toL_ofL, UD.toL_ofL, Nat.succ_mul, List.take_add]
theorem leftI_neg {x : Int} {a : Nat} (b : Nat) (h0 : 0 ≤ x) (h : leftI x a < 0) : leftI x (a + b) = -1 := by unfold leftI at *; split at h <;> (split <;> omega)
theorem leftI_pos {x : Int} {a : Nat} (b : Nat) (h : ¬ leftI x a < 0) : leftI x (a + b) = leftI (leftI x a) b ∧ leftI x a = x - a ∧ 0 ≤ leftI x a := by
  unfold leftI at *
  by_cases c : x < (a : Int)
  · rw [if_pos c] at h; omega
  · rw [if_neg c] at h ⊢
    refine ⟨?_, rfl, by omega⟩
    by_cases c2 : x < ((a + b : Nat) : Int)
    · rw [if_pos c2, if_pos (by omega)]
    · rw [if_neg c2, if_neg (by omega)]; omega
theorem leftI_zero {x : Int} (h : 0 ≤ x) : leftI x 0 = x := by unfold leftI; rw [if_neg (by omega)]; omega
theorem leftI_le {x : Int} {a : Nat} (h : ¬ leftI x a < 0) : (a : Int) ≤ x := by unfold leftI at h; split at h <;> omega
theorem ret_intU {a b : Int} (h : a = b) : Ending.returned (.int .i64 a) = .returned (.int .i64 b) := by rw [h]
theorem partsString {d : UD} (h : tyL d (uE 0)) : ∃ (z0 : ByteArray), d = .p (.string z0) .nil ∧ z0.size ≤ maxLen := by
  obtain ⟨z0, r, rfl, g0, h0⟩ := tyL.s h
  obtain rfl := tyL.nil h0
  exact ⟨z0, rfl, g0⟩
theorem partsInt {d : UD} (h : tyL d (uE 1)) : ∃ (z0 : Int), d = .p (.int .i64 z0) .nil ∧ inK .i64 z0 := by
  obtain ⟨z0, r, rfl, g0, h0⟩ := tyL.i h
  obtain rfl := tyL.nil h0
  exact ⟨z0, rfl, g0⟩
theorem partsByte {d : UD} (h : tyL d (uE 2)) : ∃ (z0 : Int), d = .p (.int .u8 z0) .nil ∧ inK .u8 z0 := by
  obtain ⟨z0, r, rfl, g0, h0⟩ := tyL.i h
  obtain rfl := tyL.nil h0
  exact ⟨z0, rfl, g0⟩
theorem partsIntS {d : UD} (h : tyL d (uE 3)) : ∃ (n0 : Nat) (c0 : UD), d = .l 1 n0 c0 .nil ∧ tyS 1 n0 c0 1 := by
  obtain ⟨n0, c0, r, rfl, g0, h0⟩ := tyL.l h
  obtain rfl := tyL.nil h0
  exact ⟨n0, c0, rfl, g0⟩
theorem partsLabel {d : UD} (h : tyL d (uE 4)) : ∃ (z0 : ByteArray) (z1 : ByteArray), d = .p (.string z0) (.p (.string z1) .nil) ∧ z0.size ≤ maxLen ∧ z1.size ≤ maxLen := by
  obtain ⟨z0, r, rfl, g0, h0⟩ := tyL.s h
  obtain ⟨z1, r, rfl, g1, h1⟩ := tyL.s h0
  obtain rfl := tyL.nil h1
  exact ⟨z0, z1, rfl, g0, g1⟩
theorem partsTerm {d : UD} (h : tyL d (uE 5)) : ∃ (z0 : Int) (z1 : ByteArray) (n2 : Nat) (c2 : UD), d = .p (.int .i64 z0) (.p (.string z1) (.l 1 n2 c2 .nil)) ∧ inK .i64 z0 ∧ z1.size ≤ maxLen ∧ tyS 1 n2 c2 0 := by
  obtain ⟨z0, r, rfl, g0, h0⟩ := tyL.i h
  obtain ⟨z1, r, rfl, g1, h1⟩ := tyL.s h0
  obtain ⟨n2, c2, r, rfl, g2, h2⟩ := tyL.l h1
  obtain rfl := tyL.nil h2
  exact ⟨z0, z1, n2, c2, rfl, g0, g1, g2⟩
theorem partsValue {d : UD} (h : tyL d (uE 6)) : ∃ (z0 : Int) (z1 : ByteArray) (z2 : Int) (n3 : Nat) (c3 : UD) (n4 : Nat) (c4 : UD), d = .p (.int .i64 z0) (.p (.string z1) (.p (.int .i64 z2) (.l 1 n3 c3 (.l 5 n4 c4 .nil)))) ∧ inK .i64 z0 ∧ z1.size ≤ maxLen ∧ inK .i64 z2 ∧ tyS 1 n3 c3 0 ∧ tyS 5 n4 c4 6 := by
  obtain ⟨z0, r, rfl, g0, h0⟩ := tyL.i h
  obtain ⟨z1, r, rfl, g1, h1⟩ := tyL.s h0
  obtain ⟨z2, r, rfl, g2, h2⟩ := tyL.i h1
  obtain ⟨n3, c3, r, rfl, g3, h3⟩ := tyL.l h2
  obtain ⟨n4, c4, r, rfl, g4, h4⟩ := tyL.l h3
  obtain rfl := tyL.nil h4
  exact ⟨z0, z1, z2, n3, c3, n4, c4, rfl, g0, g1, g2, g3, g4⟩
theorem partsOp {d : UD} (h : tyL d (uE 7)) : ∃ (z0 : Int) (n1 : Nat) (c1 : UD) (z2 : Int) (z3 : ByteArray) (z4 : Int) (n5 : Nat) (c5 : UD) (n6 : Nat) (c6 : UD), d = .p (.int .i64 z0) (.l 1 n1 c1 (.p (.int .i64 z2) (.p (.string z3) (.p (.int .i64 z4) (.l 1 n5 c5 (.l 5 n6 c6 .nil)))))) ∧ inK .i64 z0 ∧ tyS 1 n1 c1 0 ∧ inK .i64 z2 ∧ z3.size ≤ maxLen ∧ inK .i64 z4 ∧ tyS 1 n5 c5 0 ∧ tyS 5 n6 c6 6 := by
  obtain ⟨z0, r, rfl, g0, h0⟩ := tyL.i h
  obtain ⟨n1, c1, r, rfl, g1, h1⟩ := tyL.l h0
  obtain ⟨z2, r, rfl, g2, h2⟩ := tyL.i h1
  obtain ⟨z3, r, rfl, g3, h3⟩ := tyL.s h2
  obtain ⟨z4, r, rfl, g4, h4⟩ := tyL.i h3
  obtain ⟨n5, c5, r, rfl, g5, h5⟩ := tyL.l h4
  obtain ⟨n6, c6, r, rfl, g6, h6⟩ := tyL.l h5
  obtain rfl := tyL.nil h6
  exact ⟨z0, n1, c1, z2, z3, z4, n5, c5, n6, c6, rfl, g0, g1, g2, g3, g4, g5, g6⟩
theorem partsObj {d : UD} (h : tyL d (uE 8)) : ∃ (z0 : Int) (z1 : ByteArray) (z2 : Int) (z3 : Int) (z4 : Int) (z5 : Bool) (n6 : Nat) (c6 : UD) (z7 : Int) (z8 : ByteArray) (z9 : Int) (n10 : Nat) (c10 : UD) (n11 : Nat) (c11 : UD) (z12 : Int) (z13 : ByteArray) (z14 : Int) (n15 : Nat) (c15 : UD) (n16 : Nat) (c16 : UD), d = .p (.int .i64 z0) (.p (.string z1) (.p (.int .i64 z2) (.p (.int .i64 z3) (.p (.int .i64 z4) (.p (.bool z5) (.l 1 n6 c6 (.p (.int .i64 z7) (.p (.string z8) (.p (.int .i64 z9) (.l 1 n10 c10 (.l 5 n11 c11 (.p (.int .i64 z12) (.p (.string z13) (.p (.int .i64 z14) (.l 1 n15 c15 (.l 5 n16 c16 .nil)))))))))))))))) ∧ inK .i64 z0 ∧ z1.size ≤ maxLen ∧ inK .i64 z2 ∧ inK .i64 z3 ∧ inK .i64 z4 ∧ tyS 1 n6 c6 0 ∧ inK .i64 z7 ∧ z8.size ≤ maxLen ∧ inK .i64 z9 ∧ tyS 1 n10 c10 0 ∧ tyS 5 n11 c11 6 ∧ inK .i64 z12 ∧ z13.size ≤ maxLen ∧ inK .i64 z14 ∧ tyS 1 n15 c15 0 ∧ tyS 5 n16 c16 6 := by
  obtain ⟨z0, r, rfl, g0, h0⟩ := tyL.i h
  obtain ⟨z1, r, rfl, g1, h1⟩ := tyL.s h0
  obtain ⟨z2, r, rfl, g2, h2⟩ := tyL.i h1
  obtain ⟨z3, r, rfl, g3, h3⟩ := tyL.i h2
  obtain ⟨z4, r, rfl, g4, h4⟩ := tyL.i h3
  obtain ⟨z5, r, rfl, h5⟩ := tyL.b h4
  obtain ⟨n6, c6, r, rfl, g6, h6⟩ := tyL.l h5
  obtain ⟨z7, r, rfl, g7, h7⟩ := tyL.i h6
  obtain ⟨z8, r, rfl, g8, h8⟩ := tyL.s h7
  obtain ⟨z9, r, rfl, g9, h9⟩ := tyL.i h8
  obtain ⟨n10, c10, r, rfl, g10, h10⟩ := tyL.l h9
  obtain ⟨n11, c11, r, rfl, g11, h11⟩ := tyL.l h10
  obtain ⟨z12, r, rfl, g12, h12⟩ := tyL.i h11
  obtain ⟨z13, r, rfl, g13, h13⟩ := tyL.s h12
  obtain ⟨z14, r, rfl, g14, h14⟩ := tyL.i h13
  obtain ⟨n15, c15, r, rfl, g15, h15⟩ := tyL.l h14
  obtain ⟨n16, c16, r, rfl, g16, h16⟩ := tyL.l h15
  obtain rfl := tyL.nil h16
  exact ⟨z0, z1, z2, z3, z4, z5, n6, c6, z7, z8, z9, n10, c10, n11, c11, z12, z13, z14, n15, c15, n16, c16, rfl, g0, g1, g2, g3, g4, g6, g7, g8, g9, g10, g11, g12, g13, g14, g15, g16⟩
theorem partsChange {d : UD} (h : tyL d (uE 9)) : ∃ (z0 : Int) (z1 : Bool) (z2 : Int) (z3 : ByteArray) (z4 : Int) (z5 : Int) (z6 : Int) (z7 : Bool) (n8 : Nat) (c8 : UD) (z9 : Int) (z10 : ByteArray) (z11 : Int) (n12 : Nat) (c12 : UD) (n13 : Nat) (c13 : UD) (z14 : Int) (z15 : ByteArray) (z16 : Int) (n17 : Nat) (c17 : UD) (n18 : Nat) (c18 : UD), d = .p (.int .i64 z0) (.p (.bool z1) (.p (.int .i64 z2) (.p (.string z3) (.p (.int .i64 z4) (.p (.int .i64 z5) (.p (.int .i64 z6) (.p (.bool z7) (.l 1 n8 c8 (.p (.int .i64 z9) (.p (.string z10) (.p (.int .i64 z11) (.l 1 n12 c12 (.l 5 n13 c13 (.p (.int .i64 z14) (.p (.string z15) (.p (.int .i64 z16) (.l 1 n17 c17 (.l 5 n18 c18 .nil)))))))))))))))))) ∧ inK .i64 z0 ∧ inK .i64 z2 ∧ z3.size ≤ maxLen ∧ inK .i64 z4 ∧ inK .i64 z5 ∧ inK .i64 z6 ∧ tyS 1 n8 c8 0 ∧ inK .i64 z9 ∧ z10.size ≤ maxLen ∧ inK .i64 z11 ∧ tyS 1 n12 c12 0 ∧ tyS 5 n13 c13 6 ∧ inK .i64 z14 ∧ z15.size ≤ maxLen ∧ inK .i64 z16 ∧ tyS 1 n17 c17 0 ∧ tyS 5 n18 c18 6 := by
  obtain ⟨z0, r, rfl, g0, h0⟩ := tyL.i h
  obtain ⟨z1, r, rfl, h1⟩ := tyL.b h0
  obtain ⟨z2, r, rfl, g2, h2⟩ := tyL.i h1
  obtain ⟨z3, r, rfl, g3, h3⟩ := tyL.s h2
  obtain ⟨z4, r, rfl, g4, h4⟩ := tyL.i h3
  obtain ⟨z5, r, rfl, g5, h5⟩ := tyL.i h4
  obtain ⟨z6, r, rfl, g6, h6⟩ := tyL.i h5
  obtain ⟨z7, r, rfl, h7⟩ := tyL.b h6
  obtain ⟨n8, c8, r, rfl, g8, h8⟩ := tyL.l h7
  obtain ⟨z9, r, rfl, g9, h9⟩ := tyL.i h8
  obtain ⟨z10, r, rfl, g10, h10⟩ := tyL.s h9
  obtain ⟨z11, r, rfl, g11, h11⟩ := tyL.i h10
  obtain ⟨n12, c12, r, rfl, g12, h12⟩ := tyL.l h11
  obtain ⟨n13, c13, r, rfl, g13, h13⟩ := tyL.l h12
  obtain ⟨z14, r, rfl, g14, h14⟩ := tyL.i h13
  obtain ⟨z15, r, rfl, g15, h15⟩ := tyL.s h14
  obtain ⟨z16, r, rfl, g16, h16⟩ := tyL.i h15
  obtain ⟨n17, c17, r, rfl, g17, h17⟩ := tyL.l h16
  obtain ⟨n18, c18, r, rfl, g18, h18⟩ := tyL.l h17
  obtain rfl := tyL.nil h18
  exact ⟨z0, z1, z2, z3, z4, z5, z6, z7, n8, c8, z9, z10, z11, n12, c12, n13, c13, z14, z15, z16, n17, c17, n18, c18, rfl, g0, g2, g3, g4, g5, g6, g8, g9, g10, g11, g12, g13, g14, g15, g16, g17, g18⟩
theorem partsBase {d : UD} (h : tyL d (uE 10)) : ∃ (n0 : Nat) (c0 : UD) (z1 : Int) (z2 : Int) (n3 : Nat) (c3 : UD), d = .l 17 n0 c0 (.p (.int .i64 z1) (.p (.int .i64 z2) (.l 19 n3 c3 .nil))) ∧ tyS 17 n0 c0 8 ∧ inK .i64 z1 ∧ inK .i64 z2 ∧ tyS 19 n3 c3 9 := by
  obtain ⟨n0, c0, r, rfl, g0, h0⟩ := tyL.l h
  obtain ⟨z1, r, rfl, g1, h1⟩ := tyL.i h0
  obtain ⟨z2, r, rfl, g2, h2⟩ := tyL.i h1
  obtain ⟨n3, c3, r, rfl, g3, h3⟩ := tyL.l h2
  obtain rfl := tyL.nil h3
  exact ⟨n0, c0, z1, z2, n3, c3, rfl, g0, g1, g2, g3⟩
theorem partsMirror {d : UD} (h : tyL d (uE 11)) : ∃ (z0 : Int) (n1 : Nat) (c1 : UD), d = .p (.int .i64 z0) (.l 17 n1 c1 .nil) ∧ inK .i64 z0 ∧ tyS 17 n1 c1 8 := by
  obtain ⟨z0, r, rfl, g0, h0⟩ := tyL.i h
  obtain ⟨n1, c1, r, rfl, g1, h1⟩ := tyL.l h0
  obtain rfl := tyL.nil h1
  exact ⟨z0, n1, c1, rfl, g0, g1⟩
theorem partsItem {d : UD} (h : tyL d (uE 12)) : ∃ (z0 : ByteArray) (z1 : Int) (z2 : Int), d = .p (.string z0) (.p (.int .i64 z1) (.p (.int .i64 z2) .nil)) ∧ z0.size ≤ maxLen ∧ inK .i64 z1 ∧ inK .i64 z2 := by
  obtain ⟨z0, r, rfl, g0, h0⟩ := tyL.s h
  obtain ⟨z1, r, rfl, g1, h1⟩ := tyL.i h0
  obtain ⟨z2, r, rfl, g2, h2⟩ := tyL.i h1
  obtain rfl := tyL.nil h2
  exact ⟨z0, z1, z2, rfl, g0, g1, g2⟩
theorem partsQueue {d : UD} (h : tyL d (uE 13)) : ∃ (n0 : Nat) (c0 : UD) (n1 : Nat) (c1 : UD) (n2 : Nat) (c2 : UD) (z3 : Int), d = .l 3 n0 c0 (.l 3 n1 c1 (.l 1 n2 c2 (.p (.int .i64 z3) .nil))) ∧ tyS 3 n0 c0 12 ∧ tyS 3 n1 c1 12 ∧ tyS 1 n2 c2 0 ∧ inK .i64 z3 := by
  obtain ⟨n0, c0, r, rfl, g0, h0⟩ := tyL.l h
  obtain ⟨n1, c1, r, rfl, g1, h1⟩ := tyL.l h0
  obtain ⟨n2, c2, r, rfl, g2, h2⟩ := tyL.l h1
  obtain ⟨z3, r, rfl, g3, h3⟩ := tyL.i h2
  obtain rfl := tyL.nil h3
  exact ⟨n0, c0, n1, c1, n2, c2, z3, rfl, g0, g1, g2, g3⟩
theorem partsIsland {d : UD} (h : tyL d (uE 14)) : ∃ (z0 : ByteArray) (n1 : Nat) (c1 : UD) (n2 : Nat) (c2 : UD) (z3 : Int), d = .p (.string z0) (.l 2 n1 c1 (.l 1 n2 c2 (.p (.int .i64 z3) .nil))) ∧ z0.size ≤ maxLen ∧ tyS 2 n1 c1 4 ∧ tyS 1 n2 c2 0 ∧ inK .i64 z3 := by
  obtain ⟨z0, r, rfl, g0, h0⟩ := tyL.s h
  obtain ⟨n1, c1, r, rfl, g1, h1⟩ := tyL.l h0
  obtain ⟨n2, c2, r, rfl, g2, h2⟩ := tyL.l h1
  obtain ⟨z3, r, rfl, g3, h3⟩ := tyL.i h2
  obtain rfl := tyL.nil h3
  exact ⟨z0, n1, c1, n2, c2, z3, rfl, g0, g1, g2, g3⟩
theorem partsWeigh {d : UD} (h : tyL d (uE 15)) : ∃ (z0 : ByteArray) (z1 : Int), d = .p (.string z0) (.p (.int .i64 z1) .nil) ∧ z0.size ≤ maxLen ∧ inK .i64 z1 := by
  obtain ⟨z0, r, rfl, g0, h0⟩ := tyL.s h
  obtain ⟨z1, r, rfl, g1, h1⟩ := tyL.i h0
  obtain rfl := tyL.nil h1
  exact ⟨z0, z1, rfl, g0, g1⟩
theorem partsWant {d : UD} (h : tyL d (uE 16)) : ∃ (z0 : Int) (n1 : Nat) (c1 : UD) (n2 : Nat) (c2 : UD) (n3 : Nat) (c3 : UD), d = .p (.int .i64 z0) (.l 3 n1 c1 (.l 1 n2 c2 (.l 2 n3 c3 .nil))) ∧ inK .i64 z0 ∧ tyS 3 n1 c1 5 ∧ tyS 1 n2 c2 0 ∧ tyS 2 n3 c3 15 := by
  obtain ⟨z0, r, rfl, g0, h0⟩ := tyL.i h
  obtain ⟨n1, c1, r, rfl, g1, h1⟩ := tyL.l h0
  obtain ⟨n2, c2, r, rfl, g2, h2⟩ := tyL.l h1
  obtain ⟨n3, c3, r, rfl, g3, h3⟩ := tyL.l h2
  obtain rfl := tyL.nil h3
  exact ⟨z0, n1, c1, n2, c2, n3, c3, rfl, g0, g1, g2, g3⟩
theorem partsOver {d : UD} (h : tyL d (uE 17)) : ∃ (z0 : ByteArray) (n1 : Nat) (c1 : UD), d = .p (.string z0) (.l 7 n1 c1 .nil) ∧ z0.size ≤ maxLen ∧ tyS 7 n1 c1 7 := by
  obtain ⟨z0, r, rfl, g0, h0⟩ := tyL.s h
  obtain ⟨n1, c1, r, rfl, g1, h1⟩ := tyL.l h0
  obtain rfl := tyL.nil h1
  exact ⟨z0, n1, c1, rfl, g0, g1⟩
theorem partsJob {d : UD} (h : tyL d (uE 18)) : ∃ (z0 : Int) (z1 : ByteArray) (z2 : Int) (n3 : Nat) (c3 : UD) (n4 : Nat) (c4 : UD) (n5 : Nat) (c5 : UD) (z6 : Int) (z7 : ByteArray) (z8 : Int) (n9 : Nat) (c9 : UD) (n10 : Nat) (c10 : UD) (n11 : Nat) (c11 : UD) (z12 : Bool), d = .p (.int .i64 z0) (.p (.string z1) (.p (.int .i64 z2) (.l 3 n3 c3 (.l 1 n4 c4 (.l 2 n5 c5 (.p (.int .i64 z6) (.p (.string z7) (.p (.int .i64 z8) (.l 1 n9 c9 (.l 5 n10 c10 (.l 2 n11 c11 (.p (.bool z12) .nil)))))))))))) ∧ inK .i64 z0 ∧ z1.size ≤ maxLen ∧ inK .i64 z2 ∧ tyS 3 n3 c3 5 ∧ tyS 1 n4 c4 0 ∧ tyS 2 n5 c5 15 ∧ inK .i64 z6 ∧ z7.size ≤ maxLen ∧ inK .i64 z8 ∧ tyS 1 n9 c9 0 ∧ tyS 5 n10 c10 6 ∧ tyS 2 n11 c11 17 := by
  obtain ⟨z0, r, rfl, g0, h0⟩ := tyL.i h
  obtain ⟨z1, r, rfl, g1, h1⟩ := tyL.s h0
  obtain ⟨z2, r, rfl, g2, h2⟩ := tyL.i h1
  obtain ⟨n3, c3, r, rfl, g3, h3⟩ := tyL.l h2
  obtain ⟨n4, c4, r, rfl, g4, h4⟩ := tyL.l h3
  obtain ⟨n5, c5, r, rfl, g5, h5⟩ := tyL.l h4
  obtain ⟨z6, r, rfl, g6, h6⟩ := tyL.i h5
  obtain ⟨z7, r, rfl, g7, h7⟩ := tyL.s h6
  obtain ⟨z8, r, rfl, g8, h8⟩ := tyL.i h7
  obtain ⟨n9, c9, r, rfl, g9, h9⟩ := tyL.l h8
  obtain ⟨n10, c10, r, rfl, g10, h10⟩ := tyL.l h9
  obtain ⟨n11, c11, r, rfl, g11, h11⟩ := tyL.l h10
  obtain ⟨z12, r, rfl, h12⟩ := tyL.b h11
  obtain rfl := tyL.nil h12
  exact ⟨z0, z1, z2, n3, c3, n4, c4, n5, c5, z6, z7, z8, n9, c9, n10, c10, n11, c11, z12, rfl, g0, g1, g2, g3, g4, g5, g6, g7, g8, g9, g10, g11⟩
theorem partsPost {d : UD} (h : tyL d (uE 19)) : ∃ (z0 : ByteArray) (n1 : Nat) (c1 : UD) (n2 : Nat) (c2 : UD) (z3 : Int) (z4 : Int) (z5 : Int), d = .p (.string z0) (.l 2 n1 c1 (.l 1 n2 c2 (.p (.int .i64 z3) (.p (.int .i64 z4) (.p (.int .i64 z5) .nil))))) ∧ z0.size ≤ maxLen ∧ tyS 2 n1 c1 4 ∧ tyS 1 n2 c2 0 ∧ inK .i64 z3 ∧ inK .i64 z4 ∧ inK .i64 z5 := by
  obtain ⟨z0, r, rfl, g0, h0⟩ := tyL.s h
  obtain ⟨n1, c1, r, rfl, g1, h1⟩ := tyL.l h0
  obtain ⟨n2, c2, r, rfl, g2, h2⟩ := tyL.l h1
  obtain ⟨z3, r, rfl, g3, h3⟩ := tyL.i h2
  obtain ⟨z4, r, rfl, g4, h4⟩ := tyL.i h3
  obtain ⟨z5, r, rfl, g5, h5⟩ := tyL.i h4
  obtain rfl := tyL.nil h5
  exact ⟨z0, n1, c1, n2, c2, z3, z4, z5, rfl, g0, g1, g2, g3, g4, g5⟩
theorem partsHold {d : UD} (h : tyL d (uE 20)) : ∃ (z0 : Int) (z1 : ByteArray) (z2 : Int) (z3 : Int) (z4 : Int), d = .p (.int .i64 z0) (.p (.string z1) (.p (.int .i64 z2) (.p (.int .i64 z3) (.p (.int .i64 z4) .nil)))) ∧ inK .i64 z0 ∧ z1.size ≤ maxLen ∧ inK .i64 z2 ∧ inK .i64 z3 ∧ inK .i64 z4 := by
  obtain ⟨z0, r, rfl, g0, h0⟩ := tyL.i h
  obtain ⟨z1, r, rfl, g1, h1⟩ := tyL.s h0
  obtain ⟨z2, r, rfl, g2, h2⟩ := tyL.i h1
  obtain ⟨z3, r, rfl, g3, h3⟩ := tyL.i h2
  obtain ⟨z4, r, rfl, g4, h4⟩ := tyL.i h3
  obtain rfl := tyL.nil h4
  exact ⟨z0, z1, z2, z3, z4, rfl, g0, g1, g2, g3, g4⟩
theorem partsHub {d : UD} (h : tyL d (uE 21)) : ∃ (z0 : Int) (z1 : Int) (z2 : Int) (n3 : Nat) (c3 : UD) (n4 : Nat) (c4 : UD) (n5 : Nat) (c5 : UD) (n6 : Nat) (c6 : UD), d = .p (.int .i64 z0) (.p (.int .i64 z1) (.p (.int .i64 z2) (.l 13 n3 c3 (.l 6 n4 c4 (.l 5 n5 c5 (.l 1 n6 c6 .nil)))))) ∧ inK .i64 z0 ∧ inK .i64 z1 ∧ inK .i64 z2 ∧ tyS 13 n3 c3 18 ∧ tyS 6 n4 c4 19 ∧ tyS 5 n5 c5 20 ∧ tyS 1 n6 c6 0 := by
  obtain ⟨z0, r, rfl, g0, h0⟩ := tyL.i h
  obtain ⟨z1, r, rfl, g1, h1⟩ := tyL.i h0
  obtain ⟨z2, r, rfl, g2, h2⟩ := tyL.i h1
  obtain ⟨n3, c3, r, rfl, g3, h3⟩ := tyL.l h2
  obtain ⟨n4, c4, r, rfl, g4, h4⟩ := tyL.l h3
  obtain ⟨n5, c5, r, rfl, g5, h5⟩ := tyL.l h4
  obtain ⟨n6, c6, r, rfl, g6, h6⟩ := tyL.l h5
  obtain rfl := tyL.nil h6
  exact ⟨z0, z1, z2, n3, c3, n4, c4, n5, c5, n6, c6, rfl, g0, g1, g2, g3, g4, g5, g6⟩
theorem partsRun {d : UD} (h : tyL d (uE 22)) : ∃ (z0 : Int) (z1 : Int), d = .p (.int .i64 z0) (.p (.int .i64 z1) .nil) ∧ inK .i64 z0 ∧ inK .i64 z1 := by
  obtain ⟨z0, r, rfl, g0, h0⟩ := tyL.i h
  obtain ⟨z1, r, rfl, g1, h1⟩ := tyL.i h0
  obtain rfl := tyL.nil h1
  exact ⟨z0, z1, rfl, g0, g1⟩
theorem partsWork {d : UD} (h : tyL d (uE 23)) : ∃ (z0 : Int) (z1 : Int) (z2 : Int) (z3 : ByteArray) (z4 : Int) (n5 : Nat) (c5 : UD) (n6 : Nat) (c6 : UD), d = .p (.int .i64 z0) (.p (.int .i64 z1) (.p (.int .i64 z2) (.p (.string z3) (.p (.int .i64 z4) (.l 1 n5 c5 (.l 5 n6 c6 .nil)))))) ∧ inK .i64 z0 ∧ inK .i64 z1 ∧ inK .i64 z2 ∧ z3.size ≤ maxLen ∧ inK .i64 z4 ∧ tyS 1 n5 c5 0 ∧ tyS 5 n6 c6 6 := by
  obtain ⟨z0, r, rfl, g0, h0⟩ := tyL.i h
  obtain ⟨z1, r, rfl, g1, h1⟩ := tyL.i h0
  obtain ⟨z2, r, rfl, g2, h2⟩ := tyL.i h1
  obtain ⟨z3, r, rfl, g3, h3⟩ := tyL.s h2
  obtain ⟨z4, r, rfl, g4, h4⟩ := tyL.i h3
  obtain ⟨n5, c5, r, rfl, g5, h5⟩ := tyL.l h4
  obtain ⟨n6, c6, r, rfl, g6, h6⟩ := tyL.l h5
  obtain rfl := tyL.nil h6
  exact ⟨z0, z1, z2, z3, z4, n5, c5, n6, c6, rfl, g0, g1, g2, g3, g4, g5, g6⟩
theorem partsIsle {d : UD} (h : tyL d (uE 24)) : ∃ (z0 : ByteArray) (z1 : Int) (z2 : Int) (n3 : Nat) (c3 : UD) (n4 : Nat) (c4 : UD), d = .p (.string z0) (.p (.int .i64 z1) (.p (.int .i64 z2) (.l 7 n3 c3 (.l 2 n4 c4 .nil)))) ∧ z0.size ≤ maxLen ∧ inK .i64 z1 ∧ inK .i64 z2 ∧ tyS 7 n3 c3 23 ∧ tyS 2 n4 c4 22 := by
  obtain ⟨z0, r, rfl, g0, h0⟩ := tyL.s h
  obtain ⟨z1, r, rfl, g1, h1⟩ := tyL.i h0
  obtain ⟨z2, r, rfl, g2, h2⟩ := tyL.i h1
  obtain ⟨n3, c3, r, rfl, g3, h3⟩ := tyL.l h2
  obtain ⟨n4, c4, r, rfl, g4, h4⟩ := tyL.l h3
  obtain rfl := tyL.nil h4
  exact ⟨z0, z1, z2, n3, c3, n4, c4, rfl, g0, g1, g2, g3, g4⟩
theorem partsMsg {d : UD} (h : tyL d (uE 25)) : ∃ (z0 : Int) (z1 : ByteArray) (z2 : Int) (n3 : Nat) (c3 : UD) (n4 : Nat) (c4 : UD), d = .p (.int .i64 z0) (.p (.string z1) (.p (.int .i64 z2) (.l 7 n3 c3 (.l 2 n4 c4 .nil)))) ∧ inK .i64 z0 ∧ z1.size ≤ maxLen ∧ inK .i64 z2 ∧ tyS 7 n3 c3 23 ∧ tyS 2 n4 c4 22 := by
  obtain ⟨z0, r, rfl, g0, h0⟩ := tyL.i h
  obtain ⟨z1, r, rfl, g1, h1⟩ := tyL.s h0
  obtain ⟨z2, r, rfl, g2, h2⟩ := tyL.i h1
  obtain ⟨n3, c3, r, rfl, g3, h3⟩ := tyL.l h2
  obtain ⟨n4, c4, r, rfl, g4, h4⟩ := tyL.l h3
  obtain rfl := tyL.nil h4
  exact ⟨z0, z1, z2, n3, c3, n4, c4, rfl, g0, g1, g2, g3, g4⟩
theorem partsAct {d : UD} (h : tyL d (uE 26)) : ∃ (z0 : Int) (z1 : ByteArray) (z2 : Int) (z3 : Int) (n4 : Nat) (c4 : UD) (n5 : Nat) (c5 : UD) (n6 : Nat) (c6 : UD) (z7 : Int) (z8 : ByteArray) (z9 : Int) (n10 : Nat) (c10 : UD) (n11 : Nat) (c11 : UD) (n12 : Nat) (c12 : UD) (z13 : ByteArray) (n14 : Nat) (c14 : UD) (n15 : Nat) (c15 : UD) (z16 : Int) (n17 : Nat) (c17 : UD), d = .p (.int .i64 z0) (.p (.string z1) (.p (.int .i64 z2) (.p (.int .i64 z3) (.l 3 n4 c4 (.l 1 n5 c5 (.l 2 n6 c6 (.p (.int .i64 z7) (.p (.string z8) (.p (.int .i64 z9) (.l 1 n10 c10 (.l 5 n11 c11 (.l 2 n12 c12 (.p (.string z13) (.l 2 n14 c14 (.l 1 n15 c15 (.p (.int .i64 z16) (.l 2 n17 c17 .nil))))))))))))))))) ∧ inK .i64 z0 ∧ z1.size ≤ maxLen ∧ inK .i64 z2 ∧ inK .i64 z3 ∧ tyS 3 n4 c4 5 ∧ tyS 1 n5 c5 0 ∧ tyS 2 n6 c6 15 ∧ inK .i64 z7 ∧ z8.size ≤ maxLen ∧ inK .i64 z9 ∧ tyS 1 n10 c10 0 ∧ tyS 5 n11 c11 6 ∧ tyS 2 n12 c12 17 ∧ z13.size ≤ maxLen ∧ tyS 2 n14 c14 4 ∧ tyS 1 n15 c15 0 ∧ inK .i64 z16 ∧ tyS 2 n17 c17 22 := by
  obtain ⟨z0, r, rfl, g0, h0⟩ := tyL.i h
  obtain ⟨z1, r, rfl, g1, h1⟩ := tyL.s h0
  obtain ⟨z2, r, rfl, g2, h2⟩ := tyL.i h1
  obtain ⟨z3, r, rfl, g3, h3⟩ := tyL.i h2
  obtain ⟨n4, c4, r, rfl, g4, h4⟩ := tyL.l h3
  obtain ⟨n5, c5, r, rfl, g5, h5⟩ := tyL.l h4
  obtain ⟨n6, c6, r, rfl, g6, h6⟩ := tyL.l h5
  obtain ⟨z7, r, rfl, g7, h7⟩ := tyL.i h6
  obtain ⟨z8, r, rfl, g8, h8⟩ := tyL.s h7
  obtain ⟨z9, r, rfl, g9, h9⟩ := tyL.i h8
  obtain ⟨n10, c10, r, rfl, g10, h10⟩ := tyL.l h9
  obtain ⟨n11, c11, r, rfl, g11, h11⟩ := tyL.l h10
  obtain ⟨n12, c12, r, rfl, g12, h12⟩ := tyL.l h11
  obtain ⟨z13, r, rfl, g13, h13⟩ := tyL.s h12
  obtain ⟨n14, c14, r, rfl, g14, h14⟩ := tyL.l h13
  obtain ⟨n15, c15, r, rfl, g15, h15⟩ := tyL.l h14
  obtain ⟨z16, r, rfl, g16, h16⟩ := tyL.i h15
  obtain ⟨n17, c17, r, rfl, g17, h17⟩ := tyL.l h16
  obtain rfl := tyL.nil h17
  exact ⟨z0, z1, z2, z3, n4, c4, n5, c5, n6, c6, z7, z8, z9, n10, c10, n11, c11, n12, c12, z13, n14, c14, n15, c15, z16, n17, c17, rfl, g0, g1, g2, g3, g4, g5, g6, g7, g8, g9, g10, g11, g12, g13, g14, g15, g16, g17⟩
theorem partsEvent {d : UD} (h : tyL d (uE 27)) : ∃ (z0 : Int) (z1 : Int) (z2 : ByteArray) (z3 : Int) (z4 : Int) (n5 : Nat) (c5 : UD) (n6 : Nat) (c6 : UD) (n7 : Nat) (c7 : UD) (z8 : Int) (z9 : ByteArray) (z10 : Int) (n11 : Nat) (c11 : UD) (n12 : Nat) (c12 : UD) (n13 : Nat) (c13 : UD) (z14 : ByteArray) (n15 : Nat) (c15 : UD) (n16 : Nat) (c16 : UD) (z17 : Int) (n18 : Nat) (c18 : UD) (z19 : ByteArray) (z20 : Int) (z21 : Int), d = .p (.int .i64 z0) (.p (.int .i64 z1) (.p (.string z2) (.p (.int .i64 z3) (.p (.int .i64 z4) (.l 3 n5 c5 (.l 1 n6 c6 (.l 2 n7 c7 (.p (.int .i64 z8) (.p (.string z9) (.p (.int .i64 z10) (.l 1 n11 c11 (.l 5 n12 c12 (.l 2 n13 c13 (.p (.string z14) (.l 2 n15 c15 (.l 1 n16 c16 (.p (.int .i64 z17) (.l 2 n18 c18 (.p (.string z19) (.p (.int .i64 z20) (.p (.int .i64 z21) .nil))))))))))))))))))))) ∧ inK .i64 z0 ∧ inK .i64 z1 ∧ z2.size ≤ maxLen ∧ inK .i64 z3 ∧ inK .i64 z4 ∧ tyS 3 n5 c5 5 ∧ tyS 1 n6 c6 0 ∧ tyS 2 n7 c7 15 ∧ inK .i64 z8 ∧ z9.size ≤ maxLen ∧ inK .i64 z10 ∧ tyS 1 n11 c11 0 ∧ tyS 5 n12 c12 6 ∧ tyS 2 n13 c13 17 ∧ z14.size ≤ maxLen ∧ tyS 2 n15 c15 4 ∧ tyS 1 n16 c16 0 ∧ inK .i64 z17 ∧ tyS 2 n18 c18 22 ∧ z19.size ≤ maxLen ∧ inK .i64 z20 ∧ inK .i64 z21 := by
  obtain ⟨z0, r, rfl, g0, h0⟩ := tyL.i h
  obtain ⟨z1, r, rfl, g1, h1⟩ := tyL.i h0
  obtain ⟨z2, r, rfl, g2, h2⟩ := tyL.s h1
  obtain ⟨z3, r, rfl, g3, h3⟩ := tyL.i h2
  obtain ⟨z4, r, rfl, g4, h4⟩ := tyL.i h3
  obtain ⟨n5, c5, r, rfl, g5, h5⟩ := tyL.l h4
  obtain ⟨n6, c6, r, rfl, g6, h6⟩ := tyL.l h5
  obtain ⟨n7, c7, r, rfl, g7, h7⟩ := tyL.l h6
  obtain ⟨z8, r, rfl, g8, h8⟩ := tyL.i h7
  obtain ⟨z9, r, rfl, g9, h9⟩ := tyL.s h8
  obtain ⟨z10, r, rfl, g10, h10⟩ := tyL.i h9
  obtain ⟨n11, c11, r, rfl, g11, h11⟩ := tyL.l h10
  obtain ⟨n12, c12, r, rfl, g12, h12⟩ := tyL.l h11
  obtain ⟨n13, c13, r, rfl, g13, h13⟩ := tyL.l h12
  obtain ⟨z14, r, rfl, g14, h14⟩ := tyL.s h13
  obtain ⟨n15, c15, r, rfl, g15, h15⟩ := tyL.l h14
  obtain ⟨n16, c16, r, rfl, g16, h16⟩ := tyL.l h15
  obtain ⟨z17, r, rfl, g17, h17⟩ := tyL.i h16
  obtain ⟨n18, c18, r, rfl, g18, h18⟩ := tyL.l h17
  obtain ⟨z19, r, rfl, g19, h19⟩ := tyL.s h18
  obtain ⟨z20, r, rfl, g20, h20⟩ := tyL.i h19
  obtain ⟨z21, r, rfl, g21, h21⟩ := tyL.i h20
  obtain rfl := tyL.nil h21
  exact ⟨z0, z1, z2, z3, z4, n5, c5, n6, c6, n7, c7, z8, z9, z10, n11, c11, n12, c12, n13, c13, z14, n15, c15, n16, c16, z17, n18, c18, z19, z20, z21, rfl, g0, g1, g2, g3, g4, g5, g6, g7, g8, g9, g10, g11, g12, g13, g14, g15, g16, g17, g18, g19, g20, g21⟩
theorem partsPart {d : UD} (h : tyL d (uE 28)) : ∃ (z0 : ByteArray) (z1 : Int), d = .p (.string z0) (.p (.int .i64 z1) .nil) ∧ z0.size ≤ maxLen ∧ inK .i64 z1 := by
  obtain ⟨z0, r, rfl, g0, h0⟩ := tyL.s h
  obtain ⟨z1, r, rfl, g1, h1⟩ := tyL.i h0
  obtain rfl := tyL.nil h1
  exact ⟨z0, z1, rfl, g0, g1⟩
theorem partsFed {d : UD} (h : tyL d (uE 29)) : ∃ (z0 : Int) (z1 : Int) (z2 : Int) (n3 : Nat) (c3 : UD) (n4 : Nat) (c4 : UD) (n5 : Nat) (c5 : UD) (n6 : Nat) (c6 : UD) (z7 : Bool) (n8 : Nat) (c8 : UD) (n9 : Nat) (c9 : UD) (n10 : Nat) (c10 : UD) (n11 : Nat) (c11 : UD), d = .p (.int .i64 z0) (.p (.int .i64 z1) (.p (.int .i64 z2) (.l 13 n3 c3 (.l 6 n4 c4 (.l 5 n5 c5 (.l 1 n6 c6 (.p (.bool z7) (.l 1 n8 c8 (.l 5 n9 c9 (.l 5 n10 c10 (.l 1 n11 c11 .nil))))))))))) ∧ inK .i64 z0 ∧ inK .i64 z1 ∧ inK .i64 z2 ∧ tyS 13 n3 c3 18 ∧ tyS 6 n4 c4 19 ∧ tyS 5 n5 c5 20 ∧ tyS 1 n6 c6 0 ∧ tyS 1 n8 c8 2 ∧ tyS 5 n9 c9 24 ∧ tyS 5 n10 c10 25 ∧ tyS 1 n11 c11 0 := by
  obtain ⟨z0, r, rfl, g0, h0⟩ := tyL.i h
  obtain ⟨z1, r, rfl, g1, h1⟩ := tyL.i h0
  obtain ⟨z2, r, rfl, g2, h2⟩ := tyL.i h1
  obtain ⟨n3, c3, r, rfl, g3, h3⟩ := tyL.l h2
  obtain ⟨n4, c4, r, rfl, g4, h4⟩ := tyL.l h3
  obtain ⟨n5, c5, r, rfl, g5, h5⟩ := tyL.l h4
  obtain ⟨n6, c6, r, rfl, g6, h6⟩ := tyL.l h5
  obtain ⟨z7, r, rfl, h7⟩ := tyL.b h6
  obtain ⟨n8, c8, r, rfl, g8, h8⟩ := tyL.l h7
  obtain ⟨n9, c9, r, rfl, g9, h9⟩ := tyL.l h8
  obtain ⟨n10, c10, r, rfl, g10, h10⟩ := tyL.l h9
  obtain ⟨n11, c11, r, rfl, g11, h11⟩ := tyL.l h10
  obtain rfl := tyL.nil h11
  exact ⟨z0, z1, z2, n3, c3, n4, c4, n5, c5, n6, c6, z7, n8, c8, n9, c9, n10, c10, n11, c11, rfl, g0, g1, g2, g3, g4, g5, g6, g8, g9, g10, g11⟩
end Go.Proofs.Ytdnodaoeflbfkaa
