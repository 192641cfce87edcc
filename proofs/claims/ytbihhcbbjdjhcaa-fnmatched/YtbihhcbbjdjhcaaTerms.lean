/- Rows of terms (a number, a string, a slice of strings): where a slice of terms leads; the helpers of the laws over them. -/
import Derived.Test.YtbihhcbbjdjhcaaStrs
import Derived.Test.YtbihhcbbjdjhcaaOwnB
namespace Go.Proofs.Ytbihhcbbjdjhcaa
open Go.RowKit
set_option linter.unusedVariables false

abbrev TD := Int × ByteArray × List ByteArray
def termAt (w : World) (b o : Nat) (t : TD) : Prop :=
  w.cell? ⟨b, o, none⟩ = some (.int .i64 t.1) ∧ w.cell? ⟨b, o + 1, none⟩ = some (.string t.2.1) ∧ ∃ a cap, w.cell? ⟨b, o + 2, none⟩ = some (.slice a t.2.2.length cap) ∧ strOf w a t.2.2 ∧ t.2.2.length ≤ cap ∧ (a = none → cap = 0)
def termsAt (w : World) (b off : Nat) (ts : List TD) : Prop := ∀ i (h : i < ts.length), termAt w b (off + i * 3) (ts[i]'h)
def termsOf (w : World) (a : Option Addr) (ts : List TD) : Prop := 0 < ts.length → ∃ b off, a = some ⟨b, off, none⟩ ∧ termsAt w b off ts
theorem termAt.below {w w' : World} {b o : Nat} {t : TD} (h : termAt w b o t) (hb : Below w.heap.size w w') : termAt w' b o t := by
  obtain ⟨h0, h1, a, cap, h2, h3⟩ := h
  have hbb := World.block_lt_of_cell? _ _ h0
  exact ⟨(hb.cell (p := ⟨b, o, none⟩) hbb).trans h0, (hb.cell (p := ⟨b, o + 1, none⟩) hbb).trans h1, a, cap, (hb.cell (p := ⟨b, o + 2, none⟩) hbb).trans h2, h3.1.below hb, h3.2⟩
theorem termsAt.below {w w' : World} {b off : Nat} {ts : List TD} (h : termsAt w b off ts) (hb : Below w.heap.size w w') : termsAt w' b off ts := fun i hi => (h i hi).below hb
theorem termsOf.below {w w' : World} {a : Option Addr} {ts : List TD} (h : termsOf w a ts) (hb : Below w.heap.size w w') : termsOf w' a ts := by
  intro hl
  obtain ⟨b, off, e, h⟩ := h hl
  exact ⟨b, off, e, h.below hb⟩

def szT (t : TD) (l : Int) : Int := if l - t.2.1.size < 0 then -1 else if szSS t.2.2 (l - t.2.1.size) < 0 then -1 else szSS t.2.2 (l - t.2.1.size)
def szTs : List TD → Int → Int
  | [], l => l
  | t :: r, l => if szT t l < 0 then -1 else szTs r (szT t l)
def szTS (ts : List TD) (left : Int) : Int := if left - ts.length < 0 then -1 else szTs ts (left - ts.length)
theorem szStrs_le : ∀ (ss : List ByteArray) (l : Int), szStrs ss l ≤ l ∨ szStrs ss l = -1
  | [], l => .inl (Int.le_refl _)
  | s :: r, l => by
    unfold szStrs
    split
    · exact .inr rfl
    · rcases szStrs_le r (l - s.size) with h | h
      · left; omega
      · exact .inr h
theorem szSS_le (ss : List ByteArray) (l : Int) : szSS ss l ≤ l ∨ szSS ss l = -1 := by
  unfold szSS
  split
  · exact .inr rfl
  · rcases szStrs_le ss (l - ss.length) with h | h
    · left; omega
    · exact .inr h
theorem szT_le (t : TD) (l : Int) : szT t l ≤ l ∨ szT t l = -1 := by
  unfold szT
  split
  · exact .inr rfl
  · split
    · exact .inr rfl
    · rcases szSS_le t.2.2 (l - t.2.1.size) with h | h
      · left; omega
      · exact .inr h
theorem szTs_drop (ts : List TD) (k : Nat) (h : k < ts.length) (l : Int) : szTs (ts.drop k) l = if szT (ts[k]'h) l < 0 then -1 else szTs (ts.drop (k + 1)) (szT (ts[k]'h) l) := by
  rw [List.drop_eq_getElem_cons h]; rfl
def okTerm (t : TD) : Prop := t.2.1.size ≤ maxLen ∧ t.2.2.length ≤ maxLen ∧ okStrs t.2.2
def okTerms (ts : List TD) : Prop := ∀ t ∈ ts, okTerm t

theorem szStrs_ok : ∀ (ss : List ByteArray) (l : Int), 0 ≤ l → ¬ szStrs ss l < 0 → ∀ s ∈ ss, (s.size : Int) ≤ l
  | [], l, _, _, s, hs => by simp at hs
  | x :: r, l, h0, h, s, hs => by
    unfold szStrs at h
    split at h
    · omega
    · rcases List.mem_cons.1 hs with rfl | hs
      · omega
      · have := szStrs_ok r (l - x.size) (by omega) h s hs; omega
theorem szSS_ok {ss : List ByteArray} {l : Int} (h : ¬ szSS ss l < 0) : (ss.length : Int) ≤ l ∧ ∀ s ∈ ss, (s.size : Int) ≤ l := by
  unfold szSS at h
  split at h
  · omega
  · exact ⟨by omega, fun s hs => by have := szStrs_ok ss (l - ss.length) (by omega) h s hs; omega⟩
theorem szT_ok {t : TD} {l : Int} (h : ¬ szT t l < 0) : (t.2.1.size : Int) ≤ l ∧ (t.2.2.length : Int) ≤ l ∧ (∀ s ∈ t.2.2, (s.size : Int) ≤ l) ∧ 0 ≤ szT t l ∧ szT t l ≤ l := by
  have hle := szT_le t l
  have h' := h
  unfold szT at h
  split at h
  · omega
  · split at h
    · omega
    · have h1 := szSS_ok h
      exact ⟨by omega, by omega, fun s hs => by have := h1.2 s hs; omega, by omega, by omega⟩
theorem szTs_ok : ∀ (ts : List TD) (l : Int), ¬ szTs ts l < 0 → ∀ t ∈ ts, (t.2.1.size : Int) ≤ l ∧ (t.2.2.length : Int) ≤ l ∧ (∀ s ∈ t.2.2, (s.size : Int) ≤ l)
  | [], l, _, t, ht => by simp at ht
  | x :: r, l, h, t, ht => by
    unfold szTs at h
    split at h
    · omega
    · rename_i hx
      have h1 := szT_ok hx
      rcases List.mem_cons.1 ht with rfl | ht
      · exact ⟨h1.1, h1.2.1, h1.2.2.1⟩
      · have h2 := szTs_ok r _ h t ht
        exact ⟨by omega, by omega, fun s hs => by have := h2.2.2 s hs; omega⟩
theorem szTS_len {ts : List TD} (h : ¬ szTS ts 1048576 < 0) : ts.length ≤ 1048576 := by unfold szTS at h; split at h <;> omega
theorem szTS_all {ts : List TD} (h : ¬ szTS ts 1048576 < 0) : ∀ t ∈ ts, t.2.1.size ≤ 1048576 ∧ t.2.2.length ≤ 1048576 ∧ ∀ s ∈ t.2.2, s.size ≤ 1048576 := by
  unfold szTS at h
  split at h
  · omega
  · intro t ht
    have := szTs_ok ts _ h t ht
    exact ⟨by omega, by omega, fun s hs => by have := this.2.2 s hs; omega⟩
theorem szTs_le : ∀ (ts : List TD) (l : Int), szTs ts l ≤ l ∨ szTs ts l = -1
  | [], l => .inl (Int.le_refl _)
  | t :: r, l => by
    unfold szTs
    split
    · exact .inr rfl
    · rcases szTs_le r (szT t l) with h | h
      · rcases szT_le t l with h' | h'
        · left; omega
        · left; omega
      · exact .inr h
theorem szTS_le (ts : List TD) (l : Int) : szTS ts l ≤ l ∨ szTS ts l = -1 := by
  unfold szTS
  split
  · exact .inr rfl
  · rcases szTs_le ts (l - ts.length) with h | h
    · left; omega
    · exact .inr h
theorem szTS_len' {ts : List TD} {l : Int} (h : ¬ szTS ts l < 0) (hl : l ≤ 1048576) : ts.length ≤ 1048576 := by unfold szTS at h; split at h <;> omega
theorem szTS_all' {ts : List TD} {l : Int} (h : ¬ szTS ts l < 0) (hl : l ≤ 1048576) : ∀ t ∈ ts, t.2.1.size ≤ 1048576 ∧ t.2.2.length ≤ 1048576 ∧ ∀ s ∈ t.2.2, s.size ≤ 1048576 := by
  unfold szTS at h
  split at h
  · omega
  · intro t ht
    have := szTs_ok ts _ h t ht
    exact ⟨by omega, by omega, fun s hs => by have := this.2.2 s hs; omega⟩
theorem szTS_vals' {ts : List TD} {l : Int} (h : ¬ szTS ts l < 0) (hl : l ≤ 1048576) : ∀ t ∈ ts, t.2.2.length ≤ 1048576 := fun t ht => (szTS_all' h hl t ht).2.1
theorem szTS_vals {ts : List TD} (h : ¬ szTS ts 1048576 < 0) : ∀ t ∈ ts, t.2.2.length ≤ 1048576 := fun t ht => (szTS_all h t ht).2.1


theorem owns_slot {w : World} {B g n cap : Nat} {e : TypeId} {size : Nat} {xs : List Value} (h : w.ownsRow B e size (.slice (some ⟨g, 0, none⟩) n cap) n xs) : g < w.heap.size := by
  rcases h.2 with ⟨h, _⟩ | ⟨g', cap', cur, h, _, hh, _⟩
  · cases h
  · cases h; exact (Array.getElem?_eq_some_iff.1 hh).1
theorem owns_at_set {w : World} {B : Nat} {e : TypeId} {size : Nat} {v : Value} {n : Nat} {xs : List Value} {p : Addr} {u : Value} (h : w.ownsRow B e size v n xs) (hp : p.block < B) : (w.setCell p u).ownsRow B e size v n xs := ownsRow_setCell_below h hp u


theorem Try.infoTerm : (Try.prog.info? 33).map (fun i => (i.zero, i.size, i.bytes)) = some (some (.agg #[.int .i64 0, .string ByteArray.empty, .slice none 0 0]), 3, 48) := by kernel_rfl
/-- place j of a row of cells holds a term whose strings the call owns -/
def termIs (w : World) (B : Nat) (xs : List Value) (j : Nat) (t : TD) : Prop :=
  xs[j * 3]? = some (.int .i64 t.1) ∧ xs[j * 3 + 1]? = some (.string t.2.1) ∧ ∃ g, xs[j * 3 + 2]? = some (.slice (some ⟨g, 0, none⟩) t.2.2.length t.2.2.length) ∧
    w.ownsRow B 9 1 (.slice (some ⟨g, 0, none⟩) t.2.2.length t.2.2.length) t.2.2.length (strVs t.2.2)
theorem termIs.below {w w' : World} {B : Nat} {xs : List Value} {j : Nat} {t : TD} (h : termIs w B xs j t) (hb : Below w.heap.size w w') : termIs w' B xs j t := by
  obtain ⟨h0, h1, g, h2, h3⟩ := h
  exact ⟨h0, h1, g, h2, owns_below_any h3 hb⟩
theorem termIs.set {w : World} {B : Nat} {xs : List Value} {j : Nat} {t : TD} {p : Addr} {u : Value} (h : termIs w B xs j t) (hp : p.block < B) : termIs (w.setCell p u) B xs j t := by
  obtain ⟨h0, h1, g, h2, h3⟩ := h
  exact ⟨h0, h1, g, h2, owns_at_set h3 hp⟩
theorem termsOf_owns {w : World} {B B' g n cap : Nat} {e : TypeId} {xs : List Value} {ts : List TD} (h : w.ownsRow B e 3 (.slice (some ⟨g, 0, none⟩) n cap) n xs) (hn : n = ts.length) (ht : ∀ j (hj : j < ts.length), termIs w B' xs j ts[j]) : termsOf w (some ⟨g, 0, none⟩) ts := by
  intro _
  refine ⟨g, 0, rfl, fun i hi => ?_⟩
  obtain ⟨h0, h1, g', h2, h3⟩ := ht i hi
  subst hn
  rw [Nat.zero_add]
  exact ⟨(h.cellAt _ (by omega)).trans h0, (h.cellAt _ (by omega)).trans h1, _, _, (h.cellAt _ (by omega)).trans h2, strOf_owns h3, Nat.le_refl _, fun h => by cases h⟩
end Go.Proofs.Ytbihhcbbjdjhcaa
