/- Islands and wants: their data, and where they lie. -/
import Derived.Test.YtdnodaoeflbfkaaU3
import Derived.Test.YtdnodaoeflbfkaaStrL
import Derived.Test.YtdnodaoeflbfkaaTerms
import Derived.Test.YtdnodaoeflbfkaaLabs2
import Derived.Test.YtdnodaoeflbfkaaIntL
namespace Go.Proofs.Ytdnodaoeflbfkaa
open Go.RowKit Go.BigFrame
set_option linter.unusedVariables false

theorem list_of {α : Type} (P : Nat → α → Prop) : ∀ n, (∀ i, i < n → ∃ x, P i x) → ∃ l : List α, l.length = n ∧ ∀ i (h : i < l.length), P i (l[i]'h) := by
  intro n
  induction n with
  | zero => exact fun _ => ⟨[], rfl, fun i h => by cases h⟩
  | succ n ih =>
    intro h
    obtain ⟨l, h1, h2⟩ := ih (fun i hi => h i (by omega))
    obtain ⟨x, hx⟩ := h n (by omega)
    refine ⟨l ++ [x], by simp [h1], fun i hi => ?_⟩
    by_cases e : i < l.length
    · rw [List.getElem_append_left e]; exact h2 i e
    · have : i = n := by simp at hi; omega
      subst this
      rw [List.getElem_append_right (by omega)]
      simpa [h1] using hx
abbrev WgD := ByteArray × Int
abbrev IsD := ByteArray × List (ByteArray × ByteArray) × List ByteArray × Int
abbrev WaD := Int × List TD × List ByteArray × List WgD

def wgAt (w : World) (b o : Nat) (x : WgD) : Prop := w.cell? ⟨b, o, none⟩ = some (.string x.1) ∧ w.cell? ⟨b, o + 1, none⟩ = some (.int .i64 x.2)
def wgsOf (w : World) (a : Option Addr) (l : List WgD) : Prop := 0 < l.length → ∃ b off, a = some ⟨b, off, none⟩ ∧ ∀ i (h : i < l.length), wgAt w b (off + i * 2) (l[i]'h)
theorem wgAt.below {w w' : World} {b o : Nat} {x : WgD} (h : wgAt w b o x) (hb : Below w.heap.size w w') : wgAt w' b o x :=
  have hbb := World.block_lt_of_cell? _ _ h.1
  ⟨(hb.cell (p := ⟨b, o, none⟩) hbb).trans h.1, (hb.cell (p := ⟨b, o + 1, none⟩) hbb).trans h.2⟩
theorem wgsOf.below {w w' : World} {a : Option Addr} {l : List WgD} (h : wgsOf w a l) (hb : Below w.heap.size w w') : wgsOf w' a l := fun hl => by
  obtain ⟨b, off, e, h⟩ := h hl
  exact ⟨b, off, e, fun i hi => (h i hi).below hb⟩
def okWg (x : WgD) : Prop := x.1.size ≤ maxLen ∧ inK .i64 x.2
def okWgs (l : List WgD) : Prop := l.length ≤ maxLen ∧ ∀ x ∈ l, okWg x
theorem rowOf_below {w w' : World} {a : Option Addr} {ls : List (ByteArray × ByteArray)} (h : rowOf w a ls) (hb : Below w.heap.size w w') : rowOf w' a ls := fun hl => by
  obtain ⟨b, off, e, h⟩ := h hl
  refine ⟨b, off, e, fun i hi => ?_⟩
  have hbb := World.block_lt_of_cell? _ _ (h i hi).1
  exact ⟨(hb.cell (p := ⟨b, off + i * 2, none⟩) hbb).trans (h i hi).1, (hb.cell (p := ⟨b, off + i * 2 + 1, none⟩) hbb).trans (h i hi).2⟩

/-- the cells of an island -/
def isC (w : World) (I : IsD) (c1 c2 : Value) : Prop := (∃ a p, c1 = .slice a I.2.1.length p ∧ rowOf w a I.2.1) ∧ ∃ a p, c2 = .slice a I.2.2.1.length p ∧ strOf w a I.2.2.1
theorem isC.below {w w' : World} {I : IsD} {c1 c2 : Value} (h : isC w I c1 c2) (hb : Below w.heap.size w w') : isC w' I c1 c2 := by
  obtain ⟨⟨a, p, e, h⟩, a', p', e', h'⟩ := h
  exact ⟨⟨a, p, e, rowOf_below h hb⟩, a', p', e', h'.below hb⟩
def isH (w : World) (I : IsD) (xs : List Value) : Prop := ∃ c1 c2, xs = [.string I.1, c1, c2, .int .i64 I.2.2.2] ∧ isC w I c1 c2
theorem isH.below {w w' : World} {I : IsD} {xs : List Value} (h : isH w I xs) (hb : Below w.heap.size w w') : isH w' I xs := by
  obtain ⟨c1, c2, e, h⟩ := h
  exact ⟨c1, c2, e, h.below hb⟩
def isAt (w : World) (b o : Nat) (I : IsD) : Prop := ∃ c1 c2, w.cell? ⟨b, o, none⟩ = some (.string I.1) ∧ w.cell? ⟨b, o + 1, none⟩ = some c1 ∧ w.cell? ⟨b, o + 2, none⟩ = some c2 ∧ w.cell? ⟨b, o + 3, none⟩ = some (.int .i64 I.2.2.2) ∧ isC w I c1 c2
theorem isAt.below {w w' : World} {b o : Nat} {I : IsD} (h : isAt w b o I) (hb : Below w.heap.size w w') : isAt w' b o I := by
  obtain ⟨c1, c2, h0, h1, h2, h3, h⟩ := h
  have hbb := World.block_lt_of_cell? _ _ h0
  exact ⟨c1, c2, (hb.cell (p := ⟨b, o, none⟩) hbb).trans h0, (hb.cell (p := ⟨b, o + 1, none⟩) hbb).trans h1, (hb.cell (p := ⟨b, o + 2, none⟩) hbb).trans h2, (hb.cell (p := ⟨b, o + 3, none⟩) hbb).trans h3, h.below hb⟩
def isS (w : World) (c : Value) (l : List IsD) : Prop := ∃ a p, c = .slice a l.length p ∧ (0 < l.length → ∃ b off, a = some ⟨b, off, none⟩ ∧ ∀ i (h : i < l.length), isAt w b (off + i * 4) (l[i]'h))
theorem isS.below {w w' : World} {c : Value} {l : List IsD} (h : isS w c l) (hb : Below w.heap.size w w') : isS w' c l := by
  obtain ⟨a, p, e, h⟩ := h
  refine ⟨a, p, e, fun hl => ?_⟩
  obtain ⟨b, off, e, h⟩ := h hl
  exact ⟨b, off, e, fun i hi => (h i hi).below hb⟩
def okIs1 (I : IsD) : Prop := I.1.size ≤ maxLen ∧ (I.2.1.length ≤ maxLen ∧ okSizes I.2.1) ∧ (I.2.2.1.length ≤ maxLen ∧ okStrs I.2.2.1) ∧ inK .i64 I.2.2.2
/-- the cells of a want -/
def waC (w : World) (W : WaD) (c1 c2 c3 : Value) : Prop := (∃ a p, c1 = .slice a W.2.1.length p ∧ termsOf w a W.2.1) ∧ (∃ a p, c2 = .slice a W.2.2.1.length p ∧ strOf w a W.2.2.1) ∧ ∃ a p, c3 = .slice a W.2.2.2.length p ∧ wgsOf w a W.2.2.2
theorem waC.below {w w' : World} {W : WaD} {c1 c2 c3 : Value} (h : waC w W c1 c2 c3) (hb : Below w.heap.size w w') : waC w' W c1 c2 c3 := by
  obtain ⟨⟨a, p, e, h⟩, ⟨a', p', e', h'⟩, a2, p2, e2, h2⟩ := h
  exact ⟨⟨a, p, e, h.below hb⟩, ⟨a', p', e', h'.below hb⟩, a2, p2, e2, h2.below hb⟩
def waH (w : World) (W : WaD) (xs : List Value) : Prop := ∃ c1 c2 c3, xs = [.int .i64 W.1, c1, c2, c3] ∧ waC w W c1 c2 c3
theorem waH.below {w w' : World} {W : WaD} {xs : List Value} (h : waH w W xs) (hb : Below w.heap.size w w') : waH w' W xs := by
  obtain ⟨c1, c2, c3, e, h⟩ := h
  exact ⟨c1, c2, c3, e, h.below hb⟩
def waAt (w : World) (b o : Nat) (W : WaD) : Prop := ∃ c1 c2 c3, w.cell? ⟨b, o, none⟩ = some (.int .i64 W.1) ∧ w.cell? ⟨b, o + 1, none⟩ = some c1 ∧ w.cell? ⟨b, o + 2, none⟩ = some c2 ∧ w.cell? ⟨b, o + 3, none⟩ = some c3 ∧ waC w W c1 c2 c3
theorem waAt.below {w w' : World} {b o : Nat} {W : WaD} (h : waAt w b o W) (hb : Below w.heap.size w w') : waAt w' b o W := by
  obtain ⟨c1, c2, c3, h0, h1, h2, h3, h⟩ := h
  have hbb := World.block_lt_of_cell? _ _ h0
  exact ⟨c1, c2, c3, (hb.cell (p := ⟨b, o, none⟩) hbb).trans h0, (hb.cell (p := ⟨b, o + 1, none⟩) hbb).trans h1, (hb.cell (p := ⟨b, o + 2, none⟩) hbb).trans h2, (hb.cell (p := ⟨b, o + 3, none⟩) hbb).trans h3, h.below hb⟩
def waS (w : World) (c : Value) (l : List WaD) : Prop := ∃ a p, c = .slice a l.length p ∧ (0 < l.length → ∃ b off, a = some ⟨b, off, none⟩ ∧ ∀ i (h : i < l.length), waAt w b (off + i * 4) (l[i]'h))
theorem waS.below {w w' : World} {c : Value} {l : List WaD} (h : waS w c l) (hb : Below w.heap.size w w') : waS w' c l := by
  obtain ⟨a, p, e, h⟩ := h
  refine ⟨a, p, e, fun hl => ?_⟩
  obtain ⟨b, off, e, h⟩ := h hl
  exact ⟨b, off, e, fun i hi => (h i hi).below hb⟩
def okWa (W : WaD) : Prop := inK .i64 W.1 ∧ (W.2.1.length ≤ maxLen ∧ okTerms W.2.1) ∧ (W.2.2.1.length ≤ maxLen ∧ okStrs W.2.2.1) ∧ okWgs W.2.2.2

-- out of cells
theorem labs_of {n : Nat} {c : UD} (ht : tyS 2 n c 4) : ∃ l : List (ByteArray × ByteArray), l.length = n ∧ okSizes l ∧ ∀ (w : World) (lo hi : Nat) (v : Value), uS w lo hi 2 n c v → ∃ a p, v = .slice a n p ∧ rowOf w a l := by
  obtain ⟨l, h1, h2⟩ := list_of (fun i (x : ByteArray × ByteArray) => rowU c 2 i = .p (.string x.1) (.p (.string x.2) .nil) ∧ x.1.size ≤ maxLen ∧ x.2.size ≤ maxLen) n (fun i hi => by
    obtain ⟨z0, z1, e, g0, g1⟩ := partsLabel (ht.row hi)
    exact ⟨(z0, z1), e, g0, g1⟩)
  subst h1
  refine ⟨l, rfl, fun x hx => ?_, fun w lo hi v h => ?_⟩
  · obtain ⟨i, hi, rfl⟩ := List.getElem_of_mem hx
    exact (h2 i hi).2
  · obtain ⟨a, p, rfl, g⟩ := h
    refine ⟨a, p, rfl, fun hp => ?_⟩
    obtain ⟨b, off, e, -, hm⟩ := (show uS w lo hi 2 l.length c (.slice a l.length p) from ⟨a, p, rfl, g⟩).cells hp
    refine ⟨b, off, e, fun i hi => ?_⟩
    have := hm.row 2 i
    rw [(h2 i hi).1] at this
    exact ⟨this.1, this.2.1⟩
theorem strs_of {n : Nat} {c : UD} (ht : tyS 1 n c 0) : ∃ l : List ByteArray, l.length = n ∧ okStrs l ∧ ∀ (w : World) (lo hi : Nat) (v : Value), uS w lo hi 1 n c v → ∃ a p, v = .slice a n p ∧ strOf w a l ∧ n ≤ p ∧ (a = none → p = 0) := by
  obtain ⟨l, h1, h2⟩ := list_of (fun i (x : ByteArray) => rowU c 1 i = .p (.string x) .nil ∧ x.size ≤ maxLen) n (fun i hi => by
    obtain ⟨z0, e, g0⟩ := partsString (ht.row hi)
    exact ⟨z0, e, g0⟩)
  subst h1
  refine ⟨l, rfl, fun x hx => ?_, fun w lo hi v h => ?_⟩
  · obtain ⟨i, hi, rfl⟩ := List.getElem_of_mem hx
    exact (h2 i hi).2
  · obtain ⟨a, p, rfl, g⟩ := h
    refine ⟨a, p, rfl, fun hp => ?_, g.1.1, g.1.2.1⟩
    obtain ⟨b, off, e, -, hm⟩ := (show uS w lo hi 1 l.length c (.slice a l.length p) from ⟨a, p, rfl, g⟩).cells hp
    refine ⟨b, off, e, fun i hi => ?_⟩
    have := hm.row 1 i
    rw [(h2 i hi).1, Nat.mul_one] at this
    exact this.1
theorem wgs_of {n : Nat} {c : UD} (ht : tyS 2 n c 15) : ∃ l : List WgD, l.length = n ∧ okWgs l ∧ ∀ (w : World) (lo hi : Nat) (v : Value), uS w lo hi 2 n c v → ∃ a p, v = .slice a n p ∧ wgsOf w a l := by
  obtain ⟨l, h1, h2⟩ := list_of (fun i (x : WgD) => rowU c 2 i = .p (.string x.1) (.p (.int .i64 x.2) .nil) ∧ okWg x) n (fun i hi => by
    obtain ⟨z0, z1, e, g0, g1⟩ := partsWeigh (ht.row hi)
    exact ⟨(z0, z1), e, g0, g1⟩)
  subst h1
  refine ⟨l, rfl, ⟨ht.2.2.1, fun x hx => ?_⟩, fun w lo hi v h => ?_⟩
  · obtain ⟨i, hi, rfl⟩ := List.getElem_of_mem hx
    exact (h2 i hi).2
  · obtain ⟨a, p, rfl, g⟩ := h
    refine ⟨a, p, rfl, fun hp => ?_⟩
    obtain ⟨b, off, e, -, hm⟩ := (show uS w lo hi 2 l.length c (.slice a l.length p) from ⟨a, p, rfl, g⟩).cells hp
    refine ⟨b, off, e, fun i hi => ?_⟩
    have := hm.row 2 i
    rw [(h2 i hi).1] at this
    exact ⟨this.1, this.2.1⟩
theorem terms_of {n : Nat} {c : UD} (ht : tyS 3 n c 5) : ∃ l : List TD, l.length = n ∧ okTerms l ∧ ∀ (w : World) (lo hi : Nat) (v : Value), uS w lo hi 3 n c v → ∃ a p, v = .slice a n p ∧ termsOf w a l := by
  obtain ⟨l, h1, h2⟩ := list_of (fun i (x : TD) => okTerm x ∧ ∀ (w : World) (lo hi b o : Nat), uM w lo hi (rowU c 3 i) b o → termAt w b o x) n (fun i hi => by
    obtain ⟨z0, z1, n2, c2, e, g0, g1, g2⟩ := partsTerm (ht.row hi)
    obtain ⟨l, k1, k2, k3⟩ := strs_of g2
    refine ⟨(z0, z1, l), ⟨g1, by rw [k1]; exact g2.2.2.1, k2⟩, fun w lo hi b o h => ?_⟩
    rw [e] at h
    obtain ⟨h0, h1, ⟨a, p, h2, h3⟩, -⟩ := h
    obtain ⟨a', p', e', q1, q2, q3⟩ := k3 w lo hi _ ⟨a, p, rfl, h3⟩
    cases e'
    exact ⟨h0, h1, a, p, by rw [k1]; exact h2, q1, by rw [k1]; exact q2, q3⟩)
  subst h1
  refine ⟨l, rfl, fun x hx => ?_, fun w lo hi v h => ?_⟩
  · obtain ⟨i, hi, rfl⟩ := List.getElem_of_mem hx
    exact (h2 i hi).1
  · obtain ⟨a, p, rfl, g⟩ := h
    refine ⟨a, p, rfl, fun hp => ?_⟩
    obtain ⟨b, off, e, -, hm⟩ := (show uS w lo hi 3 l.length c (.slice a l.length p) from ⟨a, p, rfl, g⟩).cells hp
    exact ⟨b, off, e, fun i hj => (h2 i hj).2 w lo hi b _ (hm.row 3 i)⟩
theorem is_of {d : UD} (ht : tyL d (uE 14)) : ∃ I : IsD, okIs1 I ∧ ∀ (w : World) (lo hi : Nat) (xs : List Value), uH w lo hi d xs → isH w I xs := by
  obtain ⟨z0, n1, c1, n2, c2, z3, rfl, g0, g1, g2, g3⟩ := partsIsland ht
  obtain ⟨l1, k1, k2, k3⟩ := labs_of g1
  obtain ⟨l2, q1, q2, q3⟩ := strs_of g2
  refine ⟨(z0, l1, l2, z3), ⟨g0, ⟨by rw [k1]; exact g1.2.2.1, k2⟩, ⟨by rw [q1]; exact g2.2.2.1, q2⟩, g3⟩, fun w lo hi xs h => ?_⟩
  obtain ⟨_, rfl, ⟨v1, _, rfl, s1, ⟨v2, _, rfl, s2, ⟨_, rfl, rfl⟩⟩⟩⟩ := h
  obtain ⟨a, p, e, h⟩ := k3 w lo hi _ s1
  obtain ⟨a', p', e', h', -⟩ := q3 w lo hi _ s2
  exact ⟨v1, v2, rfl, ⟨a, p, by rw [k1]; exact e, h⟩, a', p', by rw [q1]; exact e', h'⟩
theorem wa_of {d : UD} (ht : tyL d (uE 16)) : ∃ W : WaD, okWa W ∧ ∀ (w : World) (lo hi : Nat) (xs : List Value), uH w lo hi d xs → waH w W xs := by
  obtain ⟨z0, n1, c1, n2, c2, n3, c3, rfl, g0, g1, g2, g3⟩ := partsWant ht
  obtain ⟨l1, k1, k2, k3⟩ := terms_of g1
  obtain ⟨l2, q1, q2, q3⟩ := strs_of g2
  obtain ⟨l3, r1, r2, r3⟩ := wgs_of g3
  refine ⟨(z0, l1, l2, l3), ⟨g0, ⟨by rw [k1]; exact g1.2.2.1, k2⟩, ⟨by rw [q1]; exact g2.2.2.1, q2⟩, r2⟩, fun w lo hi xs h => ?_⟩
  obtain ⟨_, rfl, ⟨v1, _, rfl, s1, ⟨v2, _, rfl, s2, ⟨v3, _, rfl, s3, rfl⟩⟩⟩⟩ := h
  obtain ⟨a, p, e, h⟩ := k3 w lo hi _ s1
  obtain ⟨a', p', e', h', -⟩ := q3 w lo hi _ s2
  obtain ⟨a2, p2, e2, h2⟩ := r3 w lo hi _ s3
  exact ⟨v1, v2, v3, rfl, ⟨a, p, by rw [k1]; exact e, h⟩, ⟨a', p', by rw [q1]; exact e', h'⟩, a2, p2, by rw [r1]; exact e2, h2⟩
theorem hand_at {w : World} {lo hi b o : Nat} {d : UD} (h : uM w lo hi d b o) : ∃ xs, uH w lo hi d xs ∧ ∀ j c, xs[j]? = some c → w.cell? ⟨b, o + j, none⟩ = some c := h.hand
theorem iss_of {n : Nat} {c : UD} (ht : tyS 4 n c 14) : ∃ l : List IsD, l.length = n ∧ (∀ I ∈ l, okIs1 I) ∧ ∀ (w : World) (lo hi : Nat) (v : Value), uS w lo hi 4 n c v → isS w v l := by
  obtain ⟨l, h1, h2⟩ := list_of (fun i (I : IsD) => okIs1 I ∧ ∀ (w : World) (lo hi : Nat) (xs : List Value), uH w lo hi (rowU c 4 i) xs → isH w I xs) n (fun i hi => is_of (ht.row hi))
  subst h1
  refine ⟨l, rfl, fun x hx => ?_, fun w lo hi v h => ?_⟩
  · obtain ⟨i, hi, rfl⟩ := List.getElem_of_mem hx
    exact (h2 i hi).1
  · obtain ⟨a, p, rfl, g⟩ := h
    refine ⟨a, p, rfl, fun hp => ?_⟩
    obtain ⟨b, off, e, -, hm⟩ := (show uS w lo hi 4 l.length c (.slice a l.length p) from ⟨a, p, rfl, g⟩).cells hp
    refine ⟨b, off, e, fun i hi => ?_⟩
    obtain ⟨xs, k1, k2⟩ := (hm.row 4 i).hand
    obtain ⟨c1, c2, rfl, hc⟩ := (h2 i hi).2 w _ _ xs k1
    exact ⟨c1, c2, k2 0 _ rfl, k2 1 _ rfl, k2 2 _ rfl, k2 3 _ rfl, hc⟩
theorem was_of {n : Nat} {c : UD} (ht : tyS 4 n c 16) : ∃ l : List WaD, l.length = n ∧ (∀ W ∈ l, okWa W) ∧ ∀ (w : World) (lo hi : Nat) (v : Value), uS w lo hi 4 n c v → waS w v l := by
  obtain ⟨l, h1, h2⟩ := list_of (fun i (W : WaD) => okWa W ∧ ∀ (w : World) (lo hi : Nat) (xs : List Value), uH w lo hi (rowU c 4 i) xs → waH w W xs) n (fun i hi => wa_of (ht.row hi))
  subst h1
  refine ⟨l, rfl, fun x hx => ?_, fun w lo hi v h => ?_⟩
  · obtain ⟨i, hi, rfl⟩ := List.getElem_of_mem hx
    exact (h2 i hi).1
  · obtain ⟨a, p, rfl, g⟩ := h
    refine ⟨a, p, rfl, fun hp => ?_⟩
    obtain ⟨b, off, e, -, hm⟩ := (show uS w lo hi 4 l.length c (.slice a l.length p) from ⟨a, p, rfl, g⟩).cells hp
    refine ⟨b, off, e, fun i hi => ?_⟩
    obtain ⟨xs, k1, k2⟩ := (hm.row 4 i).hand
    obtain ⟨c1, c2, c3, rfl, hc⟩ := (h2 i hi).2 w _ _ xs k1
    exact ⟨c1, c2, c3, k2 0 _ rfl, k2 1 _ rfl, k2 2 _ rfl, k2 3 _ rfl, hc⟩
end Go.Proofs.Ytdnodaoeflbfkaa
