/- Slices of terms that came in: what a reading of them says. -/
import Derived.Test.YtbadjopaocindaaTerms2
import Derived.Deep.Slices
import Derived.ProofKit
namespace Go.Proofs.Ytbadjopaocindaa
open Go.RowKit
open Go.ChangeShapes Go.WideShapes Go.ChangeAt
set_option linter.unusedVariables false

theorem len3 {l : List Value} (h : l.length = 3) : ∃ a b c, l = [a, b, c] := by
  match l, h with
  | [a, b, c], _ => exact ⟨a, b, c, rfl⟩
theorem open_strs {H : Type} {enc : TypeId × Value → H} {w : World} {base : Nat} {spare : Nat → Bool} {held : Bool} {cs : List Value} {fuel : Nat} {x : DataW H × List MemPlace}
    (h : DataW.trod enc Try.prog w base spare held fuel 31 cs = some x) :
    ∃ (ss : List ByteArray) (a : Option Addr) (cap : Nat), cs = [.slice a ss.length cap] ∧ ss.length ≤ maxLen ∧ okStrs ss ∧ strOf w a ss ∧ ss.length ≤ cap ∧ (a = none → cap = 0) := by
  rcases Go.Deep.open_slice1 Try.underlying31 (by kernel_rfl) h with ⟨hcs, _⟩ | ⟨a', len', cap', m, n, V, D, Pl, hcs, _, hl, hm, hmm, _, hx⟩
  · exact ⟨[], none, 0, hcs, Nat.zero_le _, fun s hs => by simp at hs, fun h => by simp at h, Nat.zero_le _, fun _ => rfl⟩
  · have each : ∀ i, i < len' → ∃ q : ByteArray, V i = .string q ∧ q.size ≤ maxLen := fun i hi => by
      have hi' : i < m := by rw [hmm]; split <;> omega
      obtain ⟨s, h1, _, h3⟩ := DataW.trod_string Try.underlying9 (hx i hi').2
      exact ⟨s, by simpa using h1, h3⟩
    obtain ⟨q, hq⟩ := Go.Deep.choose_lt each
    refine ⟨(List.range len').map q, some a', cap', by simpa using hcs, by simp; omega, ?_, ?_, by simp; omega, fun h => by cases h⟩
    · intro p hp
      obtain ⟨i, hi, rfl⟩ := List.mem_map.1 hp
      exact (hq i (List.mem_range.1 hi)).2
    · intro h0
      simp only [List.length_map, List.length_range] at h0
      obtain ⟨b, off, spot⟩ := a'
      have hc := (hx 0 (by rw [hmm]; split <;> omega)).1
      have hspot : spot = none := by simpa [Addr.add] using World.cell?_spot hc
      subst hspot
      refine ⟨b, off, rfl, fun i hi => ?_⟩
      simp only [List.length_map, List.length_range] at hi
      have hi' : i < m := by rw [hmm]; split <;> omega
      have e0 := (hx i hi').1
      rw [(hq i hi).1] at e0
      simp only [List.getElem_map, List.getElem_range]
      rw [Go.WideShapes.add_plain] at e0
      exact e0

theorem open_terms {H : Type} {enc : TypeId × Value → H} {w : World} {base : Nat} {spare : Nat → Bool} {held : Bool} {cs : List Value} {fuel : Nat} {x : DataW H × List MemPlace}
    (h : DataW.trod enc Try.prog w base spare held fuel 43 cs = some x) :
    ∃ (ts : List TD) (a : Option Addr) (cap : Nat), cs = [.slice a ts.length cap] ∧ ts.length ≤ maxLen ∧ okTerms ts ∧ termsOf w a ts := by
  have n0 : Try.prog.cellsOf 3 = 1 := by kernel_rfl
  have n1 : Try.prog.cellsOf 9 = 1 := by kernel_rfl
  have n2 : Try.prog.cellsOf 31 = 1 := by kernel_rfl
  have hc3 : Try.prog.cellsOf 102 = 3 := by kernel_rfl
  rcases Go.Deep.open_slice Try.underlying43 h with ⟨hcs, _⟩ | ⟨a', len', cap', m, n, D, Pl, hcs, _, hl, hm, hmm, _, hx⟩
  · exact ⟨[], none, 0, hcs, Nat.zero_le _, fun s hs => by simp at hs, fun h => by simp at h⟩
  · have each : ∀ i, i < len' → ∃ q : TD, okTerm q ∧ w.cell? (a'.add (i * 3)) = some (.int .i64 q.1) ∧ w.cell? (a'.add (i * 3 + 1)) = some (.string q.2.1) ∧ ∃ a cap, w.cell? (a'.add (i * 3 + 2)) = some (.slice a q.2.2.length cap) ∧ strOf w a q.2.2 ∧ q.2.2.length ≤ cap ∧ (a = none → cap = 0) := fun i hi => by
      have hi' : i < m := by rw [hmm]; split <;> omega
      obtain ⟨cs', h1, h2⟩ := hx i hi'
      rw [hc3] at h1
      obtain ⟨_, hlen, hcell⟩ := World.cells?_some h1
      obtain ⟨xs, k, hk, hxy, _, hxl, hf⟩ := DataW.trod_struct Try.underlying102 h2
      obtain ⟨v0, v1, v2, rfl⟩ := len3 hlen
      · have e0 := hcell 0 (by omega)
        have e1 := hcell 1 (by omega)
        have e2 := hcell 2 (by omega)
        rw [Go.Deep.add_add] at e0 e1 e2
        obtain ⟨y0, g0⟩ : ∃ y, xs[0]? = some y := ⟨_, List.getElem?_eq_getElem (by rw [hxl]; decide)⟩
        obtain ⟨y1, g1⟩ : ∃ y, xs[1]? = some y := ⟨_, List.getElem?_eq_getElem (by rw [hxl]; decide)⟩
        obtain ⟨y2, g2⟩ : ∃ y, xs[2]? = some y := ⟨_, List.getElem?_eq_getElem (by rw [hxl]; decide)⟩
        have f0 : DataW.trod enc Try.prog w base spare held k 3 [v0] = some y0 := by have := (hf 0 _ rfl).trans g0; simpa [n0] using this
        have f1 : DataW.trod enc Try.prog w base spare held k 9 [v1] = some y1 := by have := (hf 1 _ rfl).trans g1; simpa [n1] using this
        have f2 : DataW.trod enc Try.prog w base spare held k 31 [v2] = some y2 := by have := (hf 2 _ rfl).trans g2; simpa [n2] using this
        obtain ⟨kd, q0, -, -⟩ := DataW.trod_int Try.underlying3 f0
        obtain ⟨key, q1, -, hks⟩ := DataW.trod_string Try.underlying9 f1
        obtain ⟨ss, a, cap, q2, hsl, hss, hso⟩ := open_strs f2
        have k0 : v0 = .int .i64 kd := by simpa using q0
        have k1 : v1 = .string key := by simpa using q1
        have k2 : v2 = .slice a ss.length cap := by simpa using q2
        subst k0 k1 k2
        exact ⟨(kd, key, ss), ⟨hks, hsl, hss⟩, by simpa using e0, by simpa using e1, a, cap, by simpa using e2, hso⟩
    obtain ⟨q, hq⟩ := Go.Deep.choose_lt each
    refine ⟨(List.range len').map q, some a', cap', by simpa using hcs, by simp; omega, ?_, ?_⟩
    · intro p hp
      obtain ⟨i, hi, rfl⟩ := List.mem_map.1 hp
      exact (hq i (List.mem_range.1 hi)).1
    · intro h0
      simp only [List.length_map, List.length_range] at h0
      obtain ⟨b, off, spot⟩ := a'
      have hc := (hq 0 h0).2.1
      have hspot : spot = none := by simpa [Addr.add] using World.cell?_spot hc
      subst hspot
      refine ⟨b, off, rfl, fun i hi => ?_⟩
      simp only [List.length_map, List.length_range] at hi
      obtain ⟨_, c0, c1, a, cap, c2, c3⟩ := hq i hi
      simp only [List.getElem_map, List.getElem_range]
      rw [Go.WideShapes.add_plain] at c0 c1 c2
      exact ⟨c0, by rw [Nat.add_assoc]; exact c1, a, cap, by rw [Nat.add_assoc]; exact c2, c3⟩
end Go.Proofs.Ytbadjopaocindaa
