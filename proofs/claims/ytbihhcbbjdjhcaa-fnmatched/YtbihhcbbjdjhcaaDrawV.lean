import Derived.Test.YtbihhcbbjdjhcaaDrawU
namespace Go.Proofs.Ytbihhcbbjdjhcaa
open Go.RowKit Go.BigFrame
set_option linter.unusedVariables false
/-! a store into one term of a row -/
theorem OTD.put {w : World} {lo g cap : Nat} {xs : List Value} {V V' : Nat → Value} {ts : List TD} (h : OTD w lo g cap xs V ts) {j o : Nat} (hj : j < ts.length) (ho : o < 3) (u : Value) (t' : TD)
    (c0 : (xs.set (j * 3 + o) u)[j * 3]? = some (.int .i64 t'.1)) (c1 : (xs.set (j * 3 + o) u)[j * 3 + 1]? = some (.string t'.2.1)) (c2 : (xs.set (j * 3 + o) u)[j * 3 + 2]? = some (V' j))
    (hv : w.ownsRow lo 9 1 (V' j) t'.2.2.length (strVs t'.2.2)) (hg : (V' j).ownBlock ≠ some g) (hV : ∀ i, i ≠ j → V' i = V i) (hap : apart V' ts.length) :
    OTD (w.setCell ⟨g, j * 3 + o, none⟩ u) lo g cap (xs.set (j * 3 + o) u) V' (ts.set j t') := by
  obtain ⟨h1, h2, h3⟩ := h
  have so : Out g (g + 1) w (w.setCell ⟨g, j * 3 + o, none⟩ u) := (Out.refl _ _ _).setCell (p := ⟨g, j * 3 + o, none⟩) (Nat.le_refl _) (Nat.lt_succ_self _) _
  have hb : ∀ (v : Value), v.ownBlock ≠ some g → ∀ b, v.ownBlock = some b → b < g ∨ g + 1 ≤ b := fun v hv b hb => by
    have : b ≠ g := by intro e; subst e; exact hv hb
    omega
  refine ⟨?_, fun i hi => ?_, ?_⟩
  · rw [List.length_set]
    exact (h1.stored (j * 3 + o) u).1
  · have hi' : i < ts.length := by rw [List.length_set] at hi; exact hi
    by_cases e : i = j
    · subst e
      have et : (ts.set i t')[i]'hi = t' := List.getElem_set_self _
      rw [et]
      exact ⟨c0, c1, c2, owns_out hv so (hb _ hg), hg⟩
    · obtain ⟨a0, a1, a2, a3, a4⟩ := h2 i hi'
      have et : (ts.set j t')[i]'hi = ts[i] := List.getElem_set_ne (fun q => e q.symm) _
      rw [et]
      refine ⟨?_, ?_, ?_, ?_, ?_⟩
      · rw [List.getElem?_set_ne (by omega)]; exact a0
      · rw [List.getElem?_set_ne (by omega)]; exact a1
      · rw [List.getElem?_set_ne (by omega), hV i e]; exact a2
      · rw [hV i e]; exact owns_out a3 so (hb _ a4)
      · rw [hV i e]; exact a4
  · rw [List.length_set]; exact hap
theorem OTD.kind {w : World} {lo g cap : Nat} {xs : List Value} {V : Nat → Value} {ts : List TD} (h : OTD w lo g cap xs V ts) {j : Nat} (hj : j < ts.length) (kd : Int) :
    OTD (w.setCell ⟨g, j * 3, none⟩ (.int .i64 kd)) lo g cap (xs.set (j * 3) (.int .i64 kd)) V (ts.set j (kd, (ts[j]'hj).2)) := by
  have hx : xs.length = ts.length * 3 := h.1.1
  obtain ⟨a0, a1, a2, a3, a4⟩ := h.2.1 j hj
  exact h.put (o := 0) hj (by decide) (.int .i64 kd) (kd, (ts[j]'hj).2) (List.getElem?_set_self (by omega)) (by rw [List.getElem?_set_ne (by omega)]; exact a1) (by rw [List.getElem?_set_ne (by omega)]; exact a2) a3 a4 (fun _ _ => rfl) h.2.2
theorem OTD.key {w : World} {lo g cap : Nat} {xs : List Value} {V : Nat → Value} {ts : List TD} (h : OTD w lo g cap xs V ts) {j : Nat} (hj : j < ts.length) (K : ByteArray) :
    OTD (w.setCell ⟨g, j * 3 + 1, none⟩ (.string K)) lo g cap (xs.set (j * 3 + 1) (.string K)) V (ts.set j ((ts[j]'hj).1, K, (ts[j]'hj).2.2)) := by
  have hx : xs.length = ts.length * 3 := h.1.1
  obtain ⟨a0, a1, a2, a3, a4⟩ := h.2.1 j hj
  exact h.put (o := 1) hj (by decide) (.string K) _ (by rw [List.getElem?_set_ne (by omega)]; exact a0) (List.getElem?_set_self (by omega)) (by rw [List.getElem?_set_ne (by omega)]; exact a2) a3 a4 (fun _ _ => rfl) h.2.2
/-- new values for one term, in a block that none of the others has -/
theorem OTD.vals {w : World} {lo g cap : Nat} {xs : List Value} {V : Nat → Value} {ts : List TD} (h : OTD w lo g cap xs V ts) {j : Nat} (hj : j < ts.length) (v : Value) (vs : List ByteArray)
    (hv : w.ownsRow lo 9 1 v vs.length (strVs vs)) (hg : v.ownBlock ≠ some g) (hn : ∀ i, i < ts.length → ∀ b, (V i).ownBlock = some b → v.ownBlock ≠ some b) :
    OTD (w.setCell ⟨g, j * 3 + 2, none⟩ v) lo g cap (xs.set (j * 3 + 2) v) (fun i => if i = j then v else V i) (ts.set j ((ts[j]'hj).1, (ts[j]'hj).2.1, vs)) := by
  have hx : xs.length = ts.length * 3 := h.1.1
  obtain ⟨a0, a1, a2, a3, a4⟩ := h.2.1 j hj
  refine h.put (V' := fun i => if i = j then v else V i) (o := 2) hj (by decide) v _ (by rw [List.getElem?_set_ne (by omega)]; exact a0) (by rw [List.getElem?_set_ne (by omega)]; exact a1) (by simp only [if_true]; exact List.getElem?_set_self (by omega)) (by simp only [if_true]; exact hv) (by simp only [if_true]; exact hg) (fun i hi => by simp only [hi, if_false]) ?_
  intro i k hi hk hik b hb
  by_cases e : i = j
  · subst e
    have ek : ¬ k = i := fun q => hik q.symm
    simp only [if_true] at hb
    simp only [ek, if_false]
    intro q
    exact hn k hk b q hb
  · simp only [e, if_false] at hb
    by_cases e' : k = j
    · simp only [e', if_true]
      exact hn i hi b hb
    · simp only [e', if_false]
      exact h.2.2 i k hi hk hik b hb
end Go.Proofs.Ytbihhcbbjdjhcaa
