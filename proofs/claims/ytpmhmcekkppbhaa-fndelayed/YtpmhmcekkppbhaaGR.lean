/- Rows of things of k cells, as lists of rows: read, owned, cut, struck. -/
import Derived.Test.YtpmhmcekkppbhaaU4
import Derived.Laws.IdiomCopy
import Derived.Laws.OwnMore
import Derived.Maps.AppendAt
import Derived.Deep.MidRow
import Derived.Deep.RegionLaw
namespace Go.Proofs.Ytpmhmcekkppbhaa
open Go.RowKit
set_option linter.unusedVariables false

/-- a slice that can be read: its rows of k cells -/
def rdR (w : World) (k : Nat) (c : Value) (R : List (List Value)) : Prop :=
  ∃ a cap, c = .slice a R.length cap ∧ R.length ≤ cap ∧ (a = none → cap = 0) ∧ (0 < R.length → ∃ b o, a = some ⟨b, o, none⟩ ∧ ∀ q r j v, R[q]? = some r → r[j]? = some v → w.cell? ⟨b, o + q * k + j, none⟩ = some v)
theorem rdR.below {w w' : World} {k : Nat} {c : Value} {R : List (List Value)} (h : rdR w k c R) (hb : Below w.heap.size w w') : rdR w' k c R := by
  obtain ⟨a, cap, h1, h2, h3, h4⟩ := h
  refine ⟨a, cap, h1, h2, h3, fun hp => ?_⟩
  obtain ⟨b, o, e, hc⟩ := h4 hp
  exact ⟨b, o, e, fun q r j v hq hj => by have := hc q r j v hq hj; exact (hb.cell (p := ⟨b, o + q * k + j, none⟩) (World.block_lt_of_cell? _ _ this)).trans this⟩
/-- whatever keeps its cells -/
theorem rdR.kept {w w' : World} {k : Nat} {c : Value} {R : List (List Value)} (h : rdR w k c R) (hb : ∀ g, c.ownBlock = some g → g < w.heap.size → w'.heap[g]? = w.heap[g]?) : rdR w' k c R := by
  obtain ⟨a, cap, rfl, h2, h3, h4⟩ := h
  refine ⟨a, cap, rfl, h2, h3, fun hp => ?_⟩
  obtain ⟨b, o, rfl, hc⟩ := h4 hp
  exact ⟨b, o, rfl, fun q r j v hq hj => by have := hc q r j v hq hj; exact (World.cell?_of_block (w := w) (hb b rfl (World.block_lt_of_cell? _ _ this))).trans this⟩
theorem rdR.slice {w : World} {k : Nat} {c : Value} {R : List (List Value)} (h : rdR w k c R) : ∃ a cap, c = .slice a R.length cap := by
  obtain ⟨a, cap, h1, _⟩ := h; exact ⟨a, cap, h1⟩
theorem rdR.opened {w : World} {k : Nat} {a : Option Addr} {n cap : Nat} {R : List (List Value)} (h : rdR w k (.slice a n cap) R) (hn : 0 < n) : n = R.length ∧ ∃ b o, a = some ⟨b, o, none⟩ ∧ ∀ q r j v, R[q]? = some r → r[j]? = some v → w.cell? ⟨b, o + q * k + j, none⟩ = some v := by
  obtain ⟨a', cap', e, h2, h3, h4⟩ := h
  cases e
  exact ⟨rfl, h4 hn⟩
/-- all rows have k cells -/
def rowsK (k : Nat) (R : List (List Value)) : Prop := ∀ r ∈ R, r.length = k
theorem rowsK.len {k : Nat} : ∀ {R : List (List Value)}, rowsK k R → R.flatten.length = R.length * k
  | [], _ => by simp
  | r :: R, h => by rw [List.flatten_cons, List.length_append, rowsK.len (fun x hx => h x (.tail _ hx)), h r (.head _), List.length_cons, Nat.succ_mul]; omega
theorem rowsK.tail {k : Nat} {r : List Value} {R : List (List Value)} (h : rowsK k (r :: R)) : rowsK k R := fun x hx => h x (.tail _ hx)
theorem rowsK.take {k : Nat} {R : List (List Value)} (h : rowsK k R) (i : Nat) : rowsK k (R.take i) := fun x hx => h x (List.mem_of_mem_take hx)
theorem rowsK.drop {k : Nat} {R : List (List Value)} (h : rowsK k R) (i : Nat) : rowsK k (R.drop i) := fun x hx => h x (List.mem_of_mem_drop hx)
theorem rowsK.app {k : Nat} {R T : List (List Value)} (h : rowsK k R) (g : rowsK k T) : rowsK k (R ++ T) := fun x hx => (List.mem_append.1 hx).elim (h x) (g x)
theorem flat_take {k : Nat} : ∀ (R : List (List Value)) (i : Nat), rowsK k R → (R.take i).flatten = R.flatten.take (i * k)
  | R, 0, h => by simp
  | [], i + 1, h => by simp
  | r :: R, i + 1, h => by
    have hr := h r (.head _)
    have e1 : List.take (i * k + k) r = r := List.take_of_length_le (by omega)
    rw [List.take_succ_cons, List.flatten_cons, List.flatten_cons, flat_take R i h.tail, Nat.succ_mul, List.take_append, e1, show i * k + k - r.length = i * k by omega]
theorem flat_drop {k : Nat} : ∀ (R : List (List Value)) (i : Nat), rowsK k R → (R.drop i).flatten = R.flatten.drop (i * k)
  | R, 0, h => by simp
  | [], i + 1, h => by simp
  | r :: R, i + 1, h => by
    have hr := h r (.head _)
    have e1 : List.drop (i * k + k) r = [] := List.drop_of_length_le (by omega)
    rw [List.drop_succ_cons, List.flatten_cons, flat_drop R i h.tail, Nat.succ_mul, List.drop_append, e1, List.nil_append, show i * k + k - r.length = i * k by omega]
theorem flat_get {k : Nat} : ∀ (R : List (List Value)) (q : Nat) (r : List Value) (j : Nat) (v : Value), rowsK k R → R[q]? = some r → r[j]? = some v → R.flatten[q * k + j]? = some v
  | [], q, r, j, v, h, hq, hj => by simp at hq
  | x :: R, 0, r, j, v, h, hq, hj => by
    cases hq
    rw [Nat.zero_mul, Nat.zero_add, List.flatten_cons, List.getElem?_append_left (List.getElem?_eq_some_iff.1 hj).1, hj]
  | x :: R, q + 1, r, j, v, h, hq, hj => by
    have hr := h x (.head _)
    rw [List.flatten_cons, List.getElem?_append_right (by rw [Nat.succ_mul]; omega), show (q + 1) * k + j - x.length = q * k + j by rw [Nat.succ_mul]; omega]
    exact flat_get R q r j v h.tail (by simpa using hq) hj
theorem flat_set {k : Nat} : ∀ (R : List (List Value)) (q : Nat) (r : List Value) (j : Nat) (v : Value), rowsK k R → R[q]? = some r → j < k → R.flatten.set (q * k + j) v = (R.set q (r.set j v)).flatten
  | [], q, r, j, v, h, hq, hj => by simp at hq
  | x :: R, 0, r, j, v, h, hq, hj => by
    cases hq
    have hr := h x (.head _)
    rw [Nat.zero_mul, Nat.zero_add, List.flatten_cons, List.set_append_left _ _ (by omega), List.set_cons_zero, List.flatten_cons]
  | x :: R, q + 1, r, j, v, h, hq, hj => by
    have hr := h x (.head _)
    rw [List.flatten_cons, List.set_append_right _ _ (by rw [Nat.succ_mul]; omega), show (q + 1) * k + j - x.length = q * k + j by rw [Nat.succ_mul]; omega, flat_set R q r j v h.tail (by simpa using hq) hj, List.set_cons_succ, List.flatten_cons]
/-- a slice of rows of one's own -/
def ownR (w : World) (base : Nat) (e : TypeId) (k : Nat) (v : Value) (R : List (List Value)) : Prop := rowsK k R ∧ w.ownsRow base e k v R.length R.flatten
theorem ownR.nil (w : World) (base : Nat) (e : TypeId) (k : Nat) : ownR w base e k (.slice none 0 0) [] := ⟨fun r hr => by simp at hr, World.ownsRow_nil w base e k⟩
theorem ownR.frame {w w' : World} {base : Nat} {e : TypeId} {k : Nat} {v : Value} {R : List (List Value)} (h : ownR w base e k v R) (hS : ∀ g ∈ blkOf v, w'.heap[g]? = w.heap[g]?) : ownR w' base e k v R := ⟨h.1, uowns_frame h.2 hS⟩
theorem ownR.lt {w : World} {base : Nat} {e : TypeId} {k : Nat} {v : Value} {R : List (List Value)} (h : ownR w base e k v R) : ∀ g ∈ blkOf v, base ≤ g ∧ g < w.heap.size := ublk_lt h.2
theorem ownR.below {w w' : World} {base : Nat} {e : TypeId} {k : Nat} {v : Value} {R : List (List Value)} (h : ownR w base e k v R) (hb : Below w.heap.size w w') : ownR w' base e k v R := h.frame (fun g hg => hb.block g (h.lt g hg).2)
theorem ownR.grown {w w' : World} {base : Nat} {e : TypeId} {k : Nat} {v : Value} {R : List (List Value)} {row : Option Nat} (h : ownR w base e k v R) (hg : w.grownBy w' row) (hne : ∀ g ∈ blkOf v, some g ≠ row) : ownR w' base e k v R := h.frame (fun g hb => hg.block g (h.lt g hb).2 (hne g hb))
theorem ownR.setCell {w : World} {base : Nat} {e : TypeId} {k : Nat} {v : Value} {R : List (List Value)} (h : ownR w base e k v R) (p : Addr) (hp : p.block ∉ blkOf v) (u : Value) : ownR (w.setCell p u) base e k v R := h.frame (fun g hg => Below.heap_setCell w p u g (fun e => hp (by rw [← e]; exact hg)))
theorem ownR.mono {w : World} {base base' : Nat} {e : TypeId} {k : Nat} {v : Value} {R : List (List Value)} (h : ownR w base e k v R) (hb : base' ≤ base) : ownR w base' e k v R := by
  obtain ⟨h1, h2, h3⟩ := h
  refine ⟨h1, h2, ?_⟩
  rcases h3 with h3 | ⟨g, cap, cur, a1, a2, a3⟩
  · exact .inl h3
  · exact .inr ⟨g, cap, cur, a1, Nat.le_trans hb a2, a3⟩
theorem ownR.slice {w : World} {base : Nat} {e : TypeId} {k : Nat} {v : Value} {R : List (List Value)} (h : ownR w base e k v R) : ∃ a cap, v = .slice a R.length cap := uowns_slice h.2
theorem ownR.rd {w : World} {base : Nat} {e : TypeId} {k : Nat} {v : Value} {R : List (List Value)} (h : ownR w base e k v R) (hk : 0 < k) : rdR w k v R := by
  obtain ⟨h1, h2⟩ := h
  have h2' := h2
  rcases h2.2 with ⟨rfl, h0⟩ | ⟨g, cap, cur, rfl, h3, h4, h5, h6⟩
  · exact ⟨none, 0, by rw [h0], by omega, fun _ => rfl, fun hp => by omega⟩
  · refine ⟨_, cap, rfl, h5, (fun e => by cases e), fun hp => ⟨g, 0, rfl, fun q r j v hq hj => ?_⟩⟩
    have hf := flat_get R q r j v h1 hq hj
    have hl := h1.len
    have hlt := (List.getElem?_eq_some_iff.1 hf).1
    rw [Nat.zero_add, h2'.cellAt (q * k + j) (by omega), hf]
/-- opened: its block -/
theorem ownR.opened {w : World} {base : Nat} {e : TypeId} {k : Nat} {v : Value} {R : List (List Value)} (h : ownR w base e k v R) (hn : 0 < R.length) : ∃ g cap, v = .slice (some ⟨g, 0, none⟩) R.length cap ∧ base ≤ g ∧ g < w.heap.size ∧ R.length ≤ cap ∧ blkOf v = [g] ∧
    (∀ q r j u, R[q]? = some r → r[j]? = some u → w.cell? ⟨g, q * k + j, none⟩ = some u) ∧ (∀ j, w.frozen? ⟨g, j, none⟩ = false) := by
  obtain ⟨h1, h2⟩ := h
  have h2' := h2
  rcases h2.2 with ⟨rfl, h0⟩ | ⟨g, cap, cur, rfl, h3, h4, h5, h6⟩
  · omega
  · refine ⟨g, cap, rfl, h3, (Array.getElem?_eq_some_iff.1 h4).1, h5, rfl, fun q r j v hq hj => ?_, fun j => h2'.frozenAt j⟩
    have hf := flat_get R q r j v h1 hq hj
    have hl := h1.len
    have hlt := (List.getElem?_eq_some_iff.1 hf).1
    rw [h2'.cellAt (q * k + j) (by omega), hf]
/-- a cell of it is stored -/
theorem ownR.store {w : World} {base : Nat} {e : TypeId} {k g n cap : Nat} {R : List (List Value)} (h : ownR w base e k (.slice (some ⟨g, 0, none⟩) n cap) R) (q j : Nat) (r : List Value) (u : Value) (hq : R[q]? = some r) (hj : j < k) :
    ownR (w.setCell ⟨g, q * k + j, none⟩ u) base e k (.slice (some ⟨g, 0, none⟩) n cap) (R.set q (r.set j u)) := by
  obtain ⟨h1, h2⟩ := h
  have hn : n = R.length := by
    rcases h2.2 with ⟨e', _⟩ | ⟨g', cap', cur, e', _⟩
    · cases e'
    · cases e'; rfl
  subst hn
  have h3 := (h2.stored (q * k + j) u).1
  rw [flat_set R q r j u h1 hq hj] at h3
  refine ⟨fun x hx => ?_, by rw [List.length_set]; exact h3⟩
  rcases List.mem_or_eq_of_mem_set hx with hx | rfl
  · exact h1 x hx
  · rw [List.length_set]; exact h1 r (List.mem_of_getElem? hq)
/-- memory where many cells are stored -/
theorem heap_setCells_same (g : Nat) (e : TypeId) : ∀ (vs : List Value) (o : Nat) (w : World) (cur : Array Value), w.heap[g]? = some (.cells cur e (0, 0)) → o + vs.length ≤ cur.size →
    ∃ cur' : Array Value, (w.setCells g o vs).heap[g]? = some (.cells cur' e (0, 0)) ∧ cur'.toList = cur.toList.take o ++ vs ++ cur.toList.drop (o + vs.length)
  | [], o, w, cur, h, hl => ⟨cur, h, by simp⟩
  | v :: r, o, w, cur, h, hl => by
    rw [List.length_cons] at hl
    obtain ⟨cur', h1, h2⟩ := heap_setCells_same g e r (o + 1) (w.setCell ⟨g, o, none⟩ v) (cur.setIfInBounds o v) (heap_setCell_same w g o cur e v h) (by simp; omega)
    refine ⟨cur', h1, ?_⟩
    rw [h2, Array.toList_setIfInBounds, List.length_cons]
    have hlo : o < cur.toList.length := by simp; omega
    rw [List.take_set, List.drop_set_of_lt (by omega)]
    rw [show List.take (o + 1) cur.toList = List.take o cur.toList ++ [cur.toList[o]] by rw [List.take_add_one, List.getElem?_eq_getElem hlo]; rfl]
    rw [List.set_append_right _ _ (by simp; omega)]
    have : o - (List.take o cur.toList).length = 0 := by simp; omega
    rw [this, List.set_cons_zero]
    simp [List.append_assoc, Nat.add_comm, Nat.add_left_comm]
theorem grown_setCells (w : World) (g o : Nat) (vs : List Value) : w.grownBy (w.setCells g o vs) (some g) := by
  obtain ⟨h1, h2, h3, h4⟩ : (w.setCells g o vs).os = w.os ∧ (w.setCells g o vs).tape = w.tape ∧ (w.setCells g o vs).output = w.output ∧ (w.setCells g o vs).heap.size = w.heap.size := by
    induction vs generalizing o w with
    | nil => exact ⟨rfl, rfl, rfl, rfl⟩
    | cons v r ih =>
      obtain ⟨a, b, c, d⟩ := ih (w.setCell ⟨g, o, none⟩ v) (o + 1)
      exact ⟨a, b, c, d.trans (by simp [World.setCell])⟩
  refine ⟨h1, h2, h3, by omega, fun k hk hne => ?_⟩
  induction vs generalizing o w with
  | nil => rfl
  | cons v r ih =>
    have := ih (w.setCell ⟨g, o, none⟩ v) (o + 1)
    simp only [World.setCells]
    have e1 : (w.setCell ⟨g, o, none⟩ v).heap[k]? = w.heap[k]? := Below.heap_setCell w _ v k (fun e => hne (by rw [e]))
    obtain ⟨a1, a2, a3, a4⟩ : ((w.setCell ⟨g, o, none⟩ v).setCells g (o + 1) r).os = (w.setCell ⟨g, o, none⟩ v).os ∧ ((w.setCell ⟨g, o, none⟩ v).setCells g (o + 1) r).tape = (w.setCell ⟨g, o, none⟩ v).tape ∧ ((w.setCell ⟨g, o, none⟩ v).setCells g (o + 1) r).output = (w.setCell ⟨g, o, none⟩ v).output ∧ ((w.setCell ⟨g, o, none⟩ v).setCells g (o + 1) r).heap.size = (w.setCell ⟨g, o, none⟩ v).heap.size := by
      refine ⟨h1, h2, h3, h4.trans (by simp [World.setCell])⟩
    exact (this a1 a2 a3 a4 (by simpa [World.setCell] using hk)).trans e1
/-- clear(s) at elements of k cells -/
theorem run_clear_k {P : Program} (w : World) (t e ty : TypeId) (z : Value) (zs : List Value) (ht : P.underlying t = some (.slice e)) (hv : ∀ w, (zeroValue e).run P w = .ok z w) (hz : z.cells = zs.toArray) (h1 : ∀ u ∈ zs, u.oneCell' = true) (b o n c : Nat) (hn : 0 < n)
    (hc : ∀ j, j < n * zs.length → (w.cell? ⟨b, o + j, none⟩).isSome = true) (hf : ∀ j, j < n * zs.length → w.frozen? ⟨b, o + j, none⟩ = false) :
    ∃ vs : List Value, vs.length = n * zs.length ∧ (Builtin.clear_ #[t] ty #[.slice (some ⟨b, o, none⟩) n c]).run P w = .ok (.tuple #[]) (w.setCells b o vs) := by
  have hl : (Builtin.zeroCells z.cells n).toList.length = n * zs.length := by rw [Array.length_toList, size_zeroCells, hz]; simp
  have hm : ∀ u ∈ (Builtin.zeroCells z.cells n).toList, u.oneCell' = true := by
    intro u hu
    rw [hz] at hu
    simp [Builtin.zeroCells] at hu
    obtain ⟨i, hi, rfl⟩ := hu
    have hp : 0 < zs.length := by rcases Nat.eq_zero_or_pos zs.length with h | h; · rw [h] at hi; omega
                                  · exact h
    have : i % zs.length < zs.length := Nat.mod_lt _ hp
    first | exact h1 _ (List.getElem_mem this) | (rw [List.getElem?_eq_getElem this]; exact h1 _ (List.getElem_mem this)) | (simp [this]; exact h1 _ (List.getElem_mem this))
  refine ⟨(Builtin.zeroCells z.cells n).toList, hl, ?_⟩
  have hst := run_storeCells_cells (P := P) b o (Builtin.zeroCells z.cells n).toList 0 w (by rw [hl]; simpa using hc) (by rw [hl]; simpa using hf) hm
  simp only [Nat.add_zero] at hst
  obtain ⟨m, rfl⟩ : ∃ m, n = m + 1 := ⟨n - 1, by omega⟩
  simp [Builtin.clear_, run_underlying ht, hv, hst]
end Go.Proofs.Ytpmhmcekkppbhaa
