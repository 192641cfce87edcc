/- Rows of things of k cells: append of what can be read, parts of a slice, the library's Delete. -/
import Derived.Test.YtpmhmcekkppbhaaGR
import Derived.Deep.RegionHeld3
import Derived.Deep.RegionLaw
import Derived.OwnWalk
import Derived.Deep.AppendSrc
namespace Go.Proofs.Ytpmhmcekkppbhaa
open Go.RowKit
set_option linter.unusedVariables false

/-- a slice type, its elements of k cells -/
def elT (P : Program) (t e : TypeId) (k : Nat) : Prop := P.underlying t = some (.slice e) ∧ ∃ i z, P.info? e = some i ∧ i.zero = some z ∧ i.size = k ∧ z.cells.size = k ∧ i.bytes ≤ 1000
theorem elT_of {P : Program} {t e : TypeId} {k b : Nat} (h1 : P.underlying t = some (.slice e)) (h2 : (P.info? e).map (fun i => (i.zero.map (fun z => z.cells.size), i.size, i.bytes)) = some (some k, k, b)) (hb : b ≤ 1000) : elT P t e k := by
  refine ⟨h1, ?_⟩
  cases hi : P.info? e with
  | none => rw [hi] at h2; cases h2
  | some i =>
    rw [hi] at h2
    simp only [Option.map_some, Option.some.injEq, Prod.mk.injEq] at h2
    obtain ⟨g1, g2, g3⟩ := h2
    cases hz : i.zero with
    | none => rw [hz] at g1; cases g1
    | some z =>
      rw [hz] at g1
      simp only [Option.map_some, Option.some.injEq] at g1
      exact ⟨i, z, rfl, hz, g2, g1, by omega⟩
theorem flat_inv {k : Nat} (hk : 0 < k) : ∀ (R : List (List Value)) (j : Nat) (u : Value), rowsK k R → R.flatten[j]? = some u → ∃ q r i, R[q]? = some r ∧ r[i]? = some u ∧ j = q * k + i
  | [], j, u, h, hj => by simp at hj
  | x :: R, j, u, h, hj => by
    have hx := h x (.head _)
    rw [List.flatten_cons] at hj
    by_cases hlt : j < k
    · rw [List.getElem?_append_left (by omega)] at hj
      exact ⟨0, x, j, rfl, hj, by omega⟩
    · rw [List.getElem?_append_right (by omega), hx] at hj
      obtain ⟨q, r, i, h1, h2, h3⟩ := flat_inv hk R (j - k) u h.tail hj
      exact ⟨q + 1, r, i, by simpa using h1, h2, by rw [Nat.succ_mul]; omega⟩
def oneR (R : List (List Value)) : Prop := ∀ r ∈ R, ∀ u ∈ r, u.oneCell' = true
theorem oneR.flat {R : List (List Value)} (h : oneR R) : ∀ u ∈ R.flatten, u.oneCell' = true := fun u hu => by
  obtain ⟨r, hr, hu⟩ := List.mem_flatten.1 hu
  exact h r hr u hu
section
variable {P : Program} {w : World} {t e : TypeId} {k : Nat}
theorem run_append_rd (hE : elT P t e k) (hk0 : 0 < k) (ty : TypeId) (base : Nat) (v : Value) (R0 : List (List Value)) (hown : ownR w base e k v R0) (xv : Value) (R : List (List Value)) (hr : rdR w k xv R) (hk : rowsK k R) (h1 : oneR R)
    (hn : R0.length + R.length ≤ 10000000) (hbase : base ≤ w.heap.size) :
    ∃ v' w', (Builtin.append_ #[t, t] ty #[v, xv]).run P w = .ok v' w' ∧ ownR w' base e k v' (R0 ++ R) ∧ w.grownBy w' v.ownBlock ∧ (v'.ownBlock = v.ownBlock ∨ v'.ownBlock = some w.heap.size) := by
  obtain ⟨ht, i, z, hi, hz, hs, hzs, hb⟩ := hE
  obtain ⟨a, cap, rfl, g1, g2, g3⟩ := hr
  cases a with
  | none =>
    have hc := g2 rfl
    subst hc
    have h0 : R = [] := List.length_eq_zero_iff.1 (by omega)
    subst h0
    exact ⟨v, w, run_append_owned_none (P := P) (w := w) base t ty e i k ht hi v _ _ hown.2, by rw [List.append_nil]; exact hown, World.grownBy.refl w _, .inl rfl⟩
  | some ad =>
    have hsrc : ∀ j u, R.flatten[j]? = some u → w.cell? (ad.add j) = some u := by
      intro j u hj
      obtain ⟨q, r, i', q1, q2, rfl⟩ := flat_inv hk0 R j u hk hj
      obtain ⟨b, o, e', hc⟩ := g3 (by have := (List.getElem?_eq_some_iff.1 q1).1; omega)
      cases e'
      rw [Go.WideShapes.add_plain, ← Nat.add_assoc]
      exact hc q r i' u q1 q2
    obtain ⟨v', w', e1, e2, e3, -, e5⟩ := run_append_own_at (P := P) w base t ty e i z k i.bytes ht hi hz hs rfl hzs hk0 v _ _ hown.2 ad R.length cap R.flatten hk.len hsrc h1.flat (by unfold maxLen; omega) (by
      have : (R0.length + R.length) * i.bytes ≤ 10000000 * 1000 := Nat.mul_le_mul hn hb
      omega) hbase
    exact ⟨v', w', e1, ⟨hown.1.app hk, by rw [List.length_append, List.flatten_append]; exact e2⟩, e3, e5⟩
theorem run_append_lit (ht : P.underlying t = some (.slice e)) {i : TypeInfo} {z : Value} (hi : P.info? e = some i) (hz : i.zero = some z) (ty : TypeId) (g : Nat) (ad : Addr) (n c : Nat) (news : List Value) (hl : news.length = n * i.size) (hnews : ∀ j u, news[j]? = some u → w.cell? (ad.add j) = some u) (h1 : ∀ u ∈ news, u.oneCell' = true) (hn : 0 < n) (h63 : n ≤ 10000000) (hb : i.bytes ≤ 1000) :
    (Builtin.append_ #[t, t] ty #[.slice (some ⟨g, 0, none⟩) 0 0, .slice (some ad) n c]).run P w = (Builtin.append_ #[t, t] ty #[.slice none 0 0, .slice (some ad) n c]).run P w := by
  have hs : Src P i.size t (.slice (some ad) n c) n news w := Src.ofSlice w ht ad n c news hl hnews h1
  have hcap : Builtin.nextslicecap (0 + n) 0 * i.bytes ≤ 281474976710656 := by
    have : Builtin.nextslicecap (0 + n) 0 = 0 + n := by unfold Builtin.nextslicecap; rw [if_pos (by omega)]
    rw [this]
    have : (0 + n) * i.bytes ≤ 10000000 * 1000 := Nat.mul_le_mul (by omega) hb
    omega
  rw [run_append_grow_src w t t ty e i z ht hi hz (some ⟨g, 0, none⟩) 0 0 [] (run_firstCells_some w.drew i.size 0 ⟨g, 0, none⟩ 0 0 [] (by simp) (by simp)) (.slice (some ad) n c) n news hs (by omega) (by omega) hcap]
  rw [run_append_grow_src w t t ty e i z ht hi hz none 0 0 [] (run_firstCells_none w.drew i.size 0 0 0) (.slice (some ad) n c) n news hs (by omega) (by omega) hcap]
/-- append behind a list that was just made and has no room -/
theorem run_append_rd0 (hE : elT P t e k) (hk0 : 0 < k) (ty : TypeId) (base g : Nat) (hown : ownR w base e k (.slice (some ⟨g, 0, none⟩) 0 0) []) (xv : Value) (R : List (List Value)) (hr : rdR w k xv R) (hk : rowsK k R) (h1 : oneR R)
    (hn : R.length ≤ 10000000) (hbase : base ≤ w.heap.size) :
    ∃ v' w', (Builtin.append_ #[t, t] ty #[.slice (some ⟨g, 0, none⟩) 0 0, xv]).run P w = .ok v' w' ∧ ownR w' base e k v' R ∧ Below w.heap.size w w' ∧ (v'.ownBlock = some g ∨ v'.ownBlock = some w.heap.size) := by
  have hE' := hE
  obtain ⟨ht, i, z, hi, hz, hs, hzs, hb⟩ := hE
  have hr' := hr
  obtain ⟨a, cap, rfl, g1, g2, g3⟩ := hr
  rcases Nat.eq_zero_or_pos R.length with h0 | hp
  · have e0 : R = [] := List.length_eq_zero_iff.1 h0
    subst e0
    refine ⟨_, w, ?_, hown, Below.refl _ _, .inl rfl⟩
    cases a with
    | none =>
      have hc := g2 rfl
      subst hc
      exact run_append_owned_none (P := P) (w := w) base t ty e i k ht hi _ _ _ hown.2
    | some ad =>
      have hf := run_firstCells_some (P := P) w i.size 0 ad 0 cap [] (by simp) (by simp)
      simp [Builtin.append_, run_underlying ht, sizeOf, typeInfo, hi, Builtin.lenOf, hf, storeCells]
  · obtain ⟨b, o, rfl, hc⟩ := g3 hp
    obtain ⟨v', w', e1, e2, e3, e5⟩ := run_append_rd hE' hk0 ty base (.slice none 0 0) [] (ownR.nil w base e k) _ R hr' hk h1 (by simp; omega) hbase
    have hsrc : ∀ j u, R.flatten[j]? = some u → w.cell? ((⟨b, o, none⟩ : Addr).add j) = some u := by
      intro j u hj
      obtain ⟨q, r, i', q1, q2, rfl⟩ := flat_inv hk0 R j u hk hj
      rw [Go.WideShapes.add_plain, ← Nat.add_assoc]
      exact hc q r i' u q1 q2
    refine ⟨v', w', ?_, e2, ⟨e3.os, e3.tape, e3.output, e3.size, fun k hk => e3.block k hk (fun e => by cases e)⟩, ?_⟩
    · rw [run_append_lit ht hi hz ty g _ R.length cap R.flatten (by rw [hs]; exact hk.len) hsrc h1.flat hp hn hb]
      exact e1
    · rcases e5 with h | h
      · exfalso
        rcases e2.2.2 with ⟨hv, hl⟩ | ⟨g', cap', cur, hv, _⟩
        · exact absurd (show ([] ++ R).length = 0 from hl) (by rw [List.nil_append]; omega)
        · rw [hv] at h; cases h
      · exact .inr h
/-- what stands behind an operation: the walk stops here -/
def After (φ : Value → World → Prop) : Prop := ∀ v' w', φ v' w'
theorem wpList_append_rd {ops : Array Oper} {rest : List Oper} {o : Oper} {a : Act} {Q : Exit → Act → World → Prop} (hgd : o.guard = none) (s x : Operand) (t : TypeId)
    (ho : o.op = .call { callee := .builtin .append, args := #[s, x], argTypes := #[t, t] }) (e : TypeId) (k : Nat) (hE : elT P t e k) (hk0 : 0 < k) (base : Nat) (v : Value) (R0 : List (List Value)) (hs : a.eval s = v) (hown : ownR w base e k v R0)
    (xv : Value) (R : List (List Value)) (hx : a.eval x = xv) (hr : rdR w k xv R) (hk : rowsK k R) (h1 : oneR R) (hn : R0.length + R.length ≤ 10000000) (hbase : base ≤ w.heap.size)
    (h : After fun v' w' => ownR w' base e k v' (R0 ++ R) → w.grownBy w' v.ownBlock → (v'.ownBlock = v.ownBlock ∨ v'.ownBlock = some w.heap.size) → wpList P ops Q rest (a.put o.dst v') w') : wpList P ops Q (o :: rest) a w := by
  refine wpList_plain hgd fun K hK => ?_
  obtain ⟨v', w', hr, h2, h3, h5⟩ := run_append_rd hE hk0 o.type base v R0 hown xv R hr hk h1 hn hbase
  unfold Oper.wp execOp
  simp only [ho, resolve, invoke, builtin, Sem.run_bind, Sem.run_pure, Result.andThen_ok, List.map_toArray, List.map_cons, List.map_nil, hs, hx, hr]
  exact hK _ _ (h v' w' h2 h3 h5)
theorem step_append_rd {ops : Array Oper} {o : Oper} {a : Act} {K : Act → World → Prop} {Q : Exit → Act → World → Prop} {E : Prop} (hgd : o.guard = none) (s x : Operand) (t : TypeId)
    (ho : o.op = .call { callee := .builtin .append, args := #[s, x], argTypes := #[t, t] }) (e : TypeId) (k : Nat) (hE : elT P t e k) (hk0 : 0 < k) (base : Nat) (v : Value) (R0 : List (List Value)) (hs : a.eval s = v) (hown : ownR w base e k v R0)
    (xv : Value) (R : List (List Value)) (hx : a.eval x = xv) (hr : rdR w k xv R) (hk : rowsK k R) (h1 : oneR R) (hn : R0.length + R.length ≤ 10000000) (hbase : base ≤ w.heap.size)
    (h : ∀ v' w', ownR w' base e k v' (R0 ++ R) → w.grownBy w' v.ownBlock → (v'.ownBlock = v.ownBlock ∨ v'.ownBlock = some w.heap.size) → K (a.put o.dst v') w') :
    if Region.wanted o (yielded ops a.tmps) = true then Oper.wp P o a w K Q else E := by
  have hw : Region.wanted o (yielded ops a.tmps) = true := by simp [Region.wanted, hgd]
  rw [if_pos hw]
  obtain ⟨v', w', hr, h2, h3, h5⟩ := run_append_rd hE hk0 o.type base v R0 hown xv R hr hk h1 hn hbase
  unfold Oper.wp execOp
  simp only [ho, resolve, invoke, builtin, Sem.run_bind, Sem.run_pure, Result.andThen_ok, List.map_toArray, List.map_cons, List.map_nil, hs, hx, hr]
  exact h v' w' h2 h3 h5
end
/-- what lies in a block that was just laid -/
theorem rdR.block {w : World} {g k : Nat} {e : TypeId} {r : List Value} (n : Nat) (h : objU w g e r) (hr : r.length = k) : rdR w k (.slice (some ⟨g, 0, none⟩) 1 n) [r] ∨ n = 0 := by
  rcases Nat.eq_zero_or_pos n with h0 | hp
  · exact .inr h0
  · refine .inl ⟨_, n, rfl, hp, (fun h => by cases h), fun _ => ⟨g, 0, rfl, fun q r' j v hq hj => ?_⟩⟩
    cases q with
    | zero =>
      cases hq
      have := h.cell j v hj
      rw [← this]; congr 2; omega
    | succ q => simp at hq
theorem rdR.one {w : World} {g k : Nat} {e : TypeId} {r : List Value} (h : objU w g e r) : rdR w k (.slice (some ⟨g, 0, none⟩) 1 1) [r] := by
  refine ⟨_, 1, rfl, Nat.le_refl _, (fun h => by cases h), fun _ => ⟨g, 0, rfl, fun q r' j v hq hj => ?_⟩⟩
  cases q with
  | zero =>
    cases hq
    have := h.cell j v hj
    rw [← this]; congr 2; omega
  | succ q => simp at hq
/-- the beginning and the end of a slice -/
theorem rdR.take {w : World} {k : Nat} {a : Option Addr} {n cap : Nat} {R : List (List Value)} (h : rdR w k (.slice a n cap) R) {i : Nat} (hi : i ≤ R.length) : rdR w k (.slice a i cap) (R.take i) := by
  obtain ⟨a', cap', e, h2, h3, h4⟩ := h
  cases e
  refine ⟨a, cap, by rw [List.length_take, Nat.min_eq_left hi], by rw [List.length_take]; omega, h3, fun hp => ?_⟩
  rw [List.length_take] at hp
  obtain ⟨b, o, rfl, hc⟩ := h4 (by omega)
  exact ⟨b, o, rfl, fun q r j v hq hj => hc q r j v (by rw [List.getElem?_take] at hq; split at hq; exact hq; cases hq) hj⟩
theorem rdR.drop {w : World} {k : Nat} {b o n cap : Nat} {R : List (List Value)} (h : rdR w k (.slice (some ⟨b, o, none⟩) n cap) R) {i : Nat} (hi : i ≤ R.length) {A : Option Addr} (hA : A = if cap = i then some ⟨b, o, none⟩ else some ⟨b, o + i * k, none⟩) : rdR w k (.slice A (R.length - i) (cap - i)) (R.drop i) := by
  obtain ⟨a', cap', e, h2, h3, h4⟩ := h
  cases e
  refine ⟨A, cap - i, by rw [List.length_drop], by rw [List.length_drop]; omega, (fun hn => by rw [hA] at hn; split at hn <;> cases hn), fun hp => ?_⟩
  rw [List.length_drop] at hp
  obtain ⟨b', o', e', hc⟩ := h4 (by omega)
  cases e'
  refine ⟨b, o + i * k, by rw [hA, if_neg (by omega)], fun q r j v hq hj => ?_⟩
  rw [List.getElem?_drop] at hq
  rw [← hc (i + q) r j v hq hj]
  congr 2
  rw [Nat.add_mul]; omega
theorem grown_below {w w' : World} (h : w.grownBy w' none) : Below w.heap.size w w' := ⟨h.os, h.tape, h.output, h.size, fun k hk => h.block k hk (fun e => by cases e)⟩
theorem grown_out {w w' : World} {g : Nat} (h : w.grownBy w' (some g)) : OutS [g] w w' := ⟨h.os, h.tape, h.output, h.size, fun k hk hn => h.block k hk (fun e => hn (by cases e; simp))⟩
theorem blk_own {v : Value} {g : Nat} : g ∈ blkOf v ↔ v.ownBlock = some g := by
  unfold blkOf
  cases v.ownBlock with
  | none => simp
  | some b => simp [eq_comm]
end Go.Proofs.Ytpmhmcekkppbhaa
