/- Texts of one claim, joined: each in its own section, in build order. -/
import Derived.Test.YtddojjigijfgbaaJ1
import Derived.Deep.RegionHeld3
import Derived.Deep.RegionLaw
import Derived.OwnWalk
import Derived.Deep.AppendSrc
import Derived.Deep.Slices
import Derived.ProofKit
import Derived.Lib.SmallJoins
import Derived.Shelf.SlicesQ.Load
import Derived.WideShapes
import Derived.Deep.MidRow
import Derived.Laws.Rows
import Derived.RegionTactic
import Derived.Test.YtddojjigijfgbaaChecked
import Derived.Maps.OwnSet
import Derived.Maps.Own
import Derived.Maps.OwnOps
import Derived.Maps.Views
import Derived.ChangeMaps5
import Derived.StringKeys
/- Queues: small functions of both sides that only read: places of names, room, delays. -/
namespace Go.Proofs.Ytddojjigijfgbaa
open Go.RowKit Go.BigFrame
set_option linter.unusedVariables false

/-- a row of items that can be read, one by one -/
theorem rdR.itAt {w : World} {L : List It} {a : Option Addr} {n cap : Nat} (h : rdR w 3 (.slice a n cap) (L.map encI)) {q : Nat} (hq : q < L.length) : ∃ b o, a = some ⟨b, o, none⟩ ∧ b < w.heap.size ∧ w.cell? ⟨b, o + q * 3, none⟩ = some (.string (L[q].1)) ∧ w.cell? ⟨b, o + q * 3 + 1, none⟩ = some (.int .i64 (L[q].2.1)) ∧ w.cell? ⟨b, o + q * 3 + 2, none⟩ = some (.int .i64 (L[q].2.2)) := by
  obtain ⟨a', cap', e, h2, h3, h4⟩ := h
  cases e
  obtain ⟨b, o, rfl, hc⟩ := h4 (by rw [List.length_map]; omega)
  have hr : (L.map encI)[q]? = some (encI L[q]) := by rw [List.getElem?_map, List.getElem?_eq_getElem hq]; rfl
  exact ⟨b, o, rfl, World.block_lt_of_cell? _ _ (hc q _ 0 _ hr rfl), hc q _ 0 _ hr rfl, hc q _ 1 _ hr rfl, hc q _ 2 _ hr rfl⟩
theorem rdR.stAt {w : World} {L : List ByteArray} {a : Option Addr} {n cap : Nat} (h : rdR w 1 (.slice a n cap) (L.map encS)) {q : Nat} (hq : q < L.length) : ∃ b o, a = some ⟨b, o, none⟩ ∧ b < w.heap.size ∧ w.cell? ⟨b, o + q, none⟩ = some (.string (L[q])) := by
  obtain ⟨a', cap', e, h2, h3, h4⟩ := h
  cases e
  obtain ⟨b, o, rfl, hc⟩ := h4 (by rw [List.length_map]; omega)
  have hr : (L.map encS)[q]? = some (encS L[q]) := by rw [List.getElem?_map, List.getElem?_eq_getElem hq]; rfl
  have := hc q _ 0 _ hr rfl
  rw [Nat.mul_one, Nat.add_zero] at this
  exact ⟨b, o, rfl, World.block_lt_of_cell? _ _ this, this⟩
theorem rdR.itS {w : World} {L : List It} {c : Value} (h : rdR w 3 c (L.map encI)) : ∃ a cap, c = .slice a L.length cap ∧ L.length ≤ cap ∧ (a = none → cap = 0) := by
  obtain ⟨a, cap, rfl, h2, h3, _⟩ := h
  rw [List.length_map] at h2 ⊢
  exact ⟨a, cap, rfl, h2, h3⟩
theorem rdR.stS {w : World} {L : List ByteArray} {c : Value} (h : rdR w 1 c (L.map encS)) : ∃ a cap, c = .slice a L.length cap ∧ L.length ≤ cap ∧ (a = none → cap = 0) := by
  obtain ⟨a, cap, rfl, h2, h3, _⟩ := h
  rw [List.length_map] at h2 ⊢
  exact ⟨a, cap, rfl, h2, h3⟩
def noI (L : List It) (s : ByteArray) (k : Nat) : Prop := ∀ j (h : j < L.length), j < k → (L[j]'h).1 ≠ s
theorem noI_succ {L : List It} {s : ByteArray} {k : Nat} (h : noI L s k) (hk : k < L.length) (hne : (L[k]'hk).1 ≠ s) : noI L s (k + 1) := fun j hj hjk => by
  by_cases e : j = k
  · subst e; exact hne
  · exact h j hj (by omega)
theorem noI_hit {L : List It} {s : ByteArray} {k : Nat} (h : noI L s k) (hk : k < L.length) (he : (L[k]'hk).1 = s) : plcI L s = (k : Int) := fndI_hit hk he (fun j hj => h j (by omega) hj)
theorem noI_miss {L : List It} {s : ByteArray} (h : noI L s L.length) : plcI L s = -1 := fndI_miss (fun j hj => h j hj hj)
theorem l9Find_any (L : List It) (s : ByteArray) (c : Value) (w : World) (hx : rdR w 3 c (L.map encI)) (hn : L.length ≤ 4000000) :
    Calls Try.prog 21 #[c, .string s] w fun e w' => e = .returned (.int .i64 (plcI L s)) ∧ w' = w := by
  obtain ⟨a, cap, rfl, -, -⟩ := hx.itS
  have Hx := hide hx
  clear hx
  go_enter Try.func21, Try.ntmps21
  go_wp2
  go_loop [5] (fun i => ∃ (k : Nat), k ≤ L.length ∧ i = .int .i64 k ∧ Hid (noI L s k)) (fun i => L.length - (intOf i).toNat)
  case atStart => exact ⟨0, Nat.zero_le _, rfl, fun j hj h => by omega⟩
  case round =>
    obtain ⟨k, hk, rfl, Ho⟩ := hrel
    by_cases hlt : k < L.length
    · obtain ⟨b, off, rfl, -, c0, -, -⟩ := Hx.out.itAt hlt
      have he := beq_str (L[k].1) s
      have Hh : Hid (L[k].1 = s → plcI L s = (k : Int)) := noI_hit Ho.out hlt
      have Hm : Hid (L[k].1 ≠ s → noI L s (k + 1)) := noI_succ Ho.out hlt
      clear Hx Ho
      generalize L[k].1 = K at *
      by_cases hq : K = s
      · rw [decide_eq_true hq] at he
        have Hn := hide (Hh.out hq)
        clear hq Hh Hm
        go_wp2
        go_ret
        exact ⟨ret_int Hn.out.symm, rfl⟩
      · rw [decide_eq_false hq] at he
        have Hn := hide (Hm.out hq)
        clear hq Hh Hm
        go_wp2
        go_round
        case rel => exact ⟨k + 1, by omega, by go_num, Hn⟩
        case measure => simp [intOf]; omega
    · have e : k = L.length := by omega
      subst e
      have Hn := hide (noI_miss Ho.out)
      clear Ho Hx
      go_wp2
      go_ret
      exact ⟨ret_int Hn.out.symm, rfl⟩
def noS (A : List ByteArray) (s : ByteArray) (k : Nat) : Prop := ∀ j (h : j < A.length), j < k → (A[j]'h) ≠ s
theorem noS_succ {L : List ByteArray} {s : ByteArray} {k : Nat} (h : noS L s k) (hk : k < L.length) (hne : (L[k]'hk) ≠ s) : noS L s (k + 1) := fun j hj hjk => by
  by_cases e : j = k
  · subst e; exact hne
  · exact h j hj (by omega)
theorem noS_miss {L : List ByteArray} {s : ByteArray} (h : noS L s L.length) : inA L s = false := by
  rw [← Bool.not_eq_true, inA_iff]
  intro hm
  obtain ⟨j, hj, rfl⟩ := List.mem_iff_getElem.1 hm
  exact h j hj hj rfl
theorem noS_hit {L : List ByteArray} {s : ByteArray} {k : Nat} (hk : k < L.length) (he : (L[k]'hk) = s) : inA L s = true := inA_iff.2 (he ▸ List.getElem_mem hk)
theorem l2AmongQ_any (L : List ByteArray) (s : ByteArray) (c : Value) (w : World) (hx : rdR w 1 c (L.map encS)) (hn : L.length ≤ 4000000) :
    Calls Try.prog 22 #[c, .string s] w fun e w' => e = .returned (.bool (inA L s)) ∧ w' = w := by
  obtain ⟨a, cap, rfl, -, -⟩ := hx.stS
  have Hx := hide hx
  clear hx
  go_enter Try.func22, Try.ntmps22
  go_wp2
  go_loop [5] (fun i => ∃ (k : Nat), k ≤ L.length ∧ i = .int .i64 k ∧ Hid (noS L s k)) (fun i => L.length - (intOf i).toNat)
  case atStart => exact ⟨0, Nat.zero_le _, rfl, fun j hj h => by omega⟩
  case round =>
    obtain ⟨k, hk, rfl, Ho⟩ := hrel
    by_cases hlt : k < L.length
    · obtain ⟨b, off, rfl, -, c0⟩ := Hx.out.stAt hlt
      have he := beq_str (L[k]) s
      have Hh : Hid (L[k] = s → inA L s = true) := noS_hit hlt
      have Hm : Hid (L[k] ≠ s → noS L s (k + 1)) := noS_succ Ho.out hlt
      clear Hx Ho
      generalize L[k] = K at *
      by_cases hq : K = s
      · rw [decide_eq_true hq] at he
        have Hn := hide (Hh.out hq)
        clear hq Hh Hm
        go_wp2
        go_ret
        exact ⟨ret_bool Hn.out.symm, rfl⟩
      · rw [decide_eq_false hq] at he
        have Hn := hide (Hm.out hq)
        clear hq Hh Hm
        go_wp2
        go_round
        case rel => exact ⟨k + 1, by omega, by go_num, Hn⟩
        case measure => simp [intOf]; omega
    · have e : k = L.length := by omega
      subst e
      have Hn := hide (noS_miss Ho.out)
      clear Ho Hx
      go_wp2
      go_ret
      exact ⟨ret_bool Hn.out.symm, rfl⟩
/-- the first place of a text -/
def plcS (A : List ByteArray) (s : ByteArray) (r : Int) : Prop := (r = -1 ∧ inA A s = false) ∨ ∃ (k : Nat) (h : k < A.length), r = (k : Int) ∧ A[k] = s ∧ noS A s k
theorem ixStr_any (L : List ByteArray) (s : ByteArray) (c : Value) (w : World) (hx : rdR w 1 c (L.map encS)) (hn : L.length ≤ 4000000) :
    Calls Try.prog 49 #[c, .string s] w fun e w' => ∃ r : Int, e = .returned (.int .i64 r) ∧ plcS L s r ∧ w' = w := by
  obtain ⟨a, cap, rfl, -, -⟩ := hx.stS
  have Hx := hide hx
  clear hx
  go_enter Try.func49, Try.ntmps49
  go_wp2
  go_loop [8] (fun i => ∃ (k : Nat), k ≤ L.length ∧ i = .int .i64 k ∧ Hid (noS L s k)) (fun i => L.length - (intOf i).toNat)
  case atStart => exact ⟨0, Nat.zero_le _, rfl, fun j hj h => by omega⟩
  case round =>
    obtain ⟨k, hk, rfl, Ho⟩ := hrel
    by_cases hlt : k < L.length
    · obtain ⟨b, off, rfl, -, c0⟩ := Hx.out.stAt hlt
      have he := beq_str s (L[k])
      have Hh : Hid (L[k] = s → plcS L s (k : Int)) := fun e => .inr ⟨k, hlt, rfl, e, Ho.out⟩
      have Hm : Hid (L[k] ≠ s → noS L s (k + 1)) := noS_succ Ho.out hlt
      clear Hx Ho
      generalize L[k] = K at *
      by_cases hq : K = s
      · rw [decide_eq_true hq.symm] at he
        have Hn := hide (Hh.out hq)
        clear hq Hh Hm
        go_wp2
        go_ret
        exact ⟨k, rfl, Hn.out, rfl⟩
      · rw [decide_eq_false (fun e => hq e.symm)] at he
        have Hn := hide (Hm.out hq)
        clear hq Hh Hm
        go_wp2
        go_round
        case rel => exact ⟨k + 1, by omega, by go_num, Hn⟩
        case measure => simp [intOf]; omega
    · have e : k = L.length := by omega
      subst e
      have Hn : Hid (plcS L s (-1)) := .inl ⟨rfl, noS_miss Ho.out⟩
      clear Ho Hx
      go_wp2
      go_ret
      exact ⟨-1, rfl, Hn.out, rfl⟩
theorem coStr_any (L : List ByteArray) (s : ByteArray) (c : Value) (w : World) (hx : rdR w 1 c (L.map encS)) (hn : L.length ≤ 4000000) :
    Calls Try.prog 36 #[c, .string s] w fun e w' => e = .returned (.bool (inA L s)) ∧ w' = w := by
  have HC := hide (ixStr_any L s c w hx hn)
  obtain ⟨a, cap, rfl, -, -⟩ := hx.stS
  clear hx
  go_enter Try.func36, Try.ntmps36
  go_wp2_with fail
  refine HC.out.mono ?_
  rintro e w1 ⟨x, rfl, hp, rfl⟩
  rcases hp with ⟨rfl, hp⟩ | ⟨k, hk, rfl, hp, -⟩
  · have Hp := hide hp
    clear hp
    go_wp2
    go_ret
    first | exact ⟨ret_bool Hp.out.symm, rfl⟩ | exact ⟨ret_bool (by rw [Hp.out]), rfl⟩ | exact ⟨ret_bool (by rw [Hp.out]; simp), rfl⟩
  · have Hp := hide (noS_hit hk hp)
    have h0 : (0 : Int) ≤ (k : Int) := Int.natCast_nonneg _
    clear hp
    go_wp2
    go_ret
    first | exact ⟨ret_bool Hp.out.symm, rfl⟩ | exact ⟨ret_bool (by rw [Hp.out]; simp), rfl⟩
theorem within_any (x b : Int) (w : World) : Calls Try.prog 24 #[.int .i64 x, .int .i64 b] w fun e w' => e = .returned (.bool (inB x 0 b)) ∧ w' = w := by
  go_enter Try.func24, Try.ntmps24
  go_wp2
  all_goals go_ret
  all_goals exact ⟨ret_bool (by rw [Bool.eq_iff_iff]; simp [inB]; omega), rfl⟩
end Go.Proofs.Ytddojjigijfgbaa
/- Rows of things of k cells: append of what can be read, parts of a slice, the library's Delete. -/
namespace Go.Proofs.Ytddojjigijfgbaa
open Go.RowKit
set_option linter.unusedVariables false

/-- a slice type, its elements of k cells -/
def elT (P : Program) (t e : TypeId) (k : Nat) : Prop := P.underlying t = some (.slice e) ∧ ∃ i z, P.info? e = some i ∧ i.zero = some z ∧ i.size = k ∧ z.cells.size = k ∧ i.bytes ≤ 1000
theorem elT_of {P : Program} {t e : TypeId} {k b : Nat} (h1 : P.underlying t = some (.slice e)) (h2 : (P.info? e).map (fun i => (i.zero.map (fun z => z.cells.size), i.size, i.bytes)) = some (some k, k, b)) (hb : b ≤ 1000) : elT P t e k := by
  refine ⟨h1, ?_⟩
  cases hi : P.info? e with
  | none => rw [hi] at h2; cases h2
  | some i =>
    rw [hi] at h2
    simp only [Option.map_some, Option.some.injEq, Prod.mk.injEq] at h2
    obtain ⟨g1, g2, g3⟩ := h2
    cases hz : i.zero with
    | none => rw [hz] at g1; cases g1
    | some z =>
      rw [hz] at g1
      simp only [Option.map_some, Option.some.injEq] at g1
      exact ⟨i, z, rfl, hz, g2, g1, by omega⟩
theorem flat_inv {k : Nat} (hk : 0 < k) : ∀ (R : List (List Value)) (j : Nat) (u : Value), rowsK k R → R.flatten[j]? = some u → ∃ q r i, R[q]? = some r ∧ r[i]? = some u ∧ j = q * k + i
  | [], j, u, h, hj => by simp at hj
  | x :: R, j, u, h, hj => by
    have hx := h x (.head _)
    rw [List.flatten_cons] at hj
    by_cases hlt : j < k
    · rw [List.getElem?_append_left (by omega)] at hj
      exact ⟨0, x, j, rfl, hj, by omega⟩
    · rw [List.getElem?_append_right (by omega), hx] at hj
      obtain ⟨q, r, i, h1, h2, h3⟩ := flat_inv hk R (j - k) u h.tail hj
      exact ⟨q + 1, r, i, by simpa using h1, h2, by rw [Nat.succ_mul]; omega⟩
def oneR (R : List (List Value)) : Prop := ∀ r ∈ R, ∀ u ∈ r, u.oneCell' = true
theorem oneR.flat {R : List (List Value)} (h : oneR R) : ∀ u ∈ R.flatten, u.oneCell' = true := fun u hu => by
  obtain ⟨r, hr, hu⟩ := List.mem_flatten.1 hu
  exact h r hr u hu
section
variable {P : Program} {w : World} {t e : TypeId} {k : Nat}
theorem run_append_rd (hE : elT P t e k) (hk0 : 0 < k) (ty : TypeId) (base : Nat) (v : Value) (R0 : List (List Value)) (hown : ownR w base e k v R0) (xv : Value) (R : List (List Value)) (hr : rdR w k xv R) (hk : rowsK k R) (h1 : oneR R)
    (hn : R0.length + R.length ≤ 10000000) (hbase : base ≤ w.heap.size) :
    ∃ v' w', (Builtin.append_ #[t, t] ty #[v, xv]).run P w = .ok v' w' ∧ ownR w' base e k v' (R0 ++ R) ∧ w.grownBy w' v.ownBlock ∧ (v'.ownBlock = v.ownBlock ∨ v'.ownBlock = some w.heap.size) := by
  obtain ⟨ht, i, z, hi, hz, hs, hzs, hb⟩ := hE
  obtain ⟨a, cap, rfl, g1, g2, g3⟩ := hr
  cases a with
  | none =>
    have hc := g2 rfl
    subst hc
    have h0 : R = [] := List.length_eq_zero_iff.1 (by omega)
    subst h0
    exact ⟨v, w, run_append_owned_none (P := P) (w := w) base t ty e i k ht hi v _ _ hown.2, by rw [List.append_nil]; exact hown, World.grownBy.refl w _, .inl rfl⟩
  | some ad =>
    have hsrc : ∀ j u, R.flatten[j]? = some u → w.cell? (ad.add j) = some u := by
      intro j u hj
      obtain ⟨q, r, i', q1, q2, rfl⟩ := flat_inv hk0 R j u hk hj
      obtain ⟨b, o, e', hc⟩ := g3 (by have := (List.getElem?_eq_some_iff.1 q1).1; omega)
      cases e'
      rw [Go.WideShapes.add_plain, ← Nat.add_assoc]
      exact hc q r i' u q1 q2
    obtain ⟨v', w', e1, e2, e3, -, e5⟩ := run_append_own_at (P := P) w base t ty e i z k i.bytes ht hi hz hs rfl hzs hk0 v _ _ hown.2 ad R.length cap R.flatten hk.len hsrc h1.flat (by unfold maxLen; omega) (by
      have : (R0.length + R.length) * i.bytes ≤ 10000000 * 1000 := Nat.mul_le_mul hn hb
      omega) hbase
    exact ⟨v', w', e1, ⟨hown.1.app hk, by rw [List.length_append, List.flatten_append]; exact e2⟩, e3, e5⟩
theorem run_append_lit (ht : P.underlying t = some (.slice e)) {i : TypeInfo} {z : Value} (hi : P.info? e = some i) (hz : i.zero = some z) (ty : TypeId) (g : Nat) (ad : Addr) (n c : Nat) (news : List Value) (hl : news.length = n * i.size) (hnews : ∀ j u, news[j]? = some u → w.cell? (ad.add j) = some u) (h1 : ∀ u ∈ news, u.oneCell' = true) (hn : 0 < n) (h63 : n ≤ 10000000) (hb : i.bytes ≤ 1000) :
    (Builtin.append_ #[t, t] ty #[.slice (some ⟨g, 0, none⟩) 0 0, .slice (some ad) n c]).run P w = (Builtin.append_ #[t, t] ty #[.slice none 0 0, .slice (some ad) n c]).run P w := by
  have hs : Src P i.size t (.slice (some ad) n c) n news w := Src.ofSlice w ht ad n c news hl hnews h1
  have hcap : Builtin.nextslicecap (0 + n) 0 * i.bytes ≤ 281474976710656 := by
    have : Builtin.nextslicecap (0 + n) 0 = 0 + n := by unfold Builtin.nextslicecap; rw [if_pos (by omega)]
    rw [this]
    have : (0 + n) * i.bytes ≤ 10000000 * 1000 := Nat.mul_le_mul (by omega) hb
    omega
  rw [run_append_grow_src w t t ty e i z ht hi hz (some ⟨g, 0, none⟩) 0 0 [] (run_firstCells_some w.drew i.size 0 ⟨g, 0, none⟩ 0 0 [] (by simp) (by simp)) (.slice (some ad) n c) n news hs (by omega) (by omega) hcap]
  rw [run_append_grow_src w t t ty e i z ht hi hz none 0 0 [] (run_firstCells_none w.drew i.size 0 0 0) (.slice (some ad) n c) n news hs (by omega) (by omega) hcap]
/-- append behind a list that was just made and has no room -/
theorem run_append_rd0 (hE : elT P t e k) (hk0 : 0 < k) (ty : TypeId) (base g : Nat) (hown : ownR w base e k (.slice (some ⟨g, 0, none⟩) 0 0) []) (xv : Value) (R : List (List Value)) (hr : rdR w k xv R) (hk : rowsK k R) (h1 : oneR R)
    (hn : R.length ≤ 10000000) (hbase : base ≤ w.heap.size) :
    ∃ v' w', (Builtin.append_ #[t, t] ty #[.slice (some ⟨g, 0, none⟩) 0 0, xv]).run P w = .ok v' w' ∧ ownR w' base e k v' R ∧ Below w.heap.size w w' ∧ (v'.ownBlock = some g ∨ v'.ownBlock = some w.heap.size) := by
  have hE' := hE
  obtain ⟨ht, i, z, hi, hz, hs, hzs, hb⟩ := hE
  have hr' := hr
  obtain ⟨a, cap, rfl, g1, g2, g3⟩ := hr
  rcases Nat.eq_zero_or_pos R.length with h0 | hp
  · have e0 : R = [] := List.length_eq_zero_iff.1 h0
    subst e0
    refine ⟨_, w, ?_, hown, Below.refl _ _, .inl rfl⟩
    cases a with
    | none =>
      have hc := g2 rfl
      subst hc
      exact run_append_owned_none (P := P) (w := w) base t ty e i k ht hi _ _ _ hown.2
    | some ad =>
      have hf := run_firstCells_some (P := P) w i.size 0 ad 0 cap [] (by simp) (by simp)
      simp [Builtin.append_, run_underlying ht, sizeOf, typeInfo, hi, Builtin.lenOf, hf, storeCells]
  · obtain ⟨b, o, rfl, hc⟩ := g3 hp
    obtain ⟨v', w', e1, e2, e3, e5⟩ := run_append_rd hE' hk0 ty base (.slice none 0 0) [] (ownR.nil w base e k) _ R hr' hk h1 (by simp; omega) hbase
    have hsrc : ∀ j u, R.flatten[j]? = some u → w.cell? ((⟨b, o, none⟩ : Addr).add j) = some u := by
      intro j u hj
      obtain ⟨q, r, i', q1, q2, rfl⟩ := flat_inv hk0 R j u hk hj
      rw [Go.WideShapes.add_plain, ← Nat.add_assoc]
      exact hc q r i' u q1 q2
    refine ⟨v', w', ?_, e2, ⟨e3.os, e3.tape, e3.output, e3.size, fun k hk => e3.block k hk (fun e => by cases e)⟩, ?_⟩
    · rw [run_append_lit ht hi hz ty g _ R.length cap R.flatten (by rw [hs]; exact hk.len) hsrc h1.flat hp hn hb]
      exact e1
    · rcases e5 with h | h
      · exfalso
        rcases e2.2.2 with ⟨hv, hl⟩ | ⟨g', cap', cur, hv, _⟩
        · exact absurd (show ([] ++ R).length = 0 from hl) (by rw [List.nil_append]; omega)
        · rw [hv] at h; cases h
      · exact .inr h
/-- what stands behind an operation: the walk stops here -/
def After (φ : Value → World → Prop) : Prop := ∀ v' w', φ v' w'
theorem wpList_append_rd {ops : Array Oper} {rest : List Oper} {o : Oper} {a : Act} {Q : Exit → Act → World → Prop} (hgd : o.guard = none) (s x : Operand) (t : TypeId)
    (ho : o.op = .call { callee := .builtin .append, args := #[s, x], argTypes := #[t, t] }) (e : TypeId) (k : Nat) (hE : elT P t e k) (hk0 : 0 < k) (base : Nat) (v : Value) (R0 : List (List Value)) (hs : a.eval s = v) (hown : ownR w base e k v R0)
    (xv : Value) (R : List (List Value)) (hx : a.eval x = xv) (hr : rdR w k xv R) (hk : rowsK k R) (h1 : oneR R) (hn : R0.length + R.length ≤ 10000000) (hbase : base ≤ w.heap.size)
    (h : After fun v' w' => ownR w' base e k v' (R0 ++ R) → w.grownBy w' v.ownBlock → (v'.ownBlock = v.ownBlock ∨ v'.ownBlock = some w.heap.size) → wpList P ops Q rest (a.put o.dst v') w') : wpList P ops Q (o :: rest) a w := by
  refine wpList_plain hgd fun K hK => ?_
  obtain ⟨v', w', hr, h2, h3, h5⟩ := run_append_rd hE hk0 o.type base v R0 hown xv R hr hk h1 hn hbase
  unfold Oper.wp execOp
  simp only [ho, resolve, invoke, builtin, Sem.run_bind, Sem.run_pure, Result.andThen_ok, List.map_toArray, List.map_cons, List.map_nil, hs, hx, hr]
  exact hK _ _ (h v' w' h2 h3 h5)
theorem step_append_rd {ops : Array Oper} {o : Oper} {a : Act} {K : Act → World → Prop} {Q : Exit → Act → World → Prop} {E : Prop} (hgd : o.guard = none) (s x : Operand) (t : TypeId)
    (ho : o.op = .call { callee := .builtin .append, args := #[s, x], argTypes := #[t, t] }) (e : TypeId) (k : Nat) (hE : elT P t e k) (hk0 : 0 < k) (base : Nat) (v : Value) (R0 : List (List Value)) (hs : a.eval s = v) (hown : ownR w base e k v R0)
    (xv : Value) (R : List (List Value)) (hx : a.eval x = xv) (hr : rdR w k xv R) (hk : rowsK k R) (h1 : oneR R) (hn : R0.length + R.length ≤ 10000000) (hbase : base ≤ w.heap.size)
    (h : ∀ v' w', ownR w' base e k v' (R0 ++ R) → w.grownBy w' v.ownBlock → (v'.ownBlock = v.ownBlock ∨ v'.ownBlock = some w.heap.size) → K (a.put o.dst v') w') :
    if Region.wanted o (yielded ops a.tmps) = true then Oper.wp P o a w K Q else E := by
  have hw : Region.wanted o (yielded ops a.tmps) = true := by simp [Region.wanted, hgd]
  rw [if_pos hw]
  obtain ⟨v', w', hr, h2, h3, h5⟩ := run_append_rd hE hk0 o.type base v R0 hown xv R hr hk h1 hn hbase
  unfold Oper.wp execOp
  simp only [ho, resolve, invoke, builtin, Sem.run_bind, Sem.run_pure, Result.andThen_ok, List.map_toArray, List.map_cons, List.map_nil, hs, hx, hr]
  exact h v' w' h2 h3 h5
end
/-- what lies in a block that was just laid -/
theorem rdR.block {w : World} {g k : Nat} {e : TypeId} {r : List Value} (n : Nat) (h : objU w g e r) (hr : r.length = k) : rdR w k (.slice (some ⟨g, 0, none⟩) 1 n) [r] ∨ n = 0 := by
  rcases Nat.eq_zero_or_pos n with h0 | hp
  · exact .inr h0
  · refine .inl ⟨_, n, rfl, hp, (fun h => by cases h), fun _ => ⟨g, 0, rfl, fun q r' j v hq hj => ?_⟩⟩
    cases q with
    | zero =>
      cases hq
      have := h.cell j v hj
      rw [← this]; congr 2; omega
    | succ q => simp at hq
theorem rdR.one {w : World} {g k : Nat} {e : TypeId} {r : List Value} (h : objU w g e r) : rdR w k (.slice (some ⟨g, 0, none⟩) 1 1) [r] := by
  refine ⟨_, 1, rfl, Nat.le_refl _, (fun h => by cases h), fun _ => ⟨g, 0, rfl, fun q r' j v hq hj => ?_⟩⟩
  cases q with
  | zero =>
    cases hq
    have := h.cell j v hj
    rw [← this]; congr 2; omega
  | succ q => simp at hq
/-- the beginning and the end of a slice -/
theorem rdR.take {w : World} {k : Nat} {a : Option Addr} {n cap : Nat} {R : List (List Value)} (h : rdR w k (.slice a n cap) R) {i : Nat} (hi : i ≤ R.length) : rdR w k (.slice a i cap) (R.take i) := by
  obtain ⟨a', cap', e, h2, h3, h4⟩ := h
  cases e
  refine ⟨a, cap, by rw [List.length_take, Nat.min_eq_left hi], by rw [List.length_take]; omega, h3, fun hp => ?_⟩
  rw [List.length_take] at hp
  obtain ⟨b, o, rfl, hc⟩ := h4 (by omega)
  exact ⟨b, o, rfl, fun q r j v hq hj => hc q r j v (by rw [List.getElem?_take] at hq; split at hq; exact hq; cases hq) hj⟩
theorem rdR.drop {w : World} {k : Nat} {b o n cap : Nat} {R : List (List Value)} (h : rdR w k (.slice (some ⟨b, o, none⟩) n cap) R) {i : Nat} (hi : i ≤ R.length) {A : Option Addr} (hA : A = if cap = i then some ⟨b, o, none⟩ else some ⟨b, o + i * k, none⟩) : rdR w k (.slice A (R.length - i) (cap - i)) (R.drop i) := by
  obtain ⟨a', cap', e, h2, h3, h4⟩ := h
  cases e
  refine ⟨A, cap - i, by rw [List.length_drop], by rw [List.length_drop]; omega, (fun hn => by rw [hA] at hn; split at hn <;> cases hn), fun hp => ?_⟩
  rw [List.length_drop] at hp
  obtain ⟨b', o', e', hc⟩ := h4 (by omega)
  cases e'
  refine ⟨b, o + i * k, by rw [hA, if_neg (by omega)], fun q r j v hq hj => ?_⟩
  rw [List.getElem?_drop] at hq
  rw [← hc (i + q) r j v hq hj]
  congr 2
  rw [Nat.add_mul]; omega
theorem grown_below {w w' : World} (h : w.grownBy w' none) : Below w.heap.size w w' := ⟨h.os, h.tape, h.output, h.size, fun k hk => h.block k hk (fun e => by cases e)⟩
theorem grown_out {w w' : World} {g : Nat} (h : w.grownBy w' (some g)) : OutS [g] w w' := ⟨h.os, h.tape, h.output, h.size, fun k hk hn => h.block k hk (fun e => hn (by cases e; simp))⟩
theorem blk_own {v : Value} {g : Nat} : g ∈ blkOf v ↔ v.ownBlock = some g := by
  unfold blkOf
  cases v.ownBlock with
  | none => simp
  | some b => simp [eq_comm]
end Go.Proofs.Ytddojjigijfgbaa
/- Data as cells: what a reading of arguments says, for every type at once. -/
namespace Go.Proofs.Ytddojjigijfgbaa
open Go.RowKit
open Go.ChangeShapes Go.WideShapes Go.ChangeAt
set_option linter.unusedVariables false

theorem tyL.app : ∀ {a b : UD} {fs gs : List UF}, tyL a fs → tyL b gs → tyL (a.app b) (fs ++ gs)
  | .nil, b, fs, gs, h, k => by rw [UD.app_nil, show fs = [] from h]; exact k
  | .p v r, b, _, gs, ⟨f, fr, e, h1, h2⟩, k => by subst e; rw [UD.app_p]; exact ⟨f, fr ++ gs, rfl, h1, tyL.app h2 k⟩
  | .l m n cs r, b, _, gs, ⟨t, fr, e, h1, h2⟩, k => by subst e; rw [UD.app_l]; exact ⟨t, fr ++ gs, rfl, h1, tyL.app h2 k⟩
theorem uH.app {w : World} {lo hi : Nat} : ∀ {a b : UD} {xs ys : List Value}, uH w lo hi a xs → uH w lo hi b ys → uH w lo hi (a.app b) (xs ++ ys)
  | .nil, b, xs, ys, h, k => by rw [UD.app_nil, show xs = [] from h]; exact k
  | .p v r, b, _, ys, ⟨zs, e, h⟩, k => by subst e; rw [UD.app_p]; exact ⟨zs ++ ys, rfl, uH.app h k⟩
  | .l m n cs r, b, _, ys, ⟨c, zs, e, h1, h⟩, k => by subst e; rw [UD.app_l]; exact ⟨c, zs ++ ys, rfl, h1, uH.app h k⟩
theorem tyL.len : ∀ {d : UD} {fs : List UF}, tyL d fs → d.len = fs.length
  | .nil, fs, h => by rw [show fs = [] from h]; rfl
  | .p v r, _, ⟨f, fr, e, h1, h2⟩ => by subst e; rw [UD.len_p, tyL.len h2]; rfl
  | .l m n cs r, _, ⟨t, fr, e, h1, h2⟩ => by subst e; rw [UD.len_l, tyL.len h2]; rfl
theorem uM.app {w : World} {lo hi b : Nat} : ∀ {d e : UD} {o : Nat}, uM w lo hi d b o → uM w lo hi e b (o + d.len) → uM w lo hi (d.app e) b o
  | .nil, e, o, h, k => by rw [UD.app_nil]; exact k
  | .p v r, e, o, h, k => by rw [UD.app_p]; exact ⟨h.1, uM.app h.2 (by rw [UD.len_p] at k; rw [show o + 1 + r.len = o + (r.len + 1) by omega]; exact k)⟩
  | .l m n cs r, e, o, h, k => by rw [UD.app_l]; exact ⟨h.1, uM.app h.2 (by rw [UD.len_l] at k; rw [show o + 1 + r.len = o + (r.len + 1) by omega]; exact k)⟩
theorem uM.of_hand {w : World} {lo hi b : Nat} : ∀ {d : UD} {xs : List Value} {o : Nat}, uH w lo hi d xs → (∀ j c, xs[j]? = some c → w.cell? ⟨b, o + j, none⟩ = some c) → uM w lo hi d b o
  | .nil, _, _, _, _ => trivial
  | .p v r, _, o, ⟨ys, e, h⟩, hc => by
    subst e
    exact ⟨hc 0 v rfl, uM.of_hand h (fun j x hx => by have := hc (j + 1) x (by simpa using hx); rw [← this]; congr 2; omega)⟩
  | .l k n cs r, _, o, ⟨c, ys, e, h1, h2⟩, hc => by
    subst e
    obtain ⟨a, cap, rfl, h3⟩ := h1
    exact ⟨⟨a, cap, hc 0 _ rfl, h3⟩, uM.of_hand h2 (fun j x hx => by have := hc (j + 1) x (by simpa using hx); rw [← this]; congr 2; omega)⟩
theorem tyU.row {fs : List UF} (hf : 0 < fs.length) : ∀ {d rest : UD} {i j : Nat}, tyL d (fs.drop j) → i % fs.length = j → tyU rest fs (i + d.len) → tyU (d.app rest) fs i
  | .nil, rest, i, j, h, hi, k => by rw [UD.app_nil]; exact k
  | .p v r, rest, i, j, ⟨f, fr, e, h1, h2⟩, hi, k => by
    rw [UD.app_p]
    have hj : j < fs.length := by rw [← hi]; exact Nat.mod_lt _ hf
    rw [List.drop_eq_getElem_cons hj] at e
    obtain ⟨e1, e2⟩ := List.cons.inj e
    refine ⟨⟨f, by rw [hi, List.getElem?_eq_getElem hj, e1], h1⟩, ?_⟩
    rw [UD.len_p] at k
    rw [← e2] at h2
    by_cases hl : j + 1 < fs.length
    · exact tyU.row hf h2 (by rw [Nat.add_mod, hi, Nat.mod_eq_of_lt (show 1 < fs.length by omega), Nat.mod_eq_of_lt hl]) (by rw [show i + 1 + r.len = i + (r.len + 1) by omega]; exact k)
    · rw [List.drop_eq_nil_of_le (by omega)] at h2
      rw [tyL.nil h2, UD.app_nil]
      rw [tyL.nil h2] at k
      exact k
  | .l m n cs r, rest, i, j, ⟨t, fr, e, h1, h2⟩, hi, k => by
    rw [UD.app_l]
    have hj : j < fs.length := by rw [← hi]; exact Nat.mod_lt _ hf
    rw [List.drop_eq_getElem_cons hj] at e
    obtain ⟨e1, e2⟩ := List.cons.inj e
    refine ⟨⟨t, by rw [hi, List.getElem?_eq_getElem hj, e1], h1⟩, ?_⟩
    rw [UD.len_l] at k
    rw [← e2] at h2
    by_cases hl : j + 1 < fs.length
    · exact tyU.row hf h2 (by rw [Nat.add_mod, hi, Nat.mod_eq_of_lt (show 1 < fs.length by omega), Nat.mod_eq_of_lt hl]) (by rw [show i + 1 + r.len = i + (r.len + 1) by omega]; exact k)
    · rw [List.drop_eq_nil_of_le (by omega)] at h2
      rw [tyL.nil h2, UD.app_nil]
      rw [tyL.nil h2] at k
      exact k

/-- a type of the program is flatly these cells; TY: which type a number stands for -/
inductive Flat (P : Program) (TY : Nat → TypeId) (G : Nat → Prop) : TypeId → List UF → Prop where
  | i64 {t : TypeId} : P.underlying t = some (.int .i64) → Flat P TY G t [.i .i64]
  | u8 {t : TypeId} : P.underlying t = some (.int .u8) → Flat P TY G t [.i .u8]
  | str {t : TypeId} : P.underlying t = some .string → Flat P TY G t [.s]
  | bool {t : TypeId} : P.underlying t = some .bool → Flat P TY G t [.b]
  | slice {t : TypeId} (n : Nat) : P.underlying t = some (.slice (TY n)) → G n → P.cellsOf (TY n) = (uE n).length → 0 < (uE n).length → Flat P TY G t [.l (uE n).length n]
  | struct {t : TypeId} {fields : Array Field} (segs : List (List UF)) : P.underlying t = some (.struct fields) → segs.length = fields.size →
      (∀ (i : Nat) (f : Field) (s : List UF), fields[i]? = some f → segs[i]? = some s → Flat P TY G f.type s) → (∀ (i : Nat) (f : Field) (s : List UF), fields[i]? = some f → segs[i]? = some s → P.cellsOf f.type = s.length ∧ f.offset = (segs.take i).flatten.length) → Flat P TY G t segs.flatten

section
variable {H : Type} {enc : TypeId × Value → H} {P : Program} {w : World} {base : Nat} {spare : Nat → Bool} {held : Bool}
theorem open_rows {fs : List UF} (hf : 0 < fs.length) {b off : Nat} : ∀ (m len : Nat), m ≤ len → (∀ i, i < len → ∃ d xs, tyL d fs ∧ uH w 0 w.heap.size d xs ∧ ∀ j c, xs[j]? = some c → w.cell? ⟨b, off + (i * fs.length + j), none⟩ = some c) →
    ∃ cs : UD, tyU cs fs ((len - m) * fs.length) ∧ cs.len = m * fs.length ∧ uM w 0 w.heap.size cs b (off + (len - m) * fs.length)
  | 0, len, _, _ => ⟨.nil, trivial, by simp [UD.len, UD.toL], trivial⟩
  | m + 1, len, hm, h => by
    obtain ⟨cs, h1, h2, h3⟩ := open_rows hf (b := b) (off := off) m len (by omega) h
    obtain ⟨d, xs, g1, g2, g3⟩ := h (len - (m + 1)) (by omega)
    have hl := g1.len
    have e : (len - m) * fs.length = (len - (m + 1)) * fs.length + fs.length := by rw [show len - m = (len - (m + 1)) + 1 by omega, Nat.succ_mul]
    refine ⟨d.app cs, tyU.row hf (j := 0) (by rw [List.drop_zero]; exact g1) (Nat.mul_mod_left _ _) (by rw [hl, ← e]; exact h1), ?_, uM.app (uM.of_hand g2 (fun j c hc => ?_)) ?_⟩
    · have : (d.app cs).len = d.len + cs.len := by unfold UD.len; rw [UD.app_toL, List.length_append]
      rw [this, hl, h2, Nat.succ_mul]; omega
    · rw [← g3 j c hc]; congr 2; omega
    · rw [hl, show off + (len - (m + 1)) * fs.length + fs.length = off + (len - m) * fs.length by rw [e]; omega]; exact h3
theorem openU {TY : Nat → TypeId} {G : Nat → Prop} (HE : ∀ n, G n → Flat P TY G (TY n) (uE n)) : ∀ (fuel : Nat) (t : TypeId) (fs : List UF), Flat P TY G t fs → ∀ (cs : List Value) (x : DataW H × List MemPlace),
    cs.length = fs.length → DataW.trod enc P w base spare held fuel t cs = some x → ∃ d : UD, tyL d fs ∧ uH w 0 w.heap.size d cs := by
  intro fuel
  induction fuel using Nat.strongRecOn with
  | ind fuel ih =>
  intro t fs hF
  induction hF generalizing fuel with
  | i64 ht =>
    intro cs x hl h
    obtain ⟨z, rfl, -, hw⟩ := DataW.trod_int ht h
    have hb : -9223372036854775808 ≤ z ∧ z ≤ 9223372036854775807 := by have h := Go.Joins.in64_of_wf hw; unfold Go.Joins.In64 at h; omega
    exact ⟨.p (.int .i64 z) .nil, ⟨_, _, rfl, ⟨z, rfl, hb⟩, rfl⟩, ⟨_, rfl, rfl⟩⟩
  | u8 ht =>
    intro cs x hl h
    obtain ⟨z, rfl, -, hw⟩ := DataW.trod_int ht h
    have hb : 0 ≤ z ∧ z ≤ 255 := by
      have m1 : IntKind.u8.min = 0 := rfl
      have m2 : IntKind.u8.max = 255 := rfl
      simp [Lit.wf] at hw; omega
    exact ⟨.p (.int .u8 z) .nil, ⟨_, _, rfl, ⟨z, rfl, hb⟩, rfl⟩, ⟨_, rfl, rfl⟩⟩
  | str ht =>
    intro cs x hl h
    obtain ⟨z, rfl, -, hw⟩ := DataW.trod_string ht h
    exact ⟨.p (.string z) .nil, ⟨_, _, rfl, ⟨z, rfl, hw⟩, rfl⟩, ⟨_, rfl, rfl⟩⟩
  | bool ht =>
    intro cs x hl h
    obtain ⟨z, rfl, -⟩ := DataW.trod_bool ht h
    exact ⟨.p (.bool z) .nil, ⟨_, _, rfl, ⟨z, rfl⟩, rfl⟩, ⟨_, rfl, rfl⟩⟩
  | slice n ht hg hc hpos =>
    intro cs x hl h
    rcases DataW.trod_slice ht h with ⟨rfl, -⟩ | ⟨a, len, cap, elems, rest, k, hf, rfl, rfl, hb, hle, hm, hlen, hel, _⟩
    · exact ⟨.l (uE n).length 0 .nil .nil, ⟨n, _, rfl, ⟨hpos, rfl, Nat.zero_le _, by simp [UD.len, UD.toL], trivial⟩, rfl⟩, ⟨_, _, rfl, ⟨none, 0, rfl, ⟨Nat.le_refl _, fun _ => rfl, hpos, by simp [UD.len, UD.toL]⟩, fun h => by cases h⟩, rfl⟩⟩
    · rw [hc] at hel
      rcases Nat.eq_zero_or_pos len with rfl | hp
      · exact ⟨.l (uE n).length 0 .nil .nil, ⟨n, _, rfl, ⟨hpos, rfl, Nat.zero_le _, by simp [UD.len, UD.toL], trivial⟩, rfl⟩, ⟨_, _, rfl, ⟨some a, cap, rfl, ⟨hle, (fun h => by cases h), hpos, by simp [UD.len, UD.toL]⟩, fun h => by cases h⟩, rfl⟩⟩
      have each : ∀ i, i < len → ∃ cs', w.cells? base (a.add (i * (uE n).length)) (uE n).length = some cs' ∧ ∃ d, tyL d (uE n) ∧ uH w 0 w.heap.size d cs' := fun i hi => by
        have key := hel i hi
        rw [List.getElem?_eq_getElem (by omega)] at key
        obtain ⟨cs', h1, h2⟩ := Option.bind_eq_some_iff.1 key
        obtain ⟨_, hlen', _⟩ := World.cells?_some h1
        exact ⟨cs', h1, ih k (by omega) (TY n) (uE n) (HE n hg) cs' _ hlen' h2⟩
      obtain ⟨b, off, spot⟩ := a
      have hspot : spot = none ∧ b < w.heap.size := by
        obtain ⟨cs', h1, _⟩ := each 0 hp
        obtain ⟨_, hlen', hcell⟩ := World.cells?_some h1
        have e0 := hcell 0 (by omega)
        rw [Go.Deep.add_add] at e0
        rw [List.getElem?_eq_getElem (by omega)] at e0
        exact ⟨by simpa [Addr.add] using World.cell?_spot e0, by simpa [Addr.add] using World.block_lt_of_cell? _ _ e0⟩
      obtain ⟨rfl, hbl⟩ := hspot
      obtain ⟨ds, h1, h2, h3⟩ := open_rows (w := w) hpos (b := b) (off := off) len len (Nat.le_refl _) (fun i hi => by
        obtain ⟨cs', h1, d, h2, h3⟩ := each i hi
        refine ⟨d, cs', h2, h3, fun j c hc => ?_⟩
        obtain ⟨_, hlen', hcell⟩ := World.cells?_some h1
        have hj : j < cs'.length := (List.getElem?_eq_some_iff.1 hc).1
        have e0 := hcell j (by omega)
        rw [Go.Deep.add_add, Go.WideShapes.add_plain] at e0
        rw [e0, hc])
      rw [Nat.sub_self, Nat.zero_mul] at h1 h3
      exact ⟨.l (uE n).length len ds .nil, ⟨n, _, rfl, ⟨hpos, rfl, by omega, h2, h1⟩, rfl⟩, ⟨_, _, rfl, ⟨some ⟨b, off, none⟩, cap, rfl, ⟨hle, (fun h => by cases h), hpos, h2⟩, fun _ => ⟨b, off, rfl, Nat.zero_le _, hbl, by simpa using h3⟩⟩, rfl⟩⟩
  | @struct t fields segs ht hs hF hO ihF =>
    intro cs x hl h
    obtain ⟨xs, k, hk, -, hcl, hxl, hf⟩ := DataW.trod_struct ht h
    have key : ∀ m, m ≤ segs.length → ∃ d, tyL d (segs.drop (segs.length - m)).flatten ∧ uH w 0 w.heap.size d (cs.drop (segs.take (segs.length - m)).flatten.length) := by
      intro m
      induction m with
      | zero =>
        intro _
        refine ⟨.nil, ?_, ?_⟩
        · rw [Nat.sub_zero, List.drop_length]; rfl
        · rw [Nat.sub_zero, List.take_length, ← hl, List.drop_length]; rfl
      | succ m ihm =>
        intro hm
        obtain ⟨d, h1, h2⟩ := ihm (by omega)
        have hi : segs.length - (m + 1) < segs.length := by omega
        obtain ⟨fld, hfld⟩ : ∃ fld, fields[segs.length - (m + 1)]? = some fld := ⟨_, Array.getElem?_eq_getElem (by omega)⟩
        have hseg := List.getElem?_eq_getElem hi
        obtain ⟨o1, o2⟩ := hO _ _ _ hfld hseg
        have ht2 := hf _ _ hfld
        rw [List.getElem?_eq_getElem (by rw [hxl, ← hs]; exact hi)] at ht2
        have e1 : segs.length - m = (segs.length - (m + 1)) + 1 := by omega
        have etake : (segs.take (segs.length - m)).flatten.length = (segs.take (segs.length - (m + 1))).flatten.length + (segs[segs.length - (m + 1)]'hi).length := by
          rw [e1, List.take_add_one, hseg, List.flatten_append, List.length_append]; simp
        have hle : (segs.take (segs.length - m)).flatten.length ≤ cs.length := by
          rw [hl]
          have := congrArg (fun l => l.flatten.length) (List.take_append_drop (segs.length - m) segs)
          simp only [List.flatten_append, List.length_append] at this
          omega
        obtain ⟨d1, g1, g2⟩ := ihF _ _ _ hfld hseg k (fun q hq => ih q (by omega)) _ _ (by rw [List.length_take, List.length_drop, o1, o2]; omega) ht2
        refine ⟨d1.app d, ?_, ?_⟩
        · rw [List.drop_eq_getElem_cons hi, List.flatten_cons, show segs.length - (m + 1) + 1 = segs.length - m by omega]
          exact tyL.app g1 h1
        · rw [o1, o2] at g2
          have := uH.app g2 h2
          rw [etake, ← List.drop_drop, List.take_append_drop] at this
          exact this
    obtain ⟨d, h1, h2⟩ := key segs.length (Nat.le_refl _)
    rw [Nat.sub_self, List.drop_zero] at h1
    rw [Nat.sub_self, List.take_zero] at h2
    exact ⟨d, h1, by simpa using h2⟩
end
end Go.Proofs.Ytddojjigijfgbaa
/- A struct of many cells loaded whole: one letter. -/
namespace Go.Proofs.Ytddojjigijfgbaa
open Go.RowKit Go.BigFrame
set_option linter.unusedVariables false
theorem wpList_load_eq {P : Program} {ops : Array Oper} {rest : List Oper} {o : Oper} {a : Act} {w : World} {Q : Exit → Act → World → Prop} (hgd : o.guard = none) (t : TypeId) (x : Operand) (ho : o.op = .load t x) (ad : Addr) (hx : a.eval x = .pointer (some ad)) (v : Value)
    (hl : Sem.run P (Instr.loadAt t (.pointer (some ad))) w = .ok v w) (h : wpList P ops Q rest (a.put o.dst v) w) : wpList P ops Q (o :: rest) a w := by
  refine wpList_plain hgd fun K hK => ?_
  unfold Oper.wp execOp
  simp only [ho, Sem.run_bind, Sem.run_pure, hx, hl, Result.andThen_ok]
  exact hK _ _ h
theorem split_head {n : Nat} {xs : List Value} (h : xs.length = n + 1) : ∃ x r, xs = x :: r ∧ r.length = n := by
  cases xs with
  | nil => cases h
  | cons x r => exact ⟨x, r, rfl, by simpa using h⟩
theorem split_end {xs : List Value} (h : xs.length = 0) : xs = [] := List.eq_nil_of_length_eq_zero h
theorem step_load_eq {P : Program} {w : World} {ops : Array Oper} {o : Oper} {a : Act} {K : Act → World → Prop} {Q : Exit → Act → World → Prop} {E : Prop} (hgd : o.guard = none) (t : TypeId) (x : Operand) (ho : o.op = .load t x) (ad : Addr) (hx : a.eval x = .pointer (some ad)) (v : Value)
    (hl : Sem.run P (Instr.loadAt t (.pointer (some ad))) w = .ok v w) (h : K (a.put o.dst v) w) : if Region.wanted o (yielded ops a.tmps) = true then Oper.wp P o a w K Q else E := by
  have hw : Region.wanted o (yielded ops a.tmps) = true := by simp [Region.wanted, hgd]
  rw [if_pos hw]
  unfold Oper.wp execOp
  simp only [ho, Sem.run_bind, Sem.run_pure, hx, hl, Result.andThen_ok]
  exact h
theorem load_whole {P : Program} {t : TypeId} {k : Nat} {ad : Addr} {w : World} {xs : List Value} (ha : ∀ w, (isAgg t).run P w = .ok true w) (hs : ∀ w, (Go.sizeOf t).run P w = .ok k w) (hk : xs.length = k) (h : ∀ j v, xs[j]? = some v → w.cell? (ad.add j) = some v) : Sem.run P (Instr.loadAt t (.pointer (some ad))) w = .ok (.agg xs.toArray) w := by
  have hl := run_loadCellsFrom_list P w ad xs k hk h
  simp only [Instr.loadAt, Instr.sureAddr, Sem.run_bind, Sem.run_pure, Result.andThen_ok, loadVar, ha, hs, loadCells, hl, if_true]
end Go.Proofs.Ytddojjigijfgbaa
/- Data as cells: structs of many cells, loaded and stored whole; copying field by field, each step one law. -/
namespace Go.Proofs.Ytddojjigijfgbaa
open Go.RowKit Go.BigFrame
set_option linter.unusedVariables false

theorem OutS.setCells {b : Nat} : ∀ (vs : List Value) (o : Nat) (w : World), OutS [b] w (w.setCells b o vs)
  | [], o, w => OutS.refl _ _
  | v :: r, o, w => ((OutS.refl [b] w).setCell (p := ⟨b, o, none⟩) (by simp) v).trans (OutS.setCells r (o + 1) _)
theorem objU.there {w : World} {b : Nat} {t : TypeId} {xs : List Value} (h : objU w b t xs) (o n : Nat) (hn : o + n ≤ xs.length) : w.there b o n := fun j hj =>
  ⟨by rw [h.cell (o + j) xs[o + j] (List.getElem?_eq_getElem (by omega))]; rfl, h.fz _⟩
theorem objU.range {w : World} {b : Nat} {t : TypeId} {xs : List Value} (h : objU w b t xs) (o : Nat) (ys : List Value) (hy : ∀ j v, ys[j]? = some v → xs[o + j]? = some v) : w.rangeAt b o ys := fun j v hv => h.cell _ _ (hy j v hv)
theorem objU.whole {w : World} {b : Nat} {t : TypeId} {xs : List Value} (h : objU w b t xs) : w.rangeAt b 0 xs := h.range 0 xs (fun j v hv => by rw [Nat.zero_add]; exact hv)
theorem objU.setCells {b : Nat} {t : TypeId} : ∀ (ys zs : List Value) (pre post : List Value) (w : World), objU w b t (pre ++ (zs ++ post)) → zs.length = ys.length → objU (w.setCells b pre.length ys) b t (pre ++ (ys ++ post))
  | [], zs, pre, post, w, h, hl => by
    have : zs = [] := List.eq_nil_of_length_eq_zero hl
    subst this
    exact h
  | y :: ys, [], pre, post, w, h, hl => by cases hl
  | y :: ys, z :: zs, pre, post, w, h, hl => by
    have h1 := h.set pre.length y
    have e1 : (pre ++ (z :: zs ++ post)).set pre.length y = (pre ++ [y]) ++ (zs ++ post) := by
      rw [List.set_append_right _ _ (Nat.le_refl _), Nat.sub_self]; simp
    rw [e1] at h1
    have h2 := objU.setCells ys zs (pre ++ [y]) post _ h1 (by simpa using hl)
    rw [World.setCells]
    have e2 : (pre ++ [y]).length = pre.length + 1 := by simp
    rw [e2] at h2
    have e3 : pre ++ [y] ++ (ys ++ post) = pre ++ (y :: ys ++ post) := by simp
    rw [e3] at h2
    exact h2
/-- loads and stores, each a step; the value and the place said by the caller -/
theorem wpList_load_one {P : Program} {ops : Array Oper} {rest : List Oper} {o : Oper} {a : Act} {w : World} {Q : Exit → Act → World → Prop} (hgd : o.guard = none) (t : TypeId) (x : Operand) (ho : o.op = .load t x)
    (b j : Nat) (hx : a.eval x = .pointer (some ⟨b, j, none⟩)) (v : Value) (hu : (P.underlying t).map TypeDesc.isRow = some false) (hc : w.cell? ⟨b, j, none⟩ = some v) (h : wpList P ops Q rest (a.put o.dst v) w) : wpList P ops Q (o :: rest) a w := by
  refine wpList_load_eq hgd t x ho ⟨b, j, none⟩ hx v ?_ h
  cases hd : P.underlying t with
  | none => rw [hd] at hu; cases hu
  | some d =>
    rw [hd] at hu
    have hagg : (isAgg t).run P w = .ok false w := by
      unfold isAgg
      rw [Sem.run_bind, run_underlying hd w]
      cases d <;> simp_all [TypeDesc.isRow]
    simp only [Instr.loadAt, Instr.sureAddr, Sem.run_bind, Sem.run_pure, Result.andThen_ok, loadVar, hagg, Bool.false_eq_true, if_false, run_load, hc]
theorem load_row_eq {P : Program} {t : TypeId} {b j : Nat} {w : World} {ys : List Value} (hu : (P.underlying t).map TypeDesc.isRow = some true) (hi : (P.info? t).map (·.size) = some ys.length) (hr : w.rangeAt b j ys) : Sem.run P (Instr.loadAt t (.pointer (some ⟨b, j, none⟩))) w = .ok (.agg ys.toArray) w := by
  cases hd : P.underlying t with
  | none => rw [hd] at hu; cases hu
  | some d =>
    rw [hd] at hu
    exact run_loadAt_mid w b j t ys d hr hd (by simpa using hu) hi
theorem wpList_load_row2 {P : Program} {ops : Array Oper} {rest : List Oper} {o : Oper} {a : Act} {w : World} {Q : Exit → Act → World → Prop} (hgd : o.guard = none) (t : TypeId) (x : Operand) (ho : o.op = .load t x)
    (b j : Nat) (hx : a.eval x = .pointer (some ⟨b, j, none⟩)) (ys : List Value) (hu : (P.underlying t).map TypeDesc.isRow = some true) (hi : (P.info? t).map (·.size) = some ys.length) (hr : w.rangeAt b j ys) (h : wpList P ops Q rest (a.put o.dst (.agg ys.toArray)) w) : wpList P ops Q (o :: rest) a w :=
  wpList_load_eq hgd t x ho ⟨b, j, none⟩ hx _ (load_row_eq hu hi hr) h
theorem yieldsIf_load_row {P : Program} {ops : Array Oper} {S : World → Prop} {op : Oper} {a : Act} (hw : Region.wanted op (yielded ops a.tmps) = true) (t : TypeId) (x : Operand) (ho : op.op = .load t x)
    (b o : Nat) (hx : a.eval x = .pointer (some ⟨b, o, none⟩)) (ys : List Value) (hS : ∀ w, S w → w.rangeAt b o ys)
    (hu : (P.underlying t).map TypeDesc.isRow = some true) (hi : (P.info? t).map (·.size) = some ys.length) : YieldsIf P ops S op (.agg ys.toArray) a := by
  cases hd : P.underlying t with
  | none => rw [hd] at hu; cases hu
  | some d =>
    rw [hd] at hu
    exact yieldsIf_load_mid hw t x ho b o hx ys d hS hd (by simpa using hu) hi
theorem run_storeAt_cells {P : Program} {w : World} {b j : Nat} {t : TypeId} {v : Value} {ys : List Value} (hv : v.cells = ys.toArray) (h1 : ∀ u ∈ ys, u.oneCell' = true) (hi : (P.info? t).map (·.size) = some ys.length) (ht : w.there b j ys.length) :
    (Instr.storeAt t (.pointer (some ⟨b, j, none⟩)) v).run P w = .ok () (w.setCells b j ys) := by
  have := run_storeCells_cells (P := P) b j ys 0 w (fun q hq => by simpa using (ht q hq).1) (fun q hq => by simpa using (ht q hq).2) h1
  cases hq : P.info? t with
  | none => simp [hq] at hi
  | some i =>
    have hs : ys.length = i.size := by simp [hq] at hi; omega
    simp only [Nat.add_zero] at this
    simp [Instr.storeAt, Instr.sureAddr, storeVar, sizeOf, typeInfo, hq, hv, hs, this]
/-- behind a store the world is a letter -/
def Behind (φ : World → Prop) (w : World) : Prop := ∀ w', w' = w → φ w'
theorem wpList_store_cells {P : Program} {ops : Array Oper} {rest : List Oper} {o : Oper} {a : Act} {w : World} {Q : Exit → Act → World → Prop} (hgd : o.guard = none) (t : TypeId) (x y : Operand) (ho : o.op = .store t x y) (hd : o.dst = none)
    (b j : Nat) (hx : a.eval x = .pointer (some ⟨b, j, none⟩)) (v : Value) (hy : a.eval y = v) (ys : List Value) (hv : v.cells = ys.toArray) (h1 : ∀ u ∈ ys, u.oneCell' = true) (hi : (P.info? t).map (·.size) = some ys.length) (ht : w.there b j ys.length)
    (h : Behind (wpList P ops Q rest a) (w.setCells b j ys)) : wpList P ops Q (o :: rest) a w := by
  refine wpList_plain hgd fun K hK => ?_
  unfold Oper.wp execOp
  simp only [ho, hx, hy, Sem.run_bind, run_storeAt_cells hv h1 hi ht, Result.andThen_ok]
  exact hK _ _ (by rw [hd]; exact h _ rfl)
theorem one1 {v : Value} (h : v.oneCell' = true) : ∀ u ∈ [v], u.oneCell' = true := fun u hu => by simp at hu; subst hu; exact h
theorem one_int {k : IntKind} {z : Int} : (Value.int k z).oneCell' = true := rfl
theorem one_string {z : ByteArray} : (Value.string z).oneCell' = true := rfl
theorem one_bool {z : Bool} : (Value.bool z).oneCell' = true := rfl
theorem one_slice {a : Option Addr} {n p : Nat} : (Value.slice a n p).oneCell' = true := rfl
theorem cells_one {v : Value} (h : v.oneCell' = true) : v.cells = [v].toArray := by cases v <;> first | rfl | cases h
theorem wpList_store_v {P : Program} {ops : Array Oper} {rest : List Oper} {o : Oper} {a : Act} {w : World} {Q : Exit → Act → World → Prop} (hgd : o.guard = none) (t : TypeId) (x y : Operand) (ho : o.op = .store t x y) (hd : o.dst = none)
    (b j : Nat) (hx : a.eval x = .pointer (some ⟨b, j, none⟩)) (v : Value) (hy : a.eval y = v) (h1 : v.oneCell' = true) (hi : (P.info? t).map (·.size) = some 1) (ht : w.there b j 1)
    (h : Behind (wpList P ops Q rest a) (w.setCells b j [v])) : wpList P ops Q (o :: rest) a w :=
  wpList_store_cells hgd t x y ho hd b j hx v hy [v] (cells_one h1) (one1 h1) hi ht h
theorem ones_own {w : World} : ∀ {d : UD} {fs : List UF} {xs : List Value} {S : List Nat}, tyL d fs → oH w d xs S → ∀ u ∈ xs, u.oneCell' = true
  | .nil, _, _, _, _, h, u, hu => by rw [h.1] at hu; cases hu
  | .p v r, _, _, S, ⟨f, fr, e, h1, h2⟩, ⟨ys, e2, h⟩, u, hu => by
    subst e2
    rcases List.mem_cons.1 hu with rfl | hu
    · cases f with
      | i k => obtain ⟨z, rfl, _⟩ := h1; rfl
      | s => obtain ⟨z, rfl, _⟩ := h1; rfl
      | b => obtain ⟨z, rfl⟩ := h1; rfl
      | l k t => cases h1
    · exact ones_own h2 h u hu
  | .l k n cs r, _, _, _, ⟨t, fr, e, h1, h2⟩, ⟨c, ys, S1, S2, e2, eS, hk, ⟨t', zs, g1, g2⟩, h⟩, u, hu => by
    subst e2
    rcases List.mem_cons.1 hu with rfl | hu
    · obtain ⟨a, cap, rfl⟩ := uowns_slice g1; rfl
    · exact ones_own h2 h u hu
theorem cells_agg {ys : List Value} : (Value.agg ys.toArray).cells = ys.toArray := rfl

/-- where the copying of a struct, field by field, stands: j cells are copied, dd is what they are -/
def CP (w0 w : World) (A R O : Nat) (TA TO : TypeId) (AX Z : List Value) (dd : UD) (j : Nat) : Prop :=
  ∃ done S, objU w A TA AX ∧ objU w R TO Z ∧ objU w O TO (done ++ Z.drop j) ∧ done.length = j ∧ oH w dd done S ∧ own2 S (O + 1) w.heap.size ∧ Below w0.heap.size w0 w ∧ w0.heap.size ≤ A ∧ A < O ∧ w0.heap.size ≤ R ∧ R < O ∧ O < w.heap.size
theorem CP.start {w : World} {TA TO : TypeId} {AX Z : List Value} : CP w (((w.alloc (.cells AX.toArray TA)).alloc (.cells Z.toArray TO)).alloc (.cells Z.toArray TO)) w.heap.size (w.heap.size + 1) (w.heap.size + 1 + 1) TA TO AX Z .nil 0 := by
  refine ⟨[], [], ((objU.new2 _ _ rfl).old _).old _, (objU.new2 _ _ (by simp)).old _, ?_, rfl, oH.nil _, own2.nil _ _, (((Below.refl _ _).alloc (Nat.le_refl _) _).alloc (by simp) _).alloc (by simp; omega) _, Nat.le_refl _, by omega, by omega, by omega, by simp⟩
  simpa using objU.new2 (w := (w.alloc (.cells AX.toArray TA)).alloc (.cells Z.toArray TO)) TO Z (b := w.heap.size + 1 + 1) (by simp)
theorem CP.below {w0 w w' : World} {A R O : Nat} {TA TO : TypeId} {AX Z : List Value} {dd : UD} {j : Nat} (h : CP w0 w A R O TA TO AX Z dd j) (hb : Below w.heap.size w w') : CP w0 w' A R O TA TO AX Z dd j := by
  obtain ⟨done, S, h1, h2, h3, h4, h5, h6, h7, h8, h9, h10, h11, h12⟩ := h
  exact ⟨done, S, h1.below hb, h2.below hb, h3.below hb, h4, h5.below hb, h6.mono (Nat.le_refl _) hb.size, h7.trans (hb.mono h7.size), h8, h9, h10, h11, Nat.lt_of_lt_of_le h12 hb.size⟩
theorem CP.bel {w0 w : World} {A R O : Nat} {TA TO : TypeId} {AX Z : List Value} {dd : UD} {j : Nat} (h : CP w0 w A R O TA TO AX Z dd j) : Below w0.heap.size w0 w := by
  obtain ⟨done, S, h1, h2, h3, h4, h5, h6, h7, _⟩ := h; exact h7
theorem CP.cell {w0 w : World} {A R O : Nat} {TA TO : TypeId} {AX Z : List Value} {dd : UD} {j : Nat} (h : CP w0 w A R O TA TO AX Z dd j) {q : Nat} {v : Value} (hv : AX[q]? = some v) : w.cell? ⟨A, q, none⟩ = some v := by
  obtain ⟨done, S, h1, _⟩ := h; exact h1.cell q v hv
theorem CP.range {w0 w : World} {A R O : Nat} {TA TO : TypeId} {AX Z : List Value} {dd : UD} {j : Nat} (h : CP w0 w A R O TA TO AX Z dd j) {q : Nat} {ys : List Value} (hv : ∀ i v, ys[i]? = some v → AX[q + i]? = some v) : w.rangeAt A q ys := by
  obtain ⟨done, S, h1, _⟩ := h; exact h1.range q ys hv
theorem CP.there {w0 w : World} {A R O : Nat} {TA TO : TypeId} {AX Z : List Value} {dd : UD} {j : Nat} (h : CP w0 w A R O TA TO AX Z dd j) (n : Nat) (hn : j + n ≤ Z.length) : w.there O j n := by
  obtain ⟨done, S, h1, h2, h3, h4, _⟩ := h
  exact h3.there j n (by rw [List.length_append, List.length_drop, h4]; omega)
/-- cells are stored behind those that are copied: ys came of a call that ended in w1 (or w1 is w, where it is plain) -/
theorem CP.step {w0 w w1 : World} {A R O : Nat} {TA TO : TypeId} {AX Z : List Value} {dd : UD} {j : Nat} (h : CP w0 w A R O TA TO AX Z dd j) (hb : Below w.heap.size w w1) {dp : UD} {ys : List Value} {T : List Nat} (ho : oH w1 dp ys T) (hT : own2 T w.heap.size w1.heap.size) {w' : World} (e : w' = w1.setCells O j ys) {j' : Nat} (hj : j' = j + ys.length) (hn : j' ≤ Z.length) : CP w0 w' A R O TA TO AX Z (dd.app dp) j' := by
  have hlt := h
  obtain ⟨done, S, h1, h2, h3, h4, h5, h6, h7, h8, h9, h10, h11, h12⟩ := h.below hb
  obtain ⟨done', S', g1, g2, g3, g4, g5, g6, g7, g8, g9, g10, g11, g12⟩ := hlt
  subst e hj
  have hout : OutS [O] w1 (w1.setCells O j ys) := OutS.setCells ys j w1
  have hS' : ∀ s ∈ S', s < w.heap.size := g5.lt _ _ _
  refine ⟨done' ++ ys, S' ++ T, (g1.below hb).outS hout (by simp; omega), (g2.below hb).outS hout (by simp; omega), ?_, by rw [List.length_append, g4], oH.app ((g5.below hb).outS hout (fun g hg hx => ?_)) (ho.outS hout (fun g hg hx => ?_)), ?_, ?_, h8, h9, h10, h11, ?_⟩
  · have e1 : Z.drop j = (Z.drop j).take ys.length ++ Z.drop (j + ys.length) := by rw [← List.drop_drop]; exact (List.take_append_drop _ _).symm
    have g3' := g3.below hb
    rw [e1] at g3'
    have := objU.setCells ys ((Z.drop j).take ys.length) done' (Z.drop (j + ys.length)) w1 g3' (by rw [List.length_take, List.length_drop]; omega)
    rw [g4] at this
    rw [List.append_assoc]; exact this
  · simp at hx; have := g6.2 g hg; omega
  · simp at hx; have := hT.2 g hg; omega
  · have hsz := hout.size
    exact (g6.app hT (Nat.le_refl _) (by omega) hb.size).mono (Nat.le_refl _) hsz
  · exact h7.trans (hout.below (B := w0.heap.size) (fun t ht => by simp at ht; omega) h7.size)
  · exact Nat.lt_of_lt_of_le h12 hout.size
theorem CP.plain {w0 w : World} {A R O : Nat} {TA TO : TypeId} {AX Z : List Value} {dd : UD} {j : Nat} (h : CP w0 w A R O TA TO AX Z dd j) {v : Value} {w' : World} (e : w' = w.setCells O j [v]) {j' : Nat} (hj : j' = j + 1) (hn : j' ≤ Z.length) : CP w0 w' A R O TA TO AX Z (dd.app (.p v .nil)) j' :=
  h.step (Below.refl _ _) (oH.consP v (oH.nil _)) (own2.nil _ _) e hj hn
theorem CP.list {w0 w w1 : World} {A R O : Nat} {TA TO : TypeId} {AX Z : List Value} {dd : UD} {j : Nat} (h : CP w0 w A R O TA TO AX Z dd j) (hb : Below w.heap.size w w1) {k n : Nat} {cs : UD} {c : Value} {T : List Nat} (ho : oS w1 k n cs c T) (hT : own2 T w.heap.size w1.heap.size) {w' : World} (e : w' = w1.setCells O j [c]) {j' : Nat} (hj : j' = j + 1) (hn : j' ≤ Z.length) : CP w0 w' A R O TA TO AX Z (dd.app (.l k n cs .nil)) j' := by
  have := oH.consS ho (oH.nil _)
  rw [List.append_nil] at this
  exact h.step hb this hT e hj hn
/-- all is copied -/
theorem CP.fin {w0 w : World} {A R O : Nat} {TA TO : TypeId} {AX Z : List Value} {dd : UD} {j : Nat} (h : CP w0 w A R O TA TO AX Z dd j) {D : UD} (hD : dd = D) (hj : j = Z.length) : ∃ done S, Hid (w.rangeAt O 0 done) ∧ done.length = j ∧ Hid (w.there R 0 done.length) ∧ oH w D done S ∧ ∀ w', w' = w.setCells R 0 done → objU w' R TO done ∧ oH w' D done S ∧ S.Nodup ∧ (∀ s ∈ S, w0.heap.size ≤ s) ∧ Below w0.heap.size w0 w' := by
  subst hD
  obtain ⟨done, S, h1, h2, h3, h4, h5, h6, h7, h8, h9, h10, h11, h12⟩ := h
  have e0 : Z.drop j = [] := List.drop_eq_nil_of_le (by omega)
  rw [e0, List.append_nil] at h3
  refine ⟨done, S, h3.whole, h4, h2.there 0 _ (by omega), h5, fun w' e => ?_⟩
  subst e
  have hout : OutS [R] w (w.setCells R 0 done) := OutS.setCells done 0 w
  have h2' := objU.setCells done Z [] [] w (by simpa using h2) (by omega)
  refine ⟨by simpa using h2', h5.outS hout (fun g hg hx => ?_), h6.1, fun s hs => by have := h6.2 s hs; omega, h7.trans (hout.below (B := w0.heap.size) (fun t ht => by simp at ht; omega) h7.size)⟩
  simp at hx; have := h6.2 g hg; omega
theorem results_row {P : Program} {fn : Func} {p : Tmp} {ty : TypeId} (h : fn.results = #[.cell p ty]) (tmps : Array Value) (w : World) (g : Nat) (t : TypeId) (ys : List Value)
    (hp : tmps.getD p undef = .pointer (some ⟨g, 0, none⟩)) (hg : objU w g t ys) (hu : (P.underlying ty).map TypeDesc.isRow = some true) (hi : (P.info? ty).map (·.size) = some ys.length) :
    (results fn tmps).run P w = .ok (.agg ys.toArray) w := by
  cases hd : P.underlying ty with
  | none => rw [hd] at hu; cases hu
  | some d =>
    rw [hd] at hu
    exact results_cell_row h tmps w g t ys.toArray (0, 0) d hp hg hd (by cases d <;> simp_all [TypeDesc.isRow]) (by simpa using hi)

/-! rows of structs -/
theorem wSet_eq : ∀ (ys : List Value) (w : World) (g i : Nat), w.setCells g i ys = wSet w g i ys
  | [], w, g, i => rfl
  | y :: ys, w, g, i => by rw [World.setCells, wSet, wSet_eq ys]
theorem range_below {w w' : World} {b o : Nat} {xs : List Value} (h : w.rangeAt b o xs) (hb : Below w.heap.size w w') : w'.rangeAt b o xs := fun j v hv =>
  (hb.cell (p := ⟨b, o + j, none⟩) (World.block_lt_of_cell? _ _ (h j v hv))).trans (h j v hv)
theorem TS.there {w0 w : World} {e : TypeId} {k n : Nat} {cs : UD} {q : Nat} (h : TS w0 w e k n cs q) (p m : Nat) (hm : p + m ≤ n * k) : w.there w0.heap.size p m := fun j hj => by
  obtain ⟨v, hv⟩ := h.cell (p + j) (by omega)
  exact ⟨by rw [hv]; rfl, h.fz _⟩
theorem TS.row {w0 w w2 w' : World} {e : TypeId} {k n : Nat} {cs : UD} {q : Nat} (h : TS w0 w e k n cs q) (hb : Below w.heap.size w w2) {ys : List Value} {T : List Nat} (ho : oH w2 (rowU cs k q) ys T) (hnd : T.Nodup) (hT : ∀ t ∈ T, w.heap.size ≤ t) (hl : cs.len = n * k) (hq : q < n) (e' : w' = w2.setCells w0.heap.size (q * k) ys) : TS w0 w' e k n cs (q + 1) := by
  subst e'
  rw [wSet_eq]
  exact h.step hb ho hnd hT hl hq
theorem MS.there {w0 w : World} {e : TypeId} {k n : Nat} {cap : Nat} {g : Nat} {cs : UD} {j0 : Nat} {S : List Nat} {xs0 : List Value} {i : Nat} (h : MS w0 w e k n (.slice (some ⟨g, 0, none⟩) n cap) g cs j0 S xs0 i) (p : Nat) (hn : p < n * k) : w.there g p 1 := fun j hj => by
  obtain ⟨xs, h1, _⟩ := h
  have : j = 0 := by omega
  subst this
  exact ⟨by rw [Nat.add_zero, h1.cellAt p hn, List.getElem?_eq_getElem (by rw [h1.1]; exact hn)]; rfl, h1.frozenAt p⟩
theorem setCells_one (w : World) (b o : Nat) (v : Value) : w.setCells b o [v] = w.setCell ⟨b, o, none⟩ v := by rw [World.setCells, World.setCells]
theorem MS.cellS {w0 wx wy : World} {e : TypeId} {k n : Nat} {cap : Nat} {g : Nat} {cs : UD} {j0 : Nat} {S : List Nat} {xs0 : List Value} {i i' : Nat} (h : MS w0 wx e k n (.slice (some ⟨g, 0, none⟩) n cap) g cs j0 S xs0 i) {v u : Value} (he : cs.at? i = some (.p v)) {m : Nat} (hc : j0 + cnt (cs.takeN i) = m) (hu : u = mkP m v) (ey : wy = wx.setCells g i [u]) (hi : i' = i + 1) : MS w0 wy e k n (.slice (some ⟨g, 0, none⟩) n cap) g cs j0 S xs0 i' := by
  subst hi ey hc
  rw [setCells_one]
  exact h.plain he hu
theorem at_row {cs : UD} {K q : Nat} {R : UD} (hR : rowU cs K q = R) {j : Nat} {e : UE} (hj : j < K) (h : R.at? j = some e) : cs.at? (q * K + j) = some e := by
  rw [← rowU_at cs K q j hj, hR]; exact h
theorem ct_next {cs : UD} {k0 i m : Nat} {e : UE} (hc : k0 + cnt (cs.takeN i) = m) (h : cs.at? i = some e) : k0 + cnt (cs.takeN (i + 1)) = m + cntE e := by
  rw [cnt_succ cs i e h, ← Nat.add_assoc, hc]
theorem ct_end {cs : UD} {k0 q K m : Nat} (h : k0 + cnt (cs.takeN (q * K + K)) = m) : k0 + cnt (cs.takeN ((q + 1) * K)) = m := by
  rw [Nat.succ_mul]; exact h
/-! structs taken apart -/
theorem at_mid {pre ys post AX : List Value} {j i : Nat} {v : Value} (hA : AX = pre ++ (ys ++ post)) (hj : pre.length = j) (h : ys[i]? = some v) : AX[j + i]? = some v := by
  subst hA hj
  have hi := (List.getElem?_eq_some_iff.1 h).1
  rw [List.getElem?_append_right (by omega), List.getElem?_append_left (by omega), ← h]
  congr 1; omega
theorem tyL.split : ∀ {d : UD} {f1 f2 : List UF}, tyL d (f1 ++ f2) → ∃ d1 d2, d = d1.app d2 ∧ tyL d1 f1 ∧ tyL d2 f2
  | d, [], f2, h => ⟨.nil, d, (UD.app_nil d).symm, rfl, h⟩
  | .nil, f :: fr, f2, h => by cases h
  | .p v r, f :: fr, f2, h => by
    obtain ⟨g, gr, e, h1, h2⟩ := h
    cases e
    obtain ⟨d1, d2, rfl, h3, h4⟩ := tyL.split (f1 := fr) (f2 := f2) h2
    exact ⟨.p v d1, d2, (UD.app_p v d1 d2).symm, ⟨_, _, rfl, h1, h3⟩, h4⟩
  | .l k n cs r, f :: fr, f2, h => by
    obtain ⟨t, gr, e, h1, h2⟩ := h
    cases e
    obtain ⟨d1, d2, rfl, h3, h4⟩ := tyL.split (f1 := fr) (f2 := f2) h2
    exact ⟨.l k n cs d1, d2, (UD.app_l k n cs d1 d2).symm, ⟨_, _, rfl, h1, h3⟩, h4⟩
theorem uH.split {w : World} {lo hi : Nat} : ∀ {d1 d2 : UD} {xs : List Value}, uH w lo hi (d1.app d2) xs → ∃ x1 x2, xs = x1 ++ x2 ∧ x1.length = d1.len ∧ uH w lo hi d1 x1 ∧ uH w lo hi d2 x2
  | .nil, d2, xs, h => ⟨[], xs, rfl, rfl, rfl, by rw [UD.app_nil] at h; exact h⟩
  | .p v r, d2, xs, h => by
    rw [UD.app_p] at h
    obtain ⟨ys, rfl, h⟩ := h
    obtain ⟨x1, x2, rfl, hl, h1, h2⟩ := uH.split h
    exact ⟨v :: x1, x2, rfl, by rw [UD.len_p, ← hl]; rfl, ⟨x1, rfl, h1⟩, h2⟩
  | .l k n cs r, d2, xs, h => by
    rw [UD.app_l] at h
    obtain ⟨c, ys, rfl, hc, h⟩ := h
    obtain ⟨x1, x2, rfl, hl, h1, h2⟩ := uH.split h
    exact ⟨c :: x1, x2, rfl, by rw [UD.len_l, ← hl]; rfl, ⟨c, x1, rfl, hc, h1⟩, h2⟩
theorem UD.app_assoc (a b c : UD) : (a.app b).app c = a.app (b.app c) := by apply UD.ext; simp only [UD.app_toL, List.append_assoc]
theorem UD.app_nil_r (a : UD) : a.app .nil = a := by apply UD.ext; rw [UD.app_toL]; simp [UD.toL]
theorem tyL_cast {a b : UD} {fs : List UF} (e : a = b) (h : tyL a fs) : tyL b fs := e ▸ h
theorem oH_cast {w : World} {a b : UD} {xs : List Value} {S : List Nat} (e : a = b) (h : oH w b xs S) : oH w a xs S := e ▸ h
theorem mk_app : ∀ (a b : UD) (j : Nat), mk (a.app b) j = (mk a j).app (mk b (j + cnt a))
  | .nil, b, j => by rw [UD.app_nil]; simp only [mk, cnt, Nat.add_zero, UD.app_nil]
  | .p v r, b, j => by rw [UD.app_p, mk, mk, UD.app_p, mk_app r, cnt]; congr 2; congr 1; omega
  | .l k n cs r, b, j => by rw [UD.app_l, mk, mk, UD.app_l, mk_app r, cnt]; congr 2; congr 1; omega
theorem mkT_app : ∀ (a b : UD) (j : Nat), mkT (a.app b) j = (mkT a j).app (mkT b (j + cntT a))
  | .nil, b, j => by rw [UD.app_nil]; simp only [mkT, cntT, Nat.add_zero, UD.app_nil]
  | .p v r, b, j => by rw [UD.app_p, mkT, mkT, UD.app_p, mkT_app r, cntT]
  | .l k n cs r, b, j => by rw [UD.app_l, mkT, mkT, UD.app_l, mkT_app r, cntT]; congr 2; congr 1; omega
theorem cntT_app : ∀ (a b : UD), cntT (a.app b) = cntT a + cntT b
  | .nil, b => by rw [UD.app_nil]; simp [cntT]
  | .p v r, b => by rw [UD.app_p, cntT, cntT, cntT_app r]
  | .l k n cs r, b => by rw [UD.app_l, cntT, cntT, cntT_app r]; omega
end Go.Proofs.Ytddojjigijfgbaa
/- A queue copied by the program: impl.copyOfQueue. -/
namespace Go.Proofs.Ytddojjigijfgbaa
open Go.RowKit Go.BigFrame
set_option linter.unusedVariables false

theorem elI : elT Try.prog 24 36 3 := elT_of (b := 32) (by kernel_rfl) (by kernel_rfl) (by decide)
theorem elS : elT Try.prog 25 9 1 := elT_of (b := 16) (by kernel_rfl) (by kernel_rfl) (by decide)
theorem ownR.itS {w : World} {base : Nat} {e : TypeId} {k : Nat} {v : Value} {L : List It} (h : ownR w base e k v (L.map encI)) : ∃ a cap, v = .slice a L.length cap := by have := h.slice; rw [List.length_map] at this; exact this
theorem ownR.stS {w : World} {base : Nat} {e : TypeId} {k : Nat} {v : Value} {L : List ByteArray} (h : ownR w base e k v (L.map encS)) : ∃ a cap, v = .slice a L.length cap := by have := h.slice; rw [List.length_map] at this; exact this
theorem oneI (L : List It) : oneR (L.map encI) := fun r hr u hu => by
  obtain ⟨x, _, rfl⟩ := List.mem_map.1 hr
  simp [encI] at hu
  rcases hu with rfl | rfl | rfl <;> rfl
theorem oneS (L : List ByteArray) : oneR (L.map encS) := fun r hr u hu => by
  obtain ⟨x, _, rfl⟩ := List.mem_map.1 hr
  simp [encS] at hu
  rw [hu]; rfl
/-- a queue of the call's own, in blocks from base on -/
def ownQ (w : World) (base : Nat) (Q : Qu) (vI vD vA : Value) : Prop := QO w base 36 9 Q vI vD vA
set_option maxRecDepth 20000 in
set_option maxHeartbeats 1600000 in
theorem copyQ_N (Q : Qu) (xs : List Value) (w : World) (hq : okQ Q) (hx : rdQ w Q xs) :
    Calls Try.prog 16 #[.agg xs.toArray] w fun e w' => ∃ vI vD vA, e = .returned (.agg #[vI, vD, vA, .int .i64 Q.now]) ∧ ownQ w' w.heap.size Q vI vD vA ∧ Below w.heap.size w w' := by
  obtain ⟨cI, cD, cA, rfl, hI, hD, hA⟩ := hx
  have l1 := hq.1.1
  have l2 := hq.2.1.1
  have l3 := hq.2.2.1.1
  obtain ⟨aI, pI, rfl, -, -⟩ := hI.itS
  obtain ⟨aD, pD, rfl, -, -⟩ := hD.itS
  obtain ⟨aA, pA, rfl, -, -⟩ := hA.stS
  have HI := hide hI
  have HD := hide hD
  have HA := hide hA
  have L1 := hide l1
  have L2 := hide l2
  have L3 := hide l3
  clear hI hD hA hq l1 l2 l3
  obtain ⟨w0, ew0⟩ : ∃ w0, w0 = ((w.alloc (.cells #[.slice aI Q.I.length pI, .slice aD Q.D.length pD, .slice aA Q.A.length pA, .int .i64 Q.now] 27)).alloc (.cells #[.slice none 0 0, .slice none 0 0, .slice none 0 0, .int .i64 0] 27)) := ⟨_, rfl⟩
  have BX : Hid (Below w.heap.size w w0) := by show Below _ _ _; rw [ew0]; exact ((Below.refl _ _).alloc (Nat.le_refl _) _).alloc (by simp) _
  have OX : Hid (objU w0 w.heap.size 27 [.slice aI Q.I.length pI, .slice aD Q.D.length pD, .slice aA Q.A.length pA, .int .i64 Q.now]) := by show objU _ _ _ _; rw [ew0]; exact (objU.new _ _ _).old _
  have OZ : Hid (objU w0 (w.heap.size + 1) 27 [.slice none 0 0, .slice none 0 0, .slice none 0 0, .int .i64 0]) := by show objU _ _ _ _; rw [ew0]; exact objU.new2 _ _ (by simp)
  have SZ : Hid (w.heap.size + 2 ≤ w0.heap.size) := by show _ ≤ _; rw [ew0]; simp
  have EW := hide ew0
  clear ew0
  have HEI := hide elI
  have HES := hide elS
  go_enter Try.func16, Try.ntmps16
  go_wp2_with (at_builtin; refine wpList_append_rd rfl _ _ 24 rfl 36 3 HEI.out (by decide) (w.heap.size + 2) (.slice none 0 0) [] rfl (ownR.nil _ _ _ _) _ _ rfl (EW.out ▸ HI.out.below BX.out) (rowsI _) (oneI _) (by have := L1.out; simp; omega) (EW.out ▸ SZ.out) ?_)
  intro v1 w1 ho1 hg1 ha1
  replace hg1 : w0.grownBy w1 none := by rw [EW.out]; exact hg1
  replace ha1 : v1.ownBlock = none ∨ v1.ownBlock = some w0.heap.size := ha1.imp (fun h => h) (fun h => by rw [EW.out]; first | exact h | (simp; exact h) | simpa using h)
  have hb := grown_below hg1
  have OX1 := hide (OX.out.below hb)
  have OZ1 := hide (OZ.out.below hb)
  have B1 : Hid (Below w.heap.size w w1) := BX.out.trans (hb.mono BX.out.size)
  have HO1 : Hid (ownR w1 (w.heap.size + 2) 36 3 v1 (Q.I.map encI)) := ho1
  obtain ⟨b1, c1, rfl⟩ := HO1.out.itS
  have x0 := OX1.out.cell 0 _ rfl
  have x1 := OX1.out.cell 1 _ rfl
  have f0 := OX1.out.fz 0
  have Z1 : Hid (w.heap.size + 2 ≤ w1.heap.size) := Nat.le_trans SZ.out hb.size
  have V1 : Hid (∀ g ∈ blkOf (.slice b1 Q.I.length c1), w.heap.size + 2 ≤ g ∧ g < w1.heap.size) := HO1.out.lt
  clear ho1 hg1 ha1 hb OX OZ BX SZ
  obtain ⟨y1, ey1⟩ : ∃ y1, y1 = w1.setCell ⟨w.heap.size, 0, none⟩ (.slice b1 Q.I.length c1) := ⟨_, rfl⟩
  have O1 : Hid (OutS [w.heap.size] w1 y1) := by show OutS _ _ _; rw [ey1]; exact OutS.setCell (OutS.refl _ _) (by simp) _
  have OX2 : Hid (objU y1 w.heap.size 27 [(.slice b1 Q.I.length c1), .slice aD Q.D.length pD, .slice aA Q.A.length pA, .int .i64 Q.now]) := by show objU _ _ _ _; rw [ey1]; exact OX1.out.set 0 (.slice b1 Q.I.length c1)
  have OZ2 : Hid (objU y1 (w.heap.size + 1) 27 [.slice none 0 0, .slice none 0 0, .slice none 0 0, .int .i64 0]) := OZ1.out.outS O1.out (by simp)
  have B2 : Hid (Below w.heap.size w y1) := B1.out.trans (O1.out.below (by simp) B1.out.size)
  have HO2 : Hid (ownR y1 (w.heap.size + 2) 36 3 (.slice b1 Q.I.length c1) (Q.I.map encI)) := HO1.out.frame (fun g hg => O1.out.block g (V1.out g hg).2 (by have := V1.out g hg; simp; omega))
  have Z2 : Hid (w.heap.size + 2 ≤ y1.heap.size) := Nat.le_trans Z1.out O1.out.size
  have EY := hide ey1
  clear ey1 OX1 OZ1 B1 HO1 Z1 V1
  go_wp2_with (at_builtin; refine wpList_append_rd rfl _ _ 24 rfl 36 3 HEI.out (by decide) (w.heap.size + 2) (.slice none 0 0) [] rfl (ownR.nil _ _ _ _) _ _ rfl (EY.out ▸ HD.out.below B2.out) (rowsI _) (oneI _) (by have := L2.out; simp; omega) (EY.out ▸ Z2.out) ?_)
  intro v2 w2 ho2 hg2 ha2
  replace hg2 : y1.grownBy w2 none := by rw [EY.out]; exact hg2
  replace ha2 : v2.ownBlock = none ∨ v2.ownBlock = some y1.heap.size := ha2.imp (fun h => h) (fun h => by rw [EY.out]; first | exact h | (simp; exact h) | simpa using h)
  have hb := grown_below hg2
  have OX3 := hide (OX2.out.below hb)
  have OZ3 := hide (OZ2.out.below hb)
  have B3 : Hid (Below w.heap.size w w2) := B2.out.trans (hb.mono B2.out.size)
  have HO3 : Hid (ownR w2 (w.heap.size + 2) 36 3 (.slice b1 Q.I.length c1) (Q.I.map encI)) := HO2.out.below hb
  have HP3 : Hid (ownR w2 (w.heap.size + 2) 36 3 v2 (Q.D.map encI)) := ho2
  obtain ⟨b2, c2, rfl⟩ := HP3.out.itS
  have N12 : Hid (∀ g ∈ blkOf (.slice b1 Q.I.length c1), g ∉ blkOf (.slice b2 Q.D.length c2)) := fun g hg hg2 => by
    have h1 := (HO2.out.lt g hg).2
    rw [blk_own] at hg2
    rcases ha2 with e | e
    · rw [e] at hg2; cases hg2
    · rw [e] at hg2; cases hg2; omega
  clear x0 x1 f0
  have x1 := OX3.out.cell 1 _ rfl
  have x2 := OX3.out.cell 2 _ rfl
  have f0 := OX3.out.fz 1
  have Z3 : Hid (w.heap.size + 2 ≤ w2.heap.size) := Nat.le_trans Z2.out hb.size
  have V3 : Hid (∀ g, g ∈ blkOf (.slice b1 Q.I.length c1) ∨ g ∈ blkOf (.slice b2 Q.D.length c2) → w.heap.size + 2 ≤ g ∧ g < w2.heap.size) := fun g hg => hg.elim (HO3.out.lt g) (HP3.out.lt g)
  clear ho2 hg2 ha2 hb OX2 OZ2 B2 Z2 HO2 EY O1
  obtain ⟨y2, ey2⟩ : ∃ y2, y2 = w2.setCell ⟨w.heap.size, 1, none⟩ (.slice b2 Q.D.length c2) := ⟨_, rfl⟩
  have O1 : Hid (OutS [w.heap.size] w2 y2) := by show OutS _ _ _; rw [ey2]; exact OutS.setCell (OutS.refl _ _) (by simp) _
  have OX4 : Hid (objU y2 w.heap.size 27 [(.slice b1 Q.I.length c1), (.slice b2 Q.D.length c2), .slice aA Q.A.length pA, .int .i64 Q.now]) := by show objU _ _ _ _; rw [ey2]; exact OX3.out.set 1 (.slice b2 Q.D.length c2)
  have OZ4 : Hid (objU y2 (w.heap.size + 1) 27 [.slice none 0 0, .slice none 0 0, .slice none 0 0, .int .i64 0]) := OZ3.out.outS O1.out (by simp)
  have B4 : Hid (Below w.heap.size w y2) := B3.out.trans (O1.out.below (by simp) B3.out.size)
  have HO4 : Hid (ownR y2 (w.heap.size + 2) 36 3 (.slice b1 Q.I.length c1) (Q.I.map encI)) := HO3.out.frame (fun g hg => O1.out.block g (V3.out g (.inl hg)).2 (by have := V3.out g (.inl hg); simp; omega))
  have HP4 : Hid (ownR y2 (w.heap.size + 2) 36 3 (.slice b2 Q.D.length c2) (Q.D.map encI)) := HP3.out.frame (fun g hg => O1.out.block g (V3.out g (.inr hg)).2 (by have := V3.out g (.inr hg); simp; omega))
  have Z4 : Hid (w.heap.size + 2 ≤ y2.heap.size) := Nat.le_trans Z3.out O1.out.size
  have EY := hide ey2
  clear ey2 OX3 OZ3 B3 HO3 HP3 Z3 V3
  go_wp2_with (at_builtin; refine wpList_append_rd rfl _ _ 25 rfl 9 1 HES.out (by decide) (w.heap.size + 2) (.slice none 0 0) [] rfl (ownR.nil _ _ _ _) _ _ rfl (EY.out ▸ HA.out.below B4.out) (rowsS _) (oneS _) (by have := L3.out; simp; omega) (EY.out ▸ Z4.out) ?_)
  intro v3 w3 ho3 hg3 ha3
  replace hg3 : y2.grownBy w3 none := by rw [EY.out]; exact hg3
  replace ha3 : v3.ownBlock = none ∨ v3.ownBlock = some y2.heap.size := ha3.imp (fun h => h) (fun h => by rw [EY.out]; first | exact h | (simp; exact h) | simpa using h)
  have hb := grown_below hg3
  have OX5 := hide (OX4.out.below hb)
  have OZ5 := hide (OZ4.out.below hb)
  have B5 : Hid (Below w.heap.size w w3) := B4.out.trans (hb.mono B4.out.size)
  have HO5 : Hid (ownR w3 (w.heap.size + 2) 36 3 (.slice b1 Q.I.length c1) (Q.I.map encI)) := HO4.out.below hb
  have HP5 : Hid (ownR w3 (w.heap.size + 2) 36 3 (.slice b2 Q.D.length c2) (Q.D.map encI)) := HP4.out.below hb
  have HQ5 : Hid (ownR w3 (w.heap.size + 2) 9 1 v3 (Q.A.map encS)) := ho3
  obtain ⟨b3, c3, rfl⟩ := HQ5.out.stS
  have N3 : Hid (∀ g, g ∈ blkOf (.slice b1 Q.I.length c1) ∨ g ∈ blkOf (.slice b2 Q.D.length c2) → g ∉ blkOf (.slice b3 Q.A.length c3)) := fun g hg hg2 => by
    have h1 : g < y2.heap.size := hg.elim (fun h => (HO4.out.lt g h).2) (fun h => (HP4.out.lt g h).2)
    rw [blk_own] at hg2
    rcases ha3 with e | e
    · rw [e] at hg2; cases hg2
    · rw [e] at hg2; cases hg2; omega
  clear x1 x2 f0
  have x0 := OX5.out.cell 0 _ rfl
  have x1 := OX5.out.cell 1 _ rfl
  have x2 := OX5.out.cell 2 _ rfl
  have x3 := OX5.out.cell 3 _ rfl
  have f2 := OX5.out.fz 2
  have y0 := OZ5.out.cell 0 _ rfl
  have y1' := OZ5.out.cell 1 _ rfl
  have y2' := OZ5.out.cell 2 _ rfl
  have y3 := OZ5.out.cell 3 _ rfl
  have g0 := OZ5.out.fz 0
  have g1 := OZ5.out.fz 1
  have g2 := OZ5.out.fz 2
  have g3 := OZ5.out.fz 3
  have QOQ : Hid (QO w3 (w.heap.size + 2) 36 9 Q (.slice b1 Q.I.length c1) (.slice b2 Q.D.length c2) (.slice b3 Q.A.length c3)) := ⟨HO5.out, HP5.out, HQ5.out, N12.out, fun g hg => N3.out g (.inl hg), fun g hg => N3.out g (.inr hg)⟩
  clear ho3 hg3 ha3 hb OX4 OZ4 B4 Z4 HO4 HP4 EY O1 HO5 HP5 HQ5 N3 N12
  go_wp2
  have HO : Hid (OutS [w.heap.size, w.heap.size + 1] w3 (((((w3.setCell ⟨w.heap.size, 2, none⟩ (.slice b3 Q.A.length c3)).setCell ⟨w.heap.size + 1, 0, none⟩ (.slice b1 Q.I.length c1)).setCell ⟨w.heap.size + 1, 1, none⟩ (.slice b2 Q.D.length c2)).setCell ⟨w.heap.size + 1, 2, none⟩ (.slice b3 Q.A.length c3)).setCell ⟨w.heap.size + 1, 3, none⟩ (.int .i64 Q.now))) := by
    show OutS _ _ _
    repeat (first | with_reducible exact OutS.refl _ _ | with_reducible refine OutS.setCell ?_ (show _ ∈ [w.heap.size, w.heap.size + 1] by simp) _)
  refine bodyPost_ret (v := .agg #[.slice b1 Q.I.length c1, .slice b2 Q.D.length c2, .slice b3 Q.A.length c3, .int .i64 Q.now]) ?_ rfl ⟨_, _, _, rfl, (QOQ.out.outS HO.out (fun t ht => by simp at ht; omega)).mono (by omega), B5.out.trans (HO.out.below (fun t ht => by simp at ht; omega) B5.out.size)⟩
  simp [results, Try.results16, go_sem, y0, y1', y2', y3]
end Go.Proofs.Ytddojjigijfgbaa
/- A region that draws its order and makes memory: one fact an operation, whatever the order. -/
namespace Go.Proofs.Ytddojjigijfgbaa
open Go.RowKit
set_option linter.unusedVariables false

section
variable {P : Program} {ops : Array Oper} {Q : Exit → Act → World → Prop}
def dstAt (ops : Array Oper) (i : Nat) : Option Tmp := match ops[i]? with | some o => o.dst | none => none
theorem dstAt_eq {ops : Array Oper} {i : Nat} {o : Oper} (h : ops[i]? = some o) : dstAt ops i = o.dst := by unfold dstAt; rw [h]
/-- what lies in an operation's slot -/
def slotV (ops : Array Oper) (i : Nat) (a : Act) : Value := match dstAt ops i with | some d => a.tmps.getD d undef | none => undef
/-- w' is w but for the blocks T and new ones; who owns an old block is as it was -/
structure Fr (T : World → World → Prop) (γ : Nat → Nat) (w : World) (γ' : Nat → Nat) (w' : World) : Prop where
  out : T w w'
  own : ∀ g, g < w.heap.size → γ' g = γ g
theorem Fr.same {T : World → World → Prop} {γ : Nat → Nat} {w : World} (h : T w w) : Fr T γ w γ w := ⟨h, fun _ _ => rfl⟩
/-- the slots that the region does not write -/
def Kept (ops : Array Oper) (a0 a : Act) : Prop := a.defers = a0.defers ∧ a.tmps.size = a0.tmps.size ∧ ∀ k, (∀ (i : Nat) (o : Oper), ops[i]? = some o → o.dst ≠ some k) → a.tmps.getD k undef = a0.tmps.getD k undef
/-- whether k waits for i -/
def depOn (ops : Array Oper) (k i : Nat) : Bool := match ops[k]? with | some o => o.after.any (fun e => Region.binds .any e && e.on == i) | none => false
/-- whether k waits for i, or for what waits for i -/
def depTr (ops : Array Oper) : Nat → Nat → Nat → Bool
  | 0, k, i => depOn ops k i
  | n + 1, k, i => depOn ops k i || (match ops[k]? with | some o => o.after.any (fun e => Region.binds .any e && depTr ops n e.on i) | none => false)
structure RInv (ops : Array Oper) (sp : Nat → Option Nat) (k0 : Nat) (G : Bool → World → Prop) (F : Nat → (Nat → Nat) → Value → World → Prop) (a0 : Act) (listed : Array Bool) (a : Act) (w : World) (γ : Nat → Nat) : Prop where
  size : listed.size = ops.size
  g : G (listed.getD k0 false) w
  b : Kept ops a0 a
  cl : ∀ k i, listed.getD k false = true → depOn ops k i = true → listed.getD i false = true
  f : ∀ i, listed.getD i false = true → (∀ k, sp i = some k → listed.getD k false = false) → F i γ (slotV ops i a) w
theorem RInv.clTr {ops : Array Oper} {sp : Nat → Option Nat} {k0 : Nat} {G : Bool → World → Prop} {F : Nat → (Nat → Nat) → Value → World → Prop} {a0 : Act} {listed : Array Bool} {a : Act} {w : World} {γ : Nat → Nat} (h : RInv ops sp k0 G F a0 listed a w γ) : ∀ (n k i : Nat), listed.getD k false = true → depTr ops n k i = true → listed.getD i false = true
  | 0, k, i, hk, hd => h.cl k i hk hd
  | n + 1, k, i, hk, hd => by
    unfold depTr at hd
    rw [Bool.or_eq_true] at hd
    rcases hd with hd | hd
    · exact h.cl k i hk hd
    · cases ho : ops[k]? with
      | none => rw [ho] at hd; cases hd
      | some o =>
        rw [ho] at hd
        simp only [Array.any_eq_true, Bool.and_eq_true] at hd
        obtain ⟨q, hq, hb, ht⟩ := hd
        refine RInv.clTr h n _ i (h.cl k _ hk ?_) ht
        unfold depOn
        rw [ho]
        simp only [Array.any_eq_true, Bool.and_eq_true, beq_iff_eq]
        exact ⟨q, hq, hb, rfl⟩
/-- an operation's own duty -/
def StepOk2 (P : Program) (ops : Array Oper) (Q : Exit → Act → World → Prop) (T : Nat → World → World → Prop) (sp : Nat → Option Nat) (k0 : Nat) (G : Bool → World → Prop) (F : Nat → (Nat → Nat) → Value → World → Prop) (a0 : Act) (i : Nat) (o : Oper) : Prop :=
  ∀ (c : Bool) (a : Act) (w : World) (γ : Nat → Nat), (depTr ops ops.size k0 i = true ∨ i = k0 → c = false) → (depOn ops i k0 = true → c = true) → G c w → Kept ops a0 a → (∀ (q : Nat) (hq : q < o.after.size), Region.binds .any (o.after[q]'hq) = true → (sp (o.after[q]'hq).on = none ∨ sp (o.after[q]'hq).on = some i ∨ ∃ k, sp (o.after[q]'hq).on = some k ∧ depOn ops k i = true) → F (o.after[q]'hq).on γ (slotV ops (o.after[q]'hq).on a) w) →
    ∀ K : Act → World → Prop, (∀ v w' γ', G (if i = k0 then true else c) w' → Fr (T i) γ w γ' w' → F i γ' v w' → K (a.put o.dst v) w') → Oper.wp P o a w K Q
/-- the slots are in range and no two alike -/
def slotsOk (ops : Array Oper) (n : Nat) : Bool := ((List.range ops.size).filterMap (dstAt ops)).all (fun d => decide (d < n)) && decide ((List.range ops.size).filterMap (dstAt ops)).Nodup && ops.all (fun o => o.guard.isNone)
theorem getD_set_same (x : Array Value) (d : Nat) (v : Value) (h : d < x.size) : (x.setIfInBounds d v).getD d undef = v := by simp [Array.getD, h]
theorem getD_set_ne (x : Array Value) (d k : Nat) (v : Value) (h : d ≠ k) : (x.setIfInBounds d v).getD k undef = x.getD k undef := by
  rw [Array.getD_eq_getD_getElem?, Array.getD_eq_getD_getElem?, Array.getElem?_setIfInBounds_ne h]
theorem slot_other {i j d : Nat} {o o' : Oper} (hn : ((List.range ops.size).filterMap (dstAt ops)).Nodup) (hi : ops[i]? = some o) (hj : ops[j]? = some o') (hd : o.dst = some d) (hd' : o'.dst = some d) : i = j := by
  have li := (Array.getElem?_eq_some_iff.1 hi).1
  have lj := (Array.getElem?_eq_some_iff.1 hj).1
  have key : ∀ (L : List Nat), L.Nodup → (L.filterMap (dstAt ops)).Nodup → i ∈ L → j ∈ L → i = j := by
    intro L
    induction L with
    | nil => intro _ _ h; cases h
    | cons x L ih =>
      intro hL h mi mj
      have hL' := List.nodup_cons.1 hL
      by_cases ex : i = x
      · by_cases ey : j = x
        · rw [ex, ey]
        · have mj' : j ∈ L := (List.mem_cons.1 mj).resolve_left ey
          subst ex
          rw [List.filterMap_cons_some (b := d) (by rw [dstAt_eq hi]; exact hd)] at h
          have := (List.nodup_cons.1 h).1
          exact (this (List.mem_filterMap.2 ⟨j, mj', by rw [dstAt_eq hj]; exact hd'⟩)).elim
      · have mi' : i ∈ L := (List.mem_cons.1 mi).resolve_left ex
        by_cases ey : j = x
        · subst ey
          rw [List.filterMap_cons_some (b := d) (by rw [dstAt_eq hj]; exact hd')] at h
          have := (List.nodup_cons.1 h).1
          exact (this (List.mem_filterMap.2 ⟨i, mi', by rw [dstAt_eq hi]; exact hd⟩)).elim
        · have mj' : j ∈ L := (List.mem_cons.1 mj).resolve_left ey
          refine ih hL'.2 ?_ mi' mj'
          cases hb : dstAt ops x with
          | none => rw [List.filterMap_cons_none hb] at h; exact h
          | some b => rw [List.filterMap_cons_some hb] at h; exact (List.nodup_cons.1 h).2
  exact key (List.range ops.size) List.nodup_range hn (by simpa using li) (by simpa using lj)
theorem Kept.put {a0 a : Act} (h : Kept ops a0 a) {i : Nat} {o : Oper} (hi : ops[i]? = some o) (v : Value) : Kept ops a0 (a.put o.dst v) := by
  obtain ⟨h1, h2, h3⟩ := h
  cases hd : o.dst with
  | none => exact ⟨h1, h2, h3⟩
  | some d =>
    refine ⟨h1, by simpa [Act.put] using h2, fun k hk => ?_⟩
    show (a.tmps.setIfInBounds d v).getD k undef = _
    rw [getD_set_ne _ _ _ _ (fun e => hk i o hi (by rw [hd, e]))]
    exact h3 k hk
theorem slotV_put_same {a : Act} {i : Nat} {o : Oper} (hi : ops[i]? = some o) (v : Value) (hv : o.dst = none → v = undef) (hs : ∀ d, o.dst = some d → d < a.tmps.size) : slotV ops i (a.put o.dst v) = v := by
  unfold slotV
  rw [dstAt_eq hi]
  cases hd : o.dst with
  | none => exact (hv hd).symm
  | some d => exact getD_set_same _ _ _ (hs d hd)
theorem slotV_put_other {a : Act} {i j : Nat} {o : Oper} (hn : ((List.range ops.size).filterMap (dstAt ops)).Nodup) (hi : ops[i]? = some o) (v : Value) (hne : i ≠ j) : slotV ops j (a.put o.dst v) = slotV ops j a := by
  unfold slotV
  cases hd' : dstAt ops j with
  | none => rfl
  | some d' =>
    cases hd : o.dst with
    | none => rfl
    | some d =>
      refine getD_set_ne _ _ _ _ (fun e => hne ?_)
      subst e
      cases hj : ops[j]? with
      | none => unfold dstAt at hd'; rw [hj] at hd'; cases hd'
      | some o' => rw [dstAt_eq hj] at hd'; exact slot_other hn hi hj hd hd'
def cntF (l : Array Bool) : Nat := (l.toList.filter (fun b => !b)).length
theorem cntL_set : ∀ (x : List Bool) (i : Nat), x[i]? = some false → ((x.set i true).filter (fun b => !b)).length + 1 = (x.filter (fun b => !b)).length
  | [], i, h => by simp at h
  | b :: x, 0, h => by
    have : b = false := by simpa using h
    subst this
    simp
  | b :: x, i + 1, h => by
    have := cntL_set x i (by simpa using h)
    simp only [List.set_cons_succ, List.filter_cons]
    split <;> simp_all
theorem cntF_set {l : Array Bool} {i : Nat} (hi : i < l.size) (hf : l[i] = false) : cntF (l.setIfInBounds i true) + 1 = cntF l := by
  unfold cntF
  rw [Array.toList_setIfInBounds]
  exact cntL_set _ _ (by rw [Array.getElem?_toList, Array.getElem?_eq_getElem hi, hf])
theorem wpAny_inv {T : Nat → World → World → Prop} {sp : Nat → Option Nat} {k0 : Nat} (hk0 : k0 < ops.size) {G : Bool → World → Prop} {F : Nat → (Nat → Nat) → Value → World → Prop} {a0 : Act} (hs : slotsOk ops a0.tmps.size = true)
    (hF : ∀ i j γ γ' v w w', i ≠ j → sp j ≠ some i → depOn ops j i = false → (∀ k, sp j = some k → depOn ops i k = false) → F j γ v w → Fr (T i) γ w γ' w' → F j γ' v w') (hU : ∀ (i : Nat) (o : Oper), ops[i]? = some o → o.dst = none → ∀ γ v w, F i γ v w → F i γ undef w)
    (hstep : ∀ i o, ops[i]? = some o → StepOk2 P ops Q T sp k0 G F a0 i o)
    (hend : ∀ a w γ, RInv ops sp k0 G F a0 (Array.replicate ops.size true) a w γ → Q .normal a w) :
    ∀ (fuel : Nat) (listed : Array Bool) (a : Act) (w : World) (γ : Nat → Nat), RInv ops sp k0 G F a0 listed a w γ → cntF listed ≤ fuel → (Region.ready .any ops listed = [] → cntF listed = 0) → (∀ l : Array Bool, l.size = ops.size → Region.ready .any ops l = [] → cntF l = 0) → wpAny P .any ops Q fuel listed a w := by
  unfold slotsOk at hs
  simp only [Bool.and_eq_true, decide_eq_true_eq, List.all_eq_true, Array.all_eq_true] at hs
  obtain ⟨⟨hs1, hs2⟩, hs3⟩ := hs
  have full : ∀ (l : Array Bool), cntF l = 0 → l.size = ops.size → l = Array.replicate ops.size true := by
    intro l h0 hl
    apply Array.ext
    · simp [hl]
    · intro i h1 h2
      rw [Array.getElem_replicate]
      unfold cntF at h0
      have h3 := List.length_eq_zero_iff.1 h0
      rw [List.filter_eq_nil_iff] at h3
      have := h3 l[i] (by simp)
      simpa using this
  intro fuel
  induction fuel with
  | zero =>
    intro listed a w γ h hc hr _
    have h0 : cntF listed = 0 := by omega
    have e := full listed h0 h.size
    refine ⟨?_, hend a w γ (e ▸ h)⟩
    rw [e]
    unfold Region.ready
    rw [List.filter_eq_nil_iff]
    intro i hi
    rw [List.mem_range] at hi
    simp [Array.getD, hi]
  | succ fuel ih =>
    intro listed a w γ h hc hr hall
    refine ⟨fun h0 => hend a w γ ((full listed (hr h0) h.size) ▸ h), fun i hi => ?_⟩
    unfold Region.ready at hi
    rw [List.mem_filter, List.mem_range] at hi
    obtain ⟨hlt, hi⟩ := hi
    have ho : ops[i]? = some ops[i] := Array.getElem?_eq_getElem hlt
    rw [ho] at hi
    simp only [Option.map_some, Option.getD_some, Bool.and_eq_true, Bool.not_eq_true', Array.all_eq_true, Bool.or_eq_true] at hi
    obtain ⟨hl, hd⟩ := hi
    have hls : i < listed.size := by rw [h.size]; exact hlt
    have hl' : listed[i] = false := by simpa [Array.getD, hls] using hl
    have hdst : ∀ d, (ops[i]).dst = some d → d < a.tmps.size := fun d hd => by
      rw [h.b.2.1]
      have := hs1 d (List.mem_filterMap.2 ⟨i, by simpa using hlt, by rw [dstAt_eq ho]; exact hd⟩)
      simpa using this
    refine wpOp_step ho (fun K hK => ?_)
    have hg : (ops[i]).guard = none := by
      have := hs3 i hlt
      simpa using this
    rw [if_pos (by simp [Region.wanted, hg])]
    refine hstep i ops[i] ho _ a w γ ?hc0 ?hc1 h.g h.b (fun q he hb hsp => ?_) K (fun v w' γ' hG hFr hFi => hK _ _ ?_)
    case hc0 =>
      rintro (hc | rfl)
      · cases hx : listed.getD k0 false with
        | false => rfl
        | true =>
          have := h.clTr _ k0 i hx hc
          simp [Array.getD, hls, hl'] at this
      · simp [Array.getD, hls, hl']
    case hc1 =>
      intro hc
      unfold depOn at hc
      rw [ho] at hc
      simp only [Array.any_eq_true, Bool.and_eq_true, beq_iff_eq] at hc
      obtain ⟨q, hq, hb, rfl⟩ := hc
      rcases hd q hq with h1 | h1
      · rw [hb] at h1; cases h1
      · exact h1
    · have := hd q he
      rcases this with h1 | h1
      · rw [hb] at h1; cases h1
      · refine h.f _ h1 (fun k hk => ?_)
        rcases hsp with hsp | hsp | ⟨k', hsp, hdk⟩
        · rw [hsp] at hk; cases hk
        · rw [hsp] at hk; cases hk
          simpa [Array.getD, hls] using hl'
        · rw [hsp] at hk; cases hk
          cases hc : listed.getD k false with
          | false => rfl
          | true =>
            have := h.cl k i hc hdk
            simp [Array.getD, hls, hl'] at this
    · have hc' := cntF_set hls hl'
      refine ih _ _ _ γ' ⟨by rw [Array.size_setIfInBounds]; exact h.size, ?hgg, h.b.put ho v, fun k i' hk hd' => ?_, fun j hj hjs => ?_⟩ (by omega) (hall _ (by rw [Array.size_setIfInBounds]; exact h.size)) hall
      case hgg =>
        by_cases ek0 : i = k0
        · subst ek0
          rw [if_pos rfl] at hG
          have : (listed.setIfInBounds i true).getD i false = true := by simp [Array.getD, hls]
          rw [this]; exact hG
        · rw [if_neg ek0] at hG
          rw [Array.getD_eq_getD_getElem?, Array.getElem?_setIfInBounds_ne ek0, ← Array.getD_eq_getD_getElem?]
          exact hG
      · by_cases ek : i = i'
        · subst ek
          simp [Array.getD, hls]
        · rw [Array.getD_eq_getD_getElem?, Array.getElem?_setIfInBounds_ne ek, ← Array.getD_eq_getD_getElem?]
          by_cases ek' : i = k
          · subst ek'
            unfold depOn at hd'
            rw [ho] at hd'
            simp only [Array.any_eq_true, Bool.and_eq_true, beq_iff_eq] at hd'
            obtain ⟨q, hq, hb, rfl⟩ := hd'
            have := hd q hq
            rcases this with h1 | h1
            · rw [hb] at h1; cases h1
            · exact h1
          · rw [Array.getD_eq_getD_getElem?, Array.getElem?_setIfInBounds_ne ek', ← Array.getD_eq_getD_getElem?] at hk
            exact h.cl k i' hk hd'
      by_cases e : i = j
      · subst e
        cases hdd : (ops[i]).dst with
        | none =>
          have : slotV ops i (a.put none v) = undef := by unfold slotV; rw [dstAt_eq ho, hdd]
          rw [this]
          exact hU i _ ho hdd _ _ _ hFi
        | some d =>
          have := slotV_put_same (a := a) ho v (fun hn => by rw [hdd] at hn; cases hn) hdst
          rw [hdd] at this
          rw [this]
          exact hFi
      · rw [slotV_put_other hs2 ho v e]
        have hset : ∀ k, i ≠ k → (listed.setIfInBounds i true).getD k false = listed.getD k false := fun k hk => by
          rw [Array.getD_eq_getD_getElem?, Array.getD_eq_getD_getElem?, Array.getElem?_setIfInBounds_ne hk]
        have hni : sp j ≠ some i := fun hh => by
          have := hjs i hh
          simp [Array.getD, hls] at this
        have hnd : depOn ops j i = false := by
          cases hc : depOn ops j i with
          | false => rfl
          | true =>
            have h1 : listed.getD j false = true := by rw [← hset j e]; exact hj
            have := h.cl j i h1 hc
            simp [Array.getD, hls, hl'] at this
        have hsd : ∀ k, sp j = some k → depOn ops i k = false := fun k hk => by
          cases hc : depOn ops i k with
          | false => rfl
          | true =>
            exfalso
            have h1 := hjs k hk
            have hki : i ≠ k := fun ee => hni (by rw [ee]; exact hk)
            rw [hset k hki] at h1
            unfold depOn at hc
            rw [ho] at hc
            simp only [Array.any_eq_true, Bool.and_eq_true, beq_iff_eq] at hc
            obtain ⟨q, hq, hb, rfl⟩ := hc
            rcases hd q hq with h2 | h2
            · rw [hb] at h2; cases h2
            · rw [h2] at h1; cases h1
        refine hF i j γ γ' _ w w' e hni hnd hsd (h.f j ?_ (fun k hk => by
          have := hjs k hk
          rwa [hset k (fun ee => hni (by rw [ee]; exact hk))] at this)) hFr
        have : (listed.setIfInBounds i true).getD j false = listed.getD j false := by
          rw [Array.getD_eq_getD_getElem?, Array.getD_eq_getD_getElem?, Array.getElem?_setIfInBounds_ne e]
        rw [← this]; exact hj
/-- no operation waits for a later one -/
def earlier (ops : Array Oper) : Bool := (List.range ops.size).all fun i => match ops[i]? with | some o => o.after.all (fun e => !Region.binds .any e || decide (e.on < i)) | none => true
theorem ready_all (he : earlier ops = true) (l : Array Bool) (hl : l.size = ops.size) (h : Region.ready .any ops l = []) : cntF l = 0 := by
  have key : ∀ i, i < ops.size → l.getD i false = true := by
    intro i
    induction i using Nat.strongRecOn with
    | ind i ih =>
      intro hi
      have ho : ops[i]? = some ops[i] := Array.getElem?_eq_getElem hi
      unfold Region.ready at h
      rw [List.filter_eq_nil_iff] at h
      have h1 := h i (by simpa using hi)
      rw [ho] at h1
      have hall : (ops[i]).after.all (fun e => !Region.binds .any e || l.getD e.on false) = true := by
        rw [Array.all_eq_true]
        intro q hq
        unfold earlier at he
        rw [List.all_eq_true] at he
        have h2 := he i (by simpa using hi)
        rw [ho] at h2
        simp only [Array.all_eq_true] at h2
        have h3 := h2 q hq
        cases hb : Region.binds .any (ops[i]).after[q] with
        | false => simp
        | true =>
          rw [hb] at h3
          have h4 : ((ops[i]).after[q]).on < i := by simpa using h3
          rw [ih _ h4 (by omega)]
          simp
      simp only [Option.map_some, Option.getD_some, hall, Bool.and_true] at h1
      have hls : i < l.size := by omega
      simpa [Array.getD, hls] using h1
  unfold cntF
  rw [List.length_eq_zero_iff, List.filter_eq_nil_iff]
  intro b hb
  obtain ⟨i, hi, rfl⟩ := List.mem_iff_getElem.1 hb
  have hi' : i < l.size := by simpa using hi
  have := key i (by omega)
  simpa [Array.getD, hi'] using this
def putAll : List Oper → Nat → (Nat → Value) → Act → Act
  | [], _, _, a => a
  | o :: r, k, x, a => putAll r (k + 1) x (a.put o.dst (x k))
theorem putAll_defers : ∀ (L : List Oper) (m : Nat) (x : Nat → Value) (a : Act), (putAll L m x a).defers = a.defers
  | [], _, _, _ => rfl
  | o :: r, m, x, a => by
    rw [putAll, putAll_defers]
    cases o.dst <;> rfl
theorem putAll_size : ∀ (L : List Oper) (m : Nat) (x : Nat → Value) (a : Act), (putAll L m x a).tmps.size = a.tmps.size
  | [], _, _, _ => rfl
  | o :: r, m, x, a => by
    rw [putAll, putAll_size]
    cases o.dst <;> simp [Act.put]
theorem putAll_other : ∀ (L : List Oper) (m : Nat) (x : Nat → Value) (a : Act) (k : Nat), (∀ o ∈ L, o.dst ≠ some k) → (putAll L m x a).tmps.getD k undef = a.tmps.getD k undef
  | [], _, _, _, _, _ => rfl
  | o :: r, m, x, a, k, h => by
    rw [putAll, putAll_other r _ _ _ _ (fun q hq => h q (.tail _ hq))]
    cases hd : o.dst with
    | none => rfl
    | some d => exact getD_set_ne _ _ _ _ (fun e => h o (.head _) (by rw [hd, e]))
theorem putAll_hit : ∀ (L : List Oper) (m : Nat) (x : Nat → Value) (a : Act) (i k : Nat) (o : Oper), L[i]? = some o → o.dst = some k → (∀ j o', L[j]? = some o' → o'.dst = some k → j = i) → k < a.tmps.size → (putAll L m x a).tmps.getD k undef = x (m + i)
  | [], _, _, _, _, _, _, h, _, _, _ => by simp at h
  | p :: r, m, x, a, 0, k, o, h, hd, hu, hk => by
    have : p = o := by simpa using h
    subst this
    rw [putAll, putAll_other]
    · rw [hd]; exact getD_set_same _ _ _ hk
    · intro q hq e
      obtain ⟨j, hj⟩ := List.mem_iff_getElem?.1 hq
      have := hu (j + 1) q (by simpa using hj) e
      omega
  | p :: r, m, x, a, i + 1, k, o, h, hd, hu, hk => by
    rw [putAll, putAll_hit r (m + 1) x _ i k o (by simpa using h) hd (fun j o' hj e => by have := hu (j + 1) o' (by simpa using hj) e; omega) (by cases p.dst <;> simpa [Act.put] using hk)]
    congr 1; omega
/-- THE LAW: a region that draws its order, one fact an operation -/
theorem wp_region_inv2 {id : Nat} (T : Nat → World → World → Prop) (sp : Nat → Option Nat) (k0 : Nat) (hk0 : k0 < ops.size) (G : Bool → World → Prop) (F : Nat → (Nat → Nat) → Value → World → Prop) {a0 : Act} {w : World} (hm : P.follows .mixedOrders = true) (hs : slotsOk ops a0.tmps.size = true) (he : earlier ops = true)
    (hF : ∀ i j γ γ' v w w', i ≠ j → sp j ≠ some i → depOn ops j i = false → (∀ k, sp j = some k → depOn ops i k = false) → F j γ v w → Fr (T i) γ w γ' w' → F j γ' v w') (hU : ∀ (i : Nat) (o : Oper), ops[i]? = some o → o.dst = none → ∀ γ v w, F i γ v w → F i γ undef w)
    (hG : G false w.drew) (hstep : ∀ i o, ops[i]? = some o → StepOk2 P ops Q T sp k0 G F a0 i o)
    (hend : ∀ (x : Nat → Value) (w' : World) (γ : Nat → Nat), G true w' → (∀ i, i < ops.size → sp i = none → F i γ (x i) w') → Q .normal (putAll ops.toList 0 x a0) w') : (Code.region id ops true).wp P Q a0 w := by
  refine wp_region_any hm ?_
  have hs' := hs
  unfold slotsOk at hs'
  simp only [Bool.and_eq_true, decide_eq_true_eq, List.all_eq_true, Array.all_eq_true] at hs'
  obtain ⟨⟨hs1, hs2⟩, hs3⟩ := hs'
  refine wpAny_inv (T := T) (sp := sp) (k0 := k0) hk0 (G := G) (F := F) (a0 := a0) hs hF hU hstep (fun a w' γ h => ?_) ops.size _ a0 _ (fun _ => 0) ⟨by simp, by simpa [Array.getD, hk0] using hG, ⟨rfl, rfl, fun _ _ => rfl⟩, fun k i hk => ?_, fun i hi _ => ?_⟩ ?_ (fun h => ready_all he _ (by simp) h) (fun l hl h => ready_all he l hl h)
  · have e : a = putAll ops.toList 0 (fun i => slotV ops i a) a0 := by
      obtain ⟨k1, k2, k3⟩ := h.b
      have e1 : a.tmps = (putAll ops.toList 0 (fun i => slotV ops i a) a0).tmps := by
        apply Array.ext
        · rw [putAll_size, k2]
        · intro k h1 h2
          have g1 : a.tmps.getD k undef = a.tmps[k] := by simp [Array.getD, h1]
          have g2 : (putAll ops.toList 0 (fun i => slotV ops i a) a0).tmps.getD k undef = (putAll ops.toList 0 (fun i => slotV ops i a) a0).tmps[k] := by simp only [Array.getD, h2]; rfl
          rw [← g1, ← g2]
          by_cases hx : ∃ (i : Nat) (o : Oper), ops[i]? = some o ∧ o.dst = some k
          · obtain ⟨i, o, hi, hd⟩ := hx
            rw [putAll_hit ops.toList 0 _ a0 i k o (by rw [Array.getElem?_toList]; exact hi) hd (fun j o' hj hd' => slot_other hs2 (by rw [Array.getElem?_toList] at hj; exact hj) hi hd' hd) (by omega)]
            rw [Nat.zero_add]
            unfold slotV
            rw [dstAt_eq hi, hd]
          · rw [putAll_other]
            · exact k3 k (fun i o hi hd => hx ⟨i, o, hi, hd⟩)
            · intro o ho hd
              obtain ⟨i, hi⟩ := List.mem_iff_getElem?.1 ho
              exact hx ⟨i, o, by rw [← Array.getElem?_toList]; exact hi, hd⟩
      have e2 : a.defers = (putAll ops.toList 0 (fun i => slotV ops i a) a0).defers := by rw [putAll_defers, k1]
      generalize putAll ops.toList 0 (fun i => slotV ops i a) a0 = b at e1 e2
      cases a; cases b
      simp_all
    rw [e]
    refine hend _ w' γ (by have := h.g; simpa [Array.getD, hk0] using this) (fun i hi hsp => h.f i (by simp [Array.getD, hi]) (fun k hk => by rw [hsp] at hk; cases hk))
  · exfalso
    simp only [Array.getD, Array.size_replicate] at hk
    split at hk
    · simp at hk
    · cases hk
  · exfalso
    simp only [Array.getD, Array.size_replicate] at hi
    split at hi
    · simp at hi
    · cases hi
  · unfold cntF
    exact Nat.le_trans (List.length_filter_le _ _) (by simp)
/-- an operation's own duty, where what holds throughout is one and the same -/
def StepOk (P : Program) (ops : Array Oper) (Q : Exit → Act → World → Prop) (T : Nat → World → World → Prop) (sp : Nat → Option Nat) (G : World → Prop) (F : Nat → (Nat → Nat) → Value → World → Prop) (a0 : Act) (i : Nat) (o : Oper) : Prop :=
  ∀ (a : Act) (w : World) (γ : Nat → Nat), G w → Kept ops a0 a → (∀ (q : Nat) (hq : q < o.after.size), Region.binds .any (o.after[q]'hq) = true → (sp (o.after[q]'hq).on = none ∨ sp (o.after[q]'hq).on = some i ∨ ∃ k, sp (o.after[q]'hq).on = some k ∧ depOn ops k i = true) → F (o.after[q]'hq).on γ (slotV ops (o.after[q]'hq).on a) w) →
    ∀ K : Act → World → Prop, (∀ v w' γ', G w' → Fr (T i) γ w γ' w' → F i γ' v w' → K (a.put o.dst v) w') → Oper.wp P o a w K Q
theorem wp_region_inv {id : Nat} (T : Nat → World → World → Prop) (sp : Nat → Option Nat) (G : World → Prop) (F : Nat → (Nat → Nat) → Value → World → Prop) {a0 : Act} {w : World} (hm : P.follows .mixedOrders = true) (hs : slotsOk ops a0.tmps.size = true) (he : earlier ops = true)
    (hF : ∀ i j γ γ' v w w', i ≠ j → sp j ≠ some i → depOn ops j i = false → (∀ k, sp j = some k → depOn ops i k = false) → F j γ v w → Fr (T i) γ w γ' w' → F j γ' v w') (hU : ∀ (i : Nat) (o : Oper), ops[i]? = some o → o.dst = none → ∀ γ v w, F i γ v w → F i γ undef w)
    (hG : G w.drew) (hstep : ∀ i o, ops[i]? = some o → StepOk P ops Q T sp G F a0 i o)
    (hend : ∀ (x : Nat → Value) (w' : World) (γ : Nat → Nat), G w' → (∀ i, i < ops.size → sp i = none → F i γ (x i) w') → Q .normal (putAll ops.toList 0 x a0) w') (h0 : 0 < ops.size := by decide) : (Code.region id ops true).wp P Q a0 w :=
  wp_region_inv2 T sp 0 h0 (fun _ => G) F hm hs he hF hU hG (fun i o hi c a w γ _ _ => hstep i o hi a w γ) hend
end
theorem wp_pure {P : Program} {o : Oper} {a : Act} {w : World} {K : Act → World → Prop} {Q : Exit → Act → World → Prop} (v : Value) (h : (execOp a.eval o).run P w = .ok (.value v) w) (hK : K (a.put o.dst v) w) : Oper.wp P o a w K Q := by
  unfold Oper.wp
  rw [h]
  exact hK
theorem wp_val {P : Program} {o : Oper} {a : Act} {w w' : World} {K : Act → World → Prop} {Q : Exit → Act → World → Prop} (v : Value) (h : (execOp a.eval o).run P w = .ok (.value v) w') (hK : K (a.put o.dst v) w') : Oper.wp P o a w K Q := by
  unfold Oper.wp
  rw [h]
  exact hK
theorem wp_skip {P : Program} {o : Oper} {a : Act} {w w' : World} {K : Act → World → Prop} {Q : Exit → Act → World → Prop} (h : (execOp a.eval o).run P w = .ok .skip w') (hK : K (a.put o.dst undef) w') : Oper.wp P o a w K Q := by
  unfold Oper.wp
  rw [h]
  exact hK
theorem append_run {P : Program} {o : Oper} {a : Act} {w w' : World} (s x : Operand) (t : TypeId) (ho : o.op = .call { callee := .builtin .append, args := #[s, x], argTypes := #[t, t] }) {v xv v' : Value} (hs : a.eval s = v) (hx : a.eval x = xv) (hr : (Builtin.append_ #[t, t] o.type #[v, xv]).run P w = .ok v' w') : (execOp a.eval o).run P w = .ok (.value v') w' := by
  unfold execOp
  simp only [ho, resolve, invoke, builtin, Sem.run_bind, Sem.run_pure, Result.andThen_ok, List.map_toArray, List.map_cons, List.map_nil, hs, hx, hr]
def noDst (ops : Array Oper) (k : Nat) : Bool := ops.all (fun o => o.dst != some k)
theorem Kept.at {ops : Array Oper} {a0 a : Act} (h : Kept ops a0 a) (k : Nat) (hc : noDst ops k = true) : a.tmps.getD k undef = a0.tmps.getD k undef := by
  refine h.2.2 k (fun i o hi hd => ?_)
  unfold noDst at hc
  rw [Array.all_eq_true] at hc
  obtain ⟨hlt, rfl⟩ := Array.getElem?_eq_some_iff.1 hi
  have := hc i hlt
  rw [hd] at this
  simp at this
theorem Fr.below {T : World → World → Prop} (γ : Nat → Nat) {w w' : World} (ht : T w w') (c : Nat) : Fr T γ w (fun x => if x = w.heap.size then c else γ x) w' := ⟨ht, fun g hg => if_neg (by omega)⟩
theorem below_alloc (w : World) (o : Obj) : Below w.heap.size w (w.alloc o) := (Below.refl _ _).alloc (Nat.le_refl _) _
theorem store_run {P : Program} {o : Oper} {a : Act} {w : World} (t : TypeId) (x y : Operand) (ho : o.op = .store t x y) {b j : Nat} (hx : a.eval x = .pointer (some ⟨b, j, none⟩)) {v : Value} (hy : a.eval y = v) (ys : List Value) (hv : v.cells = ys.toArray) (h1 : ∀ u ∈ ys, u.oneCell' = true) (hi : (P.info? t).map (·.size) = some ys.length) (ht : w.there b j ys.length) :
    (execOp a.eval o).run P w = .ok .skip (w.setCells b j ys) := by
  unfold execOp
  simp only [ho, hx, hy, Sem.run_bind, run_storeAt_cells hv h1 hi ht, Result.andThen_ok, Sem.run_pure]
end Go.Proofs.Ytddojjigijfgbaa
/- Data as cells: the helpers of the laws over Queue. -/
namespace Go.Proofs.Ytddojjigijfgbaa
open Go.RowKit Go.BigFrame
set_option linter.unusedVariables false

theorem Try.rQueue_Limpl_Item : (Try.prog.underlying 24).map TypeDesc.isRow = some false := by kernel_rfl
theorem Try.zQueue_Limpl_Item : (Try.prog.info? 24).map (·.size) = some 1 := by kernel_rfl
theorem Try.rQueue_Lstring : (Try.prog.underlying 25).map TypeDesc.isRow = some false := by kernel_rfl
theorem Try.zQueue_Lstring : (Try.prog.info? 25).map (·.size) = some 1 := by kernel_rfl
theorem Try.rQueue_int : (Try.prog.underlying 3).map TypeDesc.isRow = some false := by kernel_rfl
theorem Try.zQueue_int : (Try.prog.info? 3).map (·.size) = some 1 := by kernel_rfl
theorem Try.rQueue_impl_Queue : (Try.prog.underlying 27).map TypeDesc.isRow = some true := by kernel_rfl
theorem Try.zQueue_impl_Queue : (Try.prog.info? 27).map (·.size) = some 4 := by kernel_rfl
end Go.Proofs.Ytddojjigijfgbaa
/- A queue copied by the specification: spec.l9Copy. -/
namespace Go.Proofs.Ytddojjigijfgbaa
open Go.RowKit Go.BigFrame
set_option linter.unusedVariables false

def G9 (w0 : World) (T : TypeId) (XS : List Value) (w : World) : Prop := Below w0.heap.size w0 w ∧ objU w w0.heap.size T XS ∧ ∃ zs : List Value, zs.length = 4 ∧ objU w (w0.heap.size + 1) T zs
def F9 (w0 : World) (T tI tS : TypeId) (Q : Qu) (cI cD cA : Value) : Nat → (Nat → Nat) → Value → World → Prop
  | 0, γ, v, w => ∃ g, v = .slice (some ⟨g, 0, none⟩) 0 0 ∧ ownR w (w0.heap.size + 2) tI 3 v [] ∧ γ g = 0
  | 1, γ, v, w => v = .pointer (some ⟨w0.heap.size, 0, none⟩)
  | 2, γ, v, w => v = cI
  | 3, γ, v, w => ownR w (w0.heap.size + 2) tI 3 v (Q.I.map encI) ∧ ∀ g ∈ blkOf v, γ g = 0
  | 4, γ, v, w => ∃ g, v = .slice (some ⟨g, 0, none⟩) 0 0 ∧ ownR w (w0.heap.size + 2) tI 3 v [] ∧ γ g = 1
  | 5, γ, v, w => v = .pointer (some ⟨w0.heap.size, 1, none⟩)
  | 6, γ, v, w => v = cD
  | 7, γ, v, w => ownR w (w0.heap.size + 2) tI 3 v (Q.D.map encI) ∧ ∀ g ∈ blkOf v, γ g = 1
  | 8, γ, v, w => ∃ g, v = .slice (some ⟨g, 0, none⟩) 0 0 ∧ ownR w (w0.heap.size + 2) tS 1 v [] ∧ γ g = 2
  | 9, γ, v, w => v = .pointer (some ⟨w0.heap.size, 2, none⟩)
  | 10, γ, v, w => v = cA
  | 11, γ, v, w => ownR w (w0.heap.size + 2) tS 1 v (Q.A.map encS) ∧ ∀ g ∈ blkOf v, γ g = 2
  | 12, γ, v, w => v = .pointer (some ⟨w0.heap.size, 3, none⟩)
  | 13, γ, v, w => v = .int .i64 Q.now
  | 14, γ, v, w => ∃ vI vD vA, v = .agg #[vI, vD, vA, .int .i64 Q.now] ∧ QO w (w0.heap.size + 2) tI tS Q vI vD vA
  | 15, γ, v, w => ∃ vI vD vA, objU w (w0.heap.size + 1) T [vI, vD, vA, .int .i64 Q.now] ∧ QO w (w0.heap.size + 2) tI tS Q vI vD vA
  | _, _, _, _ => False
theorem ownR.fr {w w' : World} {base : Nat} {e : TypeId} {k : Nat} {v : Value} {R : List (List Value)} {T : List Nat} (h : ownR w base e k v R) (ho : OutS T w w') (hT : ∀ t ∈ T, t < base) : ownR w' base e k v R :=
  h.frame (fun g hg => ho.block g (h.lt g hg).2 (fun hh => by have := hT g hh; have := (h.lt g hg).1; omega))
theorem objU.dr9 {w : World} {b : Nat} {t : TypeId} {xs : List Value} (h : objU w b t xs) : objU w.drew b t xs := h
theorem ownR.lit (w : World) (base : Nat) (e : TypeId) (k : Nat) (hb : base ≤ w.heap.size) : ownR (w.alloc (.cells #[] e)) base e k (.slice (some ⟨w.heap.size, 0, none⟩) 0 0) [] := ⟨(fun r hr => by cases hr), World.ownsRow_lit w #[] 0 hb (by decide) (by simp)⟩
theorem G9.size {w0 w : World} {T : TypeId} {XS : List Value} (h : G9 w0 T XS w) : w0.heap.size + 2 ≤ w.heap.size := by
  obtain ⟨_, _, zs, _, h⟩ := h; exact h.lt
theorem G9.below {w0 w w' : World} {T : TypeId} {XS : List Value} (h : G9 w0 T XS w) (hb : Below w.heap.size w w') : G9 w0 T XS w' := by
  obtain ⟨h1, h2, zs, h3, h4⟩ := h
  exact ⟨h1.trans (hb.mono h1.size), h2.below hb, zs, h3, h4.below hb⟩
theorem G9.alloc {w0 w : World} {T : TypeId} {XS : List Value} (h : G9 w0 T XS w) (o : Obj) : G9 w0 T XS (w.alloc o) := h.below ((Below.refl _ _).alloc (Nat.le_refl _) _)
theorem own_new {v : Value} {g N c : Nat} {γ : Nat → Nat} (h : v.ownBlock = some g ∨ v.ownBlock = some N) (hlt : g < N) (hc : γ g = c) : ∀ x ∈ blkOf v, (fun x => if x = N then c else γ x) x = c := fun x hx => by
  rw [blk_own] at hx
  show (if x = N then c else γ x) = c
  rcases h with h | h
  · rw [h] at hx; cases hx
    rw [if_neg (by omega)]; exact hc
  · rw [h] at hx; cases hx
    exact if_pos rfl
set_option maxRecDepth 20000 in
set_option maxHeartbeats 1600000 in
theorem l9Copy_N (Q : Qu) (xs : List Value) (w : World) (hq : okQ Q) (hx : rdQ w Q xs) :
    Calls Try.prog 19 #[.agg xs.toArray] w fun e w' => ∃ vI vD vA, e = .returned (.agg #[vI, vD, vA, .int .i64 Q.now]) ∧ ownQ w' w.heap.size Q vI vD vA ∧ Below w.heap.size w w' := by
  obtain ⟨cI, cD, cA, rfl, hI, hD, hA⟩ := hx
  have l1 := hq.1.1
  have l2 := hq.2.1.1
  have l3 := hq.2.2.1.1
  obtain ⟨aI, pI, rfl, -, -⟩ := hI.itS
  obtain ⟨aD, pD, rfl, -, -⟩ := hD.itS
  obtain ⟨aA, pA, rfl, -, -⟩ := hA.stS
  have HI := hide hI
  have HD := hide hD
  have HA := hide hA
  have L1 := hide l1
  have L2 := hide l2
  have L3 := hide l3
  clear hI hD hA hq l1 l2 l3
  have HEI := hide elI
  have HES := hide elS
  go_enter Try.func19, Try.ntmps19
  go_wp2
  refine wp_region_inv (fun i => OutS (if i = 15 then [w.heap.size + 1] else [])) (fun _ => none) (G9 w 27 [.slice aI Q.I.length pI, .slice aD Q.D.length pD, .slice aA Q.A.length pA, .int .i64 Q.now])
    (F9 w 27 36 9 Q (.slice aI Q.I.length pI) (.slice aD Q.D.length pD) (.slice aA Q.A.length pA)) (by kernel_rfl) (by kernel_rfl) (by kernel_rfl) ?hF ?hU ?hG ?hstep ?hend
  case hF =>
    intro i j γ γ' v w1 w2 hij _ _ _ h hfr
    have ho := hfr.out
    have hT : ∀ t ∈ (if i = 15 then [w.heap.size + 1] else []), t < w.heap.size + 2 := fun t ht => by split at ht <;> simp at ht; omega
    have hz : ∀ (vz cs : Value) (g : Nat) (e : TypeId) (k : Nat) (m : Nat), vz = .slice (some ⟨g, 0, none⟩) 0 0 → ownR w1 (w.heap.size + 2) e k vz [] → γ g = m → γ' g = m := fun vz cs g e k m hv h1 h2 => by
      rw [hfr.own g (h1.lt g (by rw [hv]; simp [blkOf, Value.ownBlock])).2]; exact h2
    have hb : ∀ (vz : Value) (R : List (List Value)) (e : TypeId) (k : Nat) (m : Nat), ownR w1 (w.heap.size + 2) e k vz R → (∀ g ∈ blkOf vz, γ g = m) → ∀ g ∈ blkOf vz, γ' g = m := fun vz R e k m h1 h2 g hg => by
      rw [hfr.own g (h1.lt g hg).2]; exact h2 g hg
    match j, h with
    | 0, ⟨g, h1, h2, h3⟩ => exact ⟨g, h1, h2.fr ho hT, hz v v g _ _ _ h1 h2 h3⟩
    | 1, h => exact h
    | 2, h => exact h
    | 3, ⟨h1, h2⟩ => exact ⟨h1.fr ho hT, hb _ _ _ _ _ h1 h2⟩
    | 4, ⟨g, h1, h2, h3⟩ => exact ⟨g, h1, h2.fr ho hT, hz v v g _ _ _ h1 h2 h3⟩
    | 5, h => exact h
    | 6, h => exact h
    | 7, ⟨h1, h2⟩ => exact ⟨h1.fr ho hT, hb _ _ _ _ _ h1 h2⟩
    | 8, ⟨g, h1, h2, h3⟩ => exact ⟨g, h1, h2.fr ho hT, hz v v g _ _ _ h1 h2 h3⟩
    | 9, h => exact h
    | 10, h => exact h
    | 11, ⟨h1, h2⟩ => exact ⟨h1.fr ho hT, hb _ _ _ _ _ h1 h2⟩
    | 12, h => exact h
    | 13, h => exact h
    | 14, ⟨vI, vD, vA, h1, h2⟩ => exact ⟨vI, vD, vA, h1, h2.outS ho hT⟩
    | 15, ⟨vI, vD, vA, h1, h2⟩ =>
      rw [if_neg hij] at ho
      exact ⟨vI, vD, vA, h1.outS ho (by simp), h2.outS ho (fun t ht => by cases ht)⟩
    | j + 16, h => exact h.elim
  case hU =>
    intro i o hi hd γ v w1 h
    match i, hi with
    | 15, hi => exact h
    | 0, hi => (injection hi with hi; subst hi; cases hd)
    | 1, hi => (injection hi with hi; subst hi; cases hd)
    | 2, hi => (injection hi with hi; subst hi; cases hd)
    | 3, hi => (injection hi with hi; subst hi; cases hd)
    | 4, hi => (injection hi with hi; subst hi; cases hd)
    | 5, hi => (injection hi with hi; subst hi; cases hd)
    | 6, hi => (injection hi with hi; subst hi; cases hd)
    | 7, hi => (injection hi with hi; subst hi; cases hd)
    | 8, hi => (injection hi with hi; subst hi; cases hd)
    | 9, hi => (injection hi with hi; subst hi; cases hd)
    | 10, hi => (injection hi with hi; subst hi; cases hd)
    | 11, hi => (injection hi with hi; subst hi; cases hd)
    | 12, hi => (injection hi with hi; subst hi; cases hd)
    | 13, hi => (injection hi with hi; subst hi; cases hd)
    | 14, hi => (injection hi with hi; subst hi; cases hd)
    | i + 16, hi => cases hi
  case hG =>
    refine ⟨?_, ?_, [.slice none 0 0, .slice none 0 0, .slice none 0 0, .int .i64 0], rfl, ?_⟩
    · exact Below.drew (((Below.refl _ _).alloc (Nat.le_refl _) _).alloc (by simp) _)
    · exact objU.dr9 ((objU.new _ _ _).old _)
    · exact objU.dr9 (objU.new2 _ _ (by simp))
  case hstep =>
    intro i o hi
    match i, hi with
    | 0, hi =>
      injection hi with hi; subst hi
      intro a w1 γ hG hK hD K hk
      refine wp_val (.slice (some ⟨w1.heap.size, 0, none⟩) 0 0) ?_ (hk _ _ (fun g => if g = w1.heap.size then 0 else γ g) (hG.alloc _) (Fr.below _ (OutS.of_below (below_alloc _ _)) _) ⟨_, rfl, ownR.lit w1 _ 36 3 (by have := hG.size; omega), if_pos rfl⟩)
      simp [execOp, Act.eval, go_sem]
    | 1, hi =>
      injection hi with hi; subst hi
      intro a w1 γ hG hK hD K hk
      have e1 := hK.at 1 (by kernel_rfl)
      refine wp_pure (.pointer (some ⟨w.heap.size, 0, none⟩)) ?_ (hk _ _ γ hG (Fr.same (OutS.refl _ _)) rfl)
      simp [execOp, Act.eval, e1, go_sem]
    | 2, hi =>
      injection hi with hi; subst hi
      intro a w1 γ hG hK hD K hk
      have d := hD 0 (by decide) (by kernel_rfl) (.inl rfl)
      change a.tmps.getD 4 undef = .pointer (some ⟨w.heap.size, 0, none⟩) at d
      have x0 := hG.2.1.cell 0 _ rfl
      refine wp_pure _ ?_ (hk _ _ γ hG (Fr.same (OutS.refl _ _)) rfl)
      simp [execOp, Act.eval, d, x0, go_sem]
    | 3, hi =>
      injection hi with hi; subst hi
      intro a w1 γ hG hK hD K hk
      have d0 := hD 0 (by decide) (by kernel_rfl) (.inl rfl)
      change ∃ g, a.tmps.getD 3 undef = .slice (some ⟨g, 0, none⟩) 0 0 ∧ ownR w1 (w.heap.size + 2) 36 3 (a.tmps.getD 3 undef) [] ∧ γ g = 0 at d0
      have d2 := hD 1 (by decide) (by kernel_rfl) (.inl rfl)
      change a.tmps.getD 5 undef = _ at d2
      obtain ⟨g, g1, g2, g3⟩ := d0
      rw [g1] at g2
      have hlt := (g2.lt g (by simp [blkOf, Value.ownBlock])).2
      obtain ⟨v', w', r1, r2, r3, r4⟩ := run_append_rd0 HEI.out (by decide) 24 (w.heap.size + 2) g g2 _ _ (HI.out.below hG.1) (rowsI _) (oneI _) (by have := L1.out; simp; omega) hG.size
      refine wp_val v' ?_ (hk _ _ (fun x => if x = w1.heap.size then 0 else γ x) (hG.below r3) (Fr.below _ (OutS.of_below r3) _) ⟨r2, own_new r4 hlt g3⟩)
      exact append_run (.tmp 3) (.tmp 5) 24 rfl g1 d2 r1
    | 4, hi =>
      injection hi with hi; subst hi
      intro a w1 γ hG hK hD K hk
      refine wp_val (.slice (some ⟨w1.heap.size, 0, none⟩) 0 0) ?_ (hk _ _ (fun g => if g = w1.heap.size then 1 else γ g) (hG.alloc _) (Fr.below _ (OutS.of_below (below_alloc _ _)) _) ⟨_, rfl, ownR.lit w1 _ 36 3 (by have := hG.size; omega), if_pos rfl⟩)
      simp [execOp, Act.eval, go_sem]
    | 5, hi =>
      injection hi with hi; subst hi
      intro a w1 γ hG hK hD K hk
      have e1 := hK.at 1 (by kernel_rfl)
      refine wp_pure (.pointer (some ⟨w.heap.size, 1, none⟩)) ?_ (hk _ _ γ hG (Fr.same (OutS.refl _ _)) rfl)
      simp [execOp, Act.eval, e1, go_sem]
    | 6, hi =>
      injection hi with hi; subst hi
      intro a w1 γ hG hK hD K hk
      have d := hD 0 (by decide) (by kernel_rfl) (.inl rfl)
      change a.tmps.getD 8 undef = .pointer (some ⟨w.heap.size, 1, none⟩) at d
      have x0 := hG.2.1.cell 1 _ rfl
      refine wp_pure _ ?_ (hk _ _ γ hG (Fr.same (OutS.refl _ _)) rfl)
      simp [execOp, Act.eval, d, x0, go_sem]
    | 7, hi =>
      injection hi with hi; subst hi
      intro a w1 γ hG hK hD K hk
      have d0 := hD 0 (by decide) (by kernel_rfl) (.inl rfl)
      change ∃ g, a.tmps.getD 7 undef = .slice (some ⟨g, 0, none⟩) 0 0 ∧ ownR w1 (w.heap.size + 2) 36 3 (a.tmps.getD 7 undef) [] ∧ γ g = 1 at d0
      have d2 := hD 1 (by decide) (by kernel_rfl) (.inl rfl)
      change a.tmps.getD 9 undef = _ at d2
      obtain ⟨g, g1, g2, g3⟩ := d0
      rw [g1] at g2
      have hlt := (g2.lt g (by simp [blkOf, Value.ownBlock])).2
      obtain ⟨v', w', r1, r2, r3, r4⟩ := run_append_rd0 HEI.out (by decide) 24 (w.heap.size + 2) g g2 _ _ (HD.out.below hG.1) (rowsI _) (oneI _) (by have := L2.out; simp; omega) hG.size
      refine wp_val v' ?_ (hk _ _ (fun x => if x = w1.heap.size then 1 else γ x) (hG.below r3) (Fr.below _ (OutS.of_below r3) _) ⟨r2, own_new r4 hlt g3⟩)
      exact append_run (.tmp 7) (.tmp 9) 24 rfl g1 d2 r1
    | 8, hi =>
      injection hi with hi; subst hi
      intro a w1 γ hG hK hD K hk
      refine wp_val (.slice (some ⟨w1.heap.size, 0, none⟩) 0 0) ?_ (hk _ _ (fun g => if g = w1.heap.size then 2 else γ g) (hG.alloc _) (Fr.below _ (OutS.of_below (below_alloc _ _)) _) ⟨_, rfl, ownR.lit w1 _ 9 1 (by have := hG.size; omega), if_pos rfl⟩)
      simp [execOp, Act.eval, go_sem]
    | 9, hi =>
      injection hi with hi; subst hi
      intro a w1 γ hG hK hD K hk
      have e1 := hK.at 1 (by kernel_rfl)
      refine wp_pure (.pointer (some ⟨w.heap.size, 2, none⟩)) ?_ (hk _ _ γ hG (Fr.same (OutS.refl _ _)) rfl)
      simp [execOp, Act.eval, e1, go_sem]
    | 10, hi =>
      injection hi with hi; subst hi
      intro a w1 γ hG hK hD K hk
      have d := hD 0 (by decide) (by kernel_rfl) (.inl rfl)
      change a.tmps.getD 12 undef = .pointer (some ⟨w.heap.size, 2, none⟩) at d
      have x0 := hG.2.1.cell 2 _ rfl
      refine wp_pure _ ?_ (hk _ _ γ hG (Fr.same (OutS.refl _ _)) rfl)
      simp [execOp, Act.eval, d, x0, go_sem]
    | 11, hi =>
      injection hi with hi; subst hi
      intro a w1 γ hG hK hD K hk
      have d0 := hD 0 (by decide) (by kernel_rfl) (.inl rfl)
      change ∃ g, a.tmps.getD 11 undef = .slice (some ⟨g, 0, none⟩) 0 0 ∧ ownR w1 (w.heap.size + 2) 9 1 (a.tmps.getD 11 undef) [] ∧ γ g = 2 at d0
      have d2 := hD 1 (by decide) (by kernel_rfl) (.inl rfl)
      change a.tmps.getD 13 undef = _ at d2
      obtain ⟨g, g1, g2, g3⟩ := d0
      rw [g1] at g2
      have hlt := (g2.lt g (by simp [blkOf, Value.ownBlock])).2
      obtain ⟨v', w', r1, r2, r3, r4⟩ := run_append_rd0 HES.out (by decide) 25 (w.heap.size + 2) g g2 _ _ (HA.out.below hG.1) (rowsS _) (oneS _) (by have := L3.out; simp; omega) hG.size
      refine wp_val v' ?_ (hk _ _ (fun x => if x = w1.heap.size then 2 else γ x) (hG.below r3) (Fr.below _ (OutS.of_below r3) _) ⟨r2, own_new r4 hlt g3⟩)
      exact append_run (.tmp 11) (.tmp 13) 25 rfl g1 d2 r1
    | 12, hi =>
      injection hi with hi; subst hi
      intro a w1 γ hG hK hD K hk
      have e1 := hK.at 1 (by kernel_rfl)
      refine wp_pure (.pointer (some ⟨w.heap.size, 3, none⟩)) ?_ (hk _ _ γ hG (Fr.same (OutS.refl _ _)) rfl)
      simp [execOp, Act.eval, e1, go_sem]
    | 13, hi =>
      injection hi with hi; subst hi
      intro a w1 γ hG hK hD K hk
      have d := hD 0 (by decide) (by kernel_rfl) (.inl rfl)
      change a.tmps.getD 15 undef = .pointer (some ⟨w.heap.size, 3, none⟩) at d
      have x0 := hG.2.1.cell 3 _ rfl
      refine wp_pure _ ?_ (hk _ _ γ hG (Fr.same (OutS.refl _ _)) rfl)
      simp [execOp, Act.eval, d, x0, go_sem]
    | 14, hi =>
      injection hi with hi; subst hi
      intro a w1 γ hG hK hD K hk
      have d0 := hD 0 (by decide) (by kernel_rfl) (.inl rfl)
      have d1 := hD 1 (by decide) (by kernel_rfl) (.inl rfl)
      have d2 := hD 2 (by decide) (by kernel_rfl) (.inl rfl)
      have d3 := hD 3 (by decide) (by kernel_rfl) (.inl rfl)
      change ownR w1 (w.heap.size + 2) _ 3 (a.tmps.getD 6 undef) _ ∧ _ at d0
      change ownR w1 (w.heap.size + 2) _ 3 (a.tmps.getD 10 undef) _ ∧ _ at d1
      change ownR w1 (w.heap.size + 2) _ 1 (a.tmps.getD 14 undef) _ ∧ _ at d2
      change a.tmps.getD 16 undef = .int .i64 Q.now at d3
      obtain ⟨h0, k0⟩ := d0
      obtain ⟨h1, k1⟩ := d1
      obtain ⟨h2, k2⟩ := d2
      obtain ⟨b0, c0, s0⟩ := h0.itS
      obtain ⟨b1, c1, s1⟩ := h1.itS
      obtain ⟨b2, c2, s2⟩ := h2.stS
      have hQ : QO w1 (w.heap.size + 2) _ _ Q (a.tmps.getD 6 undef) (a.tmps.getD 10 undef) (a.tmps.getD 14 undef) := ⟨h0, h1, h2, fun g p q => by have := k0 g p; have := k1 g q; omega, fun g p q => by have := k0 g p; have := k2 g q; omega, fun g p q => by have := k1 g p; have := k2 g q; omega⟩
      refine wp_pure (.agg #[a.tmps.getD 6 undef, a.tmps.getD 10 undef, a.tmps.getD 14 undef, .int .i64 Q.now]) ?_ (hk _ _ γ hG (Fr.same (OutS.refl _ _)) ⟨_, _, _, rfl, hQ⟩)
      rw [s0, s1, s2]
      rw [Array.getD_eq_getD_getElem?] at s0 s1 s2 d3
      simp [execOp, Act.eval, s0, s1, s2, d3, go_sem]
    | 15, hi =>
      injection hi with hi; subst hi
      intro a w1 γ hG hK hD K hk
      have d0 := hD 0 (by decide) (by kernel_rfl) (.inl rfl)
      change ∃ vI vD vA, a.tmps.getD 17 undef = .agg #[vI, vD, vA, .int .i64 Q.now] ∧ QO w1 (w.heap.size + 2) _ _ Q vI vD vA at d0
      obtain ⟨vI, vD, vA, g1, hQ⟩ := d0
      have e2 := hK.at 2 (by kernel_rfl)
      obtain ⟨b0, c0, rfl⟩ := hQ.i.itS
      obtain ⟨b1, c1, rfl⟩ := hQ.d.itS
      obtain ⟨b2, c2, rfl⟩ := hQ.a.stS
      obtain ⟨hb, hx, zs, hz, ho⟩ := hG
      obtain ⟨z0, z1, z2, z3, rfl⟩ : ∃ z0 z1 z2 z3, zs = [z0, z1, z2, z3] := by
        match zs, hz with
        | [z0, z1, z2, z3], _ => exact ⟨_, _, _, _, rfl⟩
      have ho2 := objU.setCells [.slice b0 Q.I.length c0, .slice b1 Q.D.length c1, .slice b2 Q.A.length c2, .int .i64 Q.now] [z0, z1, z2, z3] [] [] w1 (by simpa using ho) rfl
      have hO : OutS [w.heap.size + 1] w1 (w1.setCells (w.heap.size + 1) 0 [.slice b0 Q.I.length c0, .slice b1 Q.D.length c1, .slice b2 Q.A.length c2, .int .i64 Q.now]) := OutS.setCells _ _ _
      have hT : ∀ t ∈ [w.heap.size + 1], t < w.heap.size + 2 := fun t ht => by simp at ht; omega
      have y0 := ho.cell 0 _ rfl
      have y1 := ho.cell 1 _ rfl
      have y2 := ho.cell 2 _ rfl
      have y3 := ho.cell 3 _ rfl
      have f0 := ho.fz 0
      have f1 := ho.fz 1
      have f2 := ho.fz 2
      have f3 := ho.fz 3
      refine wp_skip ?_ (hk undef _ γ ⟨hb.trans (hO.below (fun t ht => by simp at ht; omega) hb.size), hx.outS hO (by simp), _, rfl, by simpa using ho2⟩ ⟨hO, fun _ _ => rfl⟩ ⟨_, _, _, by simpa using ho2, hQ.outS hO hT⟩)
      exact store_run 27 (.tmp 2) (.tmp 17) rfl e2 g1 [.slice b0 Q.I.length c0, .slice b1 Q.D.length c1, .slice b2 Q.A.length c2, .int .i64 Q.now] rfl (by intro u hu; simp at hu; rcases hu with rfl | rfl | rfl | rfl <;> rfl) Try.zQueue_impl_Queue (ho.there 0 4 (by simp))
    | i + 16, hi => cases hi
  case hend =>
    intro x w' γ hG hx
    have hf := hx 15 (by decide) rfl
    obtain ⟨vI, vD, vA, ho, hQ⟩ := hf
    simp only [putAll, Act.put, List.setIfInBounds_toArray, List.set_cons_zero, List.set_cons_succ]
    go_wp2
    refine bodyPost_ret (v := .agg #[vI, vD, vA, .int .i64 Q.now]) ?_ rfl ⟨vI, vD, vA, rfl, hQ.mono (by omega), hG.1⟩
    exact results_row rfl _ _ (w.heap.size + 1) _ _ (by simp) ho Try.rQueue_impl_Queue Try.zQueue_impl_Queue
end Go.Proofs.Ytddojjigijfgbaa
/- Queues: the program's sets of names: namesOf, drop; itemsOk. -/
namespace Go.Proofs.Ytddojjigijfgbaa
open Go.RowKit Go.BigFrame Go.Maps
set_option linter.unusedVariables false

def klS (s : ByteArray) : Lit := .string s.data.toList
theorem klS_inj {s t : ByteArray} (h : klS s = klS t) : s = t := by
  unfold klS at h
  cases s; cases t
  injection h with h
  congr 1
  exact Array.ext' h
theorem lawS : Keyed Try.prog 9 := string_keyed (by kernel_rfl)
theorem zeroU (w : World) : (zeroValue 65).run Try.prog w = .ok (.agg #[]) w := by kernel_rfl
theorem undM : Try.prog.underlying 51 = some (.map 9 65) := by kernel_rfl
theorem keyS {s : ByteArray} (h : s.size ≤ maxLen) : keyOf Try.prog 9 (.string s) = some (klS s) := Go.WideMaps.keyOf_string_mk (by kernel_rfl) h
theorem isKeyS (s : ByteArray) (h : s.size ≤ maxLen) : WideAt.IsKeyLit (klS s) := lawS.key (keyS h)
/-- a set of names in block b: just those of L -/
def MS9 (w : World) (b : Nat) (L : List ByteArray) : Prop := ∃ (n : Nat) (D : DataW Unit), w.ownsMap Try.prog 9 unitElem b n D ∧ n ≤ L.length ∧ (∀ s, Maps.has D (klS s) = true ↔ s ∈ L) ∧ (Maps.size D = L.length ↔ L.Nodup) ∧ Maps.size D ≤ L.length
theorem ownsMap_frame {w w' : World} {P : Program} {k : TypeId} {R : Value → Option (DataW Unit × List MemPlace)} {b n : Nat} {D : DataW Unit} (h : w.ownsMap P k R b n D) (hb : w'.heap[b]? = w.heap[b]?) : w'.ownsMap P k R b n D := by
  obtain ⟨es, clock, h1, h2⟩ := h
  exact ⟨es, clock, hb.trans h1, h2⟩
theorem MS9.below {w w' : World} {b : Nat} {L : List ByteArray} (h : MS9 w b L) (hb : Below w.heap.size w w') : MS9 w' b L := by
  obtain ⟨n, D, h1, h2⟩ := h
  exact ⟨n, D, ownsMap_frame h1 (hb.block b h1.lt), h2⟩
theorem MS9.lt {w : World} {b : Nat} {L : List ByteArray} (h : MS9 w b L) : b < w.heap.size := by
  obtain ⟨n, D, h1, h2⟩ := h; exact h1.lt
theorem MS9.made (w : World) : MS9 (w.alloc (.map #[] 0)) w.heap.size [] := ⟨0, .map [], World.ownsMap_made _ _ _ _, Nat.le_refl _, fun s => by simp [Maps.has_eq], by simp [Maps.size_eq], by simp [Maps.size_eq]⟩
theorem MS9.put {w1 : World} {b n : Nat} {L : List ByteArray} {D : DataW Unit} {s : ByteArray} (hs : s.size ≤ maxLen) (hT : Tidy D) (hn : n ≤ L.length) (h1 : ∀ s, Maps.has D (klS s) = true ↔ s ∈ L) (h2 : Maps.size D = L.length ↔ L.Nodup) (h3 : Maps.size D ≤ L.length)
    (hown : w1.ownsMap Try.prog 9 unitElem b (n + 1) (D.put (klS s) (.agg []))) : MS9 w1 b (L ++ [s]) := by
  have hp := size_put (k := klS s) hT (.agg [] : DataW Unit)
  refine ⟨n + 1, _, hown, by rw [List.length_append, List.length_singleton]; omega, fun t => ?_, ?_, ?_⟩
  · by_cases e : klS t = klS s
    · rw [e, has_put_same hT.isMap (isKeyS s hs)]
      simp [klS_inj e]
    · rw [has_put_other e, h1 t]
      simp only [List.mem_append, List.mem_singleton]
      exact ⟨.inl, fun h => h.resolve_right (fun h => e (by rw [h]))⟩
  · rw [hp, List.length_append, List.length_singleton, List.nodup_append]
    by_cases hh : Maps.has D (klS s) = true
    · rw [if_pos hh]
      have hm := (h1 s).1 hh
      exact ⟨fun h => by omega, fun h => ((h.2.2 s hm s (by simp)) rfl).elim⟩
    · rw [if_neg hh]
      have hm : s ∉ L := fun h => hh ((h1 s).2 h)
      constructor
      · intro h
        exact ⟨h2.1 (by omega), by simp, fun a ha b hb e => by simp at hb; exact hm (by rw [← hb, ← e]; exact ha)⟩
      · intro h
        have := h2.2 h.1
        omega
  · rw [hp, List.length_append, List.length_singleton]
    split <;> omega
/-- a set that loses names -/
def DS9 (w : World) (b : Nat) (F : ByteArray → Prop) : Prop := ∃ (n : Nat) (D : DataW Unit), w.ownsMap Try.prog 9 unitElem b n D ∧ ∀ s, Maps.has D (klS s) = true ↔ F s
theorem MS9.ds {w : World} {b : Nat} {L : List ByteArray} (h : MS9 w b L) : DS9 w b (fun s => s ∈ L) := by
  obtain ⟨n, D, h1, _, h3, _⟩ := h; exact ⟨n, D, h1, h3⟩
theorem DS9.frame {w w' : World} {b : Nat} {F : ByteArray → Prop} (h : DS9 w b F) (hb : w'.heap[b]? = w.heap[b]?) : DS9 w' b F := by
  obtain ⟨n, D, h1, h2⟩ := h; exact ⟨n, D, ownsMap_frame h1 hb, h2⟩
theorem DS9.congr {w : World} {b : Nat} {F G : ByteArray → Prop} (h : DS9 w b F) (hb : ∀ s, F s ↔ G s) : DS9 w b G := by
  obtain ⟨n, D, h1, h2⟩ := h; exact ⟨n, D, h1, fun s => (h2 s).trans (hb s)⟩
theorem DS9.lt {w : World} {b : Nat} {F : ByteArray → Prop} (h : DS9 w b F) : b < w.heap.size := by
  obtain ⟨n, D, h1, h2⟩ := h; exact h1.lt
theorem turned_out {w w' : World} {b : Nat} (h : w.mapTurned w' b) : OutS [b] w w' := grown_out h.grown
set_option maxHeartbeats 800000 in
theorem drop_any (b : Nat) (F : ByteArray → Prop) (s : ByteArray) (w : World) (hs : s.size ≤ maxLen) (h : DS9 w b F) :
    Calls Try.prog 27 #[.map (some b), .string s] w fun e w' => ∃ r : Bool, e = .returned (.bool r) ∧ (r = true ↔ F s) ∧ DS9 w' b (fun t => F t ∧ t ≠ s) ∧ OutS [b] w w' := by
  obtain ⟨n, D, hown, hF⟩ := h
  have HF := hide hF
  have Hown := hide hown
  have Hkey := hide (keyS hs)
  have hbl := hown.lt
  clear hF hown hs
  go_enter Try.func27, Try.ntmps27
  go_wp2_with (first
    | (at_lookup; refine wpList_lookup_own_unit _ rfl _ _ 51 rfl 9 65 lawS undM (zeroU _) b n D rfl Hown.out _ _ rfl Hkey.out ?_)
    | (at_delete; refine wpList_delete_own _ rfl _ _ 51 9 rfl 65 lawS undM unitElem b n D rfl (Hown.out.alloc _) _ _ rfl Hkey.out ?_; intro w1 hown1 hturn1))
  go_ret
  have ho : OutS [b] w w1 := (OutS.of_below (below_alloc w _)).trans (turned_out hturn1)
  refine ⟨_, rfl, HF.out s, ⟨n, _, hown1, fun t => ?_⟩, ho⟩
  by_cases e : klS t = klS s
  · rw [e, has_del_same]
    exact ⟨(fun h => by cases h), fun h => (h.2 (klS_inj e)).elim⟩
  · rw [has_del_other e, HF.out t]
    exact ⟨fun h => ⟨h, fun hh => e (by rw [hh])⟩, fun h => h.1⟩
def nmsI (L : List It) : List ByteArray := L.map (fun x => x.1)
/-- the names of the first lists, and of the beginning of the next one -/
def nmsV (VL : List (Value × List It)) (k : Nat) : List ByteArray := ((VL.take k).map (fun p => nmsI p.2)).flatten
theorem nmsV_succ {VL : List (Value × List It)} {k : Nat} (h : k < VL.length) : nmsV VL (k + 1) = nmsV VL k ++ nmsI (VL[k].2) := by
  unfold nmsV
  rw [List.take_add_one, List.getElem?_eq_getElem h, Option.toList_some, List.map_append, List.flatten_append, List.map_singleton, List.flatten_singleton]
theorem nmsV_len {VL : List (Value × List It)} (h : ∀ p ∈ VL, p.2.length ≤ 1048576) : ∀ k, k ≤ VL.length → (nmsV VL k).length ≤ k * 1048576
  | 0, _ => by simp [nmsV]
  | k + 1, hk => by
    rw [nmsV_succ (by omega), List.length_append]
    have h1 := nmsV_len h k (by omega)
    have h2 := h (VL[k]'(by omega)) (List.getElem_mem _)
    have h3 : (nmsI (VL[k]'(by omega)).2).length = (VL[k]'(by omega)).2.length := List.length_map _
    omega
theorem nmsI_succ {L : List It} {j : Nat} (h : j < L.length) : nmsI (L.take (j + 1)) = nmsI (L.take j) ++ [L[j].1] := by
  unfold nmsI
  rw [List.take_add_one, List.getElem?_eq_getElem h, Option.toList_some, List.map_append, List.map_singleton]
set_option maxRecDepth 20000 in
set_option maxHeartbeats 1600000 in
theorem namesOf_any (VL : List (Value × List It)) (c : Value) (w : World) (hl : VL.length ≤ 10) (hx : rdR w 1 c (VL.map (fun p => [p.1]))) (hv : ∀ p ∈ VL, rdR w 3 p.1 (p.2.map encI) ∧ okIs p.2) :
    Calls Try.prog 26 #[c] w fun e w' => ∃ b, e = .returned (.map (some b)) ∧ MS9 w' b (nmsV VL VL.length) ∧ w.heap.size ≤ b ∧ Below w.heap.size w w' := by
  have hmm := @run_makeMap Try.prog
  obtain ⟨a, cap, rfl, hc1, hc2, hc3⟩ := hx
  rw [List.length_map] at hc1 hc3 ⊢
  have HC := hide hc3
  have HV := hide hv

  clear hc3 hv
  go_enter Try.func26, Try.ntmps26
  go_wp2
  go_loopw [11] (fun i wr => ∃ (k : Nat), k ≤ VL.length ∧ i = .int .i64 k ∧ Hid (MS9 wr w.heap.size (nmsV VL k)) ∧ Hid (Below w.heap.size w wr)) (fun i _ => VL.length - (intOf i).toNat)
  case atStart => exact ⟨0, Nat.zero_le _, rfl, MS9.made w, below_alloc _ _⟩
  case round =>
    obtain ⟨k, hk, rfl, Hm, Hb⟩ := hrel
    by_cases hlt : k < VL.length
    · obtain ⟨b0, o0, rfl, hcell⟩ := HC.out (by omega)
      have hbl : b0 < w.heap.size := World.block_lt_of_cell? _ _ (hcell k [VL[k].1] 0 (VL[k].1) (by rw [List.getElem?_map, List.getElem?_eq_getElem hlt]; rfl) rfl)
      have hck : wr.cell? ⟨b0, o0 + k, none⟩ = some (VL[k].1) := by
        have := hcell k [VL[k].1] 0 (VL[k].1) (by rw [List.getElem?_map, List.getElem?_eq_getElem hlt]; rfl) rfl
        rw [Nat.mul_one, Nat.add_zero] at this
        exact (Hb.out.cell (p := ⟨b0, o0 + k, none⟩) hbl).trans this
      obtain ⟨hr, hok⟩ := HV.out _ (List.getElem_mem hlt)
      have HR := hide hr
      have hbd := nmsV_len (fun p hp => (HV.out p hp).2.1) k hk
      have Hbd : Hid ((nmsV VL k).length ≤ 10485760) := by show _ ≤ _; omega
      clear hbd
      have HOK := hide hok
      have HS : Hid (nmsV VL (k + 1) = nmsV VL k ++ nmsI (VL[k].2)) := nmsV_succ hlt
      clear hcell hr hok hbl
      generalize VL[k] = p at *
      obtain ⟨pv, L⟩ := p
      dsimp only at hck HR HOK HS
      obtain ⟨aL, pL, rfl, -, -⟩ := HR.out.itS
      have hLl := HOK.out.1
      have HW := hide Hb.out
      obtain ⟨wm, rfl⟩ : ∃ wm, wm = wr := ⟨_, rfl⟩
      clear Hb
      go_wp2
      go_loopw [17] (fun i wr => ∃ (j : Nat), j ≤ L.length ∧ i = .int .i64 j ∧ Hid (MS9 wr w.heap.size (nmsV VL k ++ nmsI (L.take j))) ∧ Hid (Below w.heap.size w wr)) (fun i _ => L.length - (intOf i).toNat)
      case atStart => exact ⟨0, Nat.zero_le _, rfl, by simpa [nmsI, Hid] using Hm, HW⟩
      case round =>
        obtain ⟨j, hj, rfl, Hj, Hy⟩ := hrel
        by_cases hlj : j < L.length
        · obtain ⟨b, off, rfl, hbk, c0, c1, c2⟩ := (HR.out.below Hy.out).itAt hlj
          have hs := (HOK.out.2 _ (List.getElem_mem hlj)).1
          have Hkey := hide (keyS hs)
          have HN : Hid (nmsI (L.take (j + 1)) = nmsI (L.take j) ++ [L[j].1]) := nmsI_succ hlj
          obtain ⟨n, D, hown, hn, h1, h2, h3⟩ := Hj.out
          have Hown := hide hown
          have HD := hide (And.intro hn (And.intro h1 (And.intro h2 h3)))
          have Hsz := hide hs
          have hnb : n ≤ 20000000 := by
            have h5 := Hbd.out
            have h6 : (nmsI (L.take j)).length ≤ L.length := by unfold nmsI; rw [List.length_map, List.length_take]; omega
            rw [List.length_append] at hn
            omega
          clear hown hn h1 h2 h3 hs Hj
          generalize L[j].1 = s at *
          generalize L[j].2.1 = rd at *
          generalize L[j].2.2 = fl at *
          have hmx : n < maxLen := by unfold maxLen; omega
          go_wp2_with (at_mapUpdate; refine wpList_mapUpdate_own _ rfl _ _ _ 51 rfl 9 65 lawS undM (unitElem (H := Unit)) w.heap.size n D rfl (ownsMap_frame Hown.out (Below.block (B := wr.heap.size) (by repeat (first | with_reducible exact Below.refl _ _ | with_reducible refine Below.setCell ?_ (by simp) _ | with_reducible refine Below.alloc ?_ (by simp) _)) _ Hown.out.lt)) hmx _ _ _ rfl rfl Hkey.out _ [] unitElem_mk ?_; intro w1 hown1 hgrow1)
          have hTd : Tidy D := Hown.out.tidy lawS
          have HM : Hid (MS9 w1 w.heap.size (nmsV VL k ++ nmsI (L.take (j + 1)))) := by
            show MS9 _ _ _
            rw [HN.out, ← List.append_assoc]
            exact MS9.put Hsz.out hTd HD.out.1 HD.out.2.1 HD.out.2.2.1 HD.out.2.2.2 hown1
          have HB1 : Hid (Below w.heap.size w w1) := Hy.out.trans (Below.grown (Below.mono ((by repeat (first | with_reducible exact Below.refl _ _ | with_reducible refine Below.setCell ?_ (by simp) _ | with_reducible refine Below.alloc ?_ (by simp) _)) : Below wr.heap.size wr _) Hy.out.size) hgrow1 (by simp; exact Nat.le_succ_of_le Hy.out.size) (fun g hg => by cases hg; exact Nat.le_refl _))
          clear hown1 hgrow1 hTd
          go_roundw
          case rel => exact ⟨j + 1, by omega, by go_num, HM, HB1⟩
          case measure => simp [intOf]; omega
        · have e : j = L.length := by omega
          have HM : Hid (MS9 wr w.heap.size (nmsV VL (k + 1))) := by
            show MS9 _ _ _
            rw [HS.out]
            have := Hj.out
            rwa [e, List.take_length] at this
          clear Hj
          subst e
          go_wp2
          go_roundw
          case rel => exact ⟨k + 1, by omega, by go_num, HM, Hy⟩
          case measure => simp [intOf]; omega
    · have e : k = VL.length := by omega
      subst e
      go_wp2
      go_ret
      exact ⟨_, rfl, Hm.out, Nat.le_refl _, Hb.out⟩
end Go.Proofs.Ytddojjigijfgbaa
