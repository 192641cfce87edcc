/- Values that came in: what a reading of them says. -/
import Derived.Test.YtbadjopaocindaaDoorVTx
import Derived.Test.YtbadjopaocindaaDoorOpenT
import Derived.Lib.SmallJoins
namespace Go.Proofs.YtbadjopaocindaaDoor
open Go.RowKit
open Go.ChangeShapes Go.WideShapes Go.ChangeAt
set_option linter.unusedVariables false

theorem len5 {l : List Value} (h : l.length = 5) : ∃ a b c d e, l = [a, b, c, d, e] := by
  match l, h with
  | [a, b, c, d, e], _ => exact ⟨a, b, c, d, e, rfl⟩
theorem open_slice_lt {H : Type} {enc : TypeId × Value → H} {P : Program} {w : World} {base : Nat} {spare : Nat → Bool} {held : Bool} {t e : TypeId} {fuel : Nat} {cs : List Value} {x : DataW H × List MemPlace}
    (ht : P.underlying t = some (.slice e)) (h : DataW.trod enc P w base spare held fuel t cs = some x) :
    cs = [.slice none 0 0] ∨ ∃ (a : Addr) (len cap n : Nat), fuel = n + 1 ∧ cs = [.slice (some a) len cap] ∧ len ≤ cap ∧ cap ≤ maxLen ∧
      ∀ i, i < len → ∃ cs' y, w.cells? base (a.add (i * P.cellsOf e)) (P.cellsOf e) = some cs' ∧ DataW.trod enc P w base spare held n e cs' = some y := by
  rcases DataW.trod_slice ht h with h0 | ⟨a, len, cap, elems, rest, n, hf, rfl, rfl, hb, hl, hm, hlen, hel, _⟩
  · exact .inl h0.1
  · refine .inr ⟨a, len, cap, n, hf, rfl, hl, hm, fun i hi => ?_⟩
    have key := hel i hi
    rw [List.getElem?_eq_getElem (by omega)] at key
    obtain ⟨cs', h1, h2⟩ := Option.bind_eq_some_iff.1 key
    exact ⟨cs', _, h1, h2⟩

theorem open_val {H : Type} {enc : TypeId × Value → H} {w : World} {base : Nat} {spare : Nat → Bool} {held : Bool} : ∀ (N fuel : Nat), fuel ≤ N → ∀ (cs : List Value) (x : DataW H × List MemPlace),
    cs.length = 5 → DataW.trod enc Tryd.prog w base spare held fuel 40 cs = some x →
    ∃ (v : VT (N + 1)) (a : Option Addr) (cap : Nat) (a' : Option Addr) (cap' : Nat), cs = [.int .i64 v.hd.kd, .string v.hd.tx, .int .i64 v.hd.nm, .slice a v.hd.ks.length cap, .slice a' v.kids.length cap'] ∧ (okVT (N + 1) v ∧ nmVT (N + 1) v) ∧
      (strB w 0 a v.hd.ks ∧ fits a v.hd.ks.length cap) ∧ valsOf w 0 N a' v.kids ∧ fits a' v.kids.length cap' := by
  have n0 : Tryd.prog.cellsOf 3 = 1 := by kernel_rfl
  have n1 : Tryd.prog.cellsOf 9 = 1 := by kernel_rfl
  have n2 : Tryd.prog.cellsOf 37 = 1 := by kernel_rfl
  have n3 : Tryd.prog.cellsOf 38 = 1 := by kernel_rfl
  have hc5 : Tryd.prog.cellsOf 40 = 5 := by kernel_rfl
  intro N
  induction N with
  | zero =>
    intro fuel hf cs x hlen h
    obtain ⟨xs, k, hk, _⟩ := DataW.trod_struct Tryd.underlying40 h
    omega
  | succ N ih =>
    intro fuel hf cs x hlen h
    obtain ⟨xs, k, hk, hxy, _, hxl, hf'⟩ := DataW.trod_struct Tryd.underlying40 h
    obtain ⟨v0, v1, v2, v3, v4, rfl⟩ := len5 hlen
    obtain ⟨y0, g0⟩ : ∃ y, xs[0]? = some y := ⟨_, List.getElem?_eq_getElem (by rw [hxl]; decide)⟩
    obtain ⟨y1, g1⟩ : ∃ y, xs[1]? = some y := ⟨_, List.getElem?_eq_getElem (by rw [hxl]; decide)⟩
    obtain ⟨y2, g2⟩ : ∃ y, xs[2]? = some y := ⟨_, List.getElem?_eq_getElem (by rw [hxl]; decide)⟩
    obtain ⟨y3, g3⟩ : ∃ y, xs[3]? = some y := ⟨_, List.getElem?_eq_getElem (by rw [hxl]; decide)⟩
    obtain ⟨y4, g4⟩ : ∃ y, xs[4]? = some y := ⟨_, List.getElem?_eq_getElem (by rw [hxl]; decide)⟩
    have f0 : DataW.trod enc Tryd.prog w base spare held k 3 [v0] = some y0 := by have := (hf' 0 _ rfl).trans g0; simpa [n0] using this
    have f1 : DataW.trod enc Tryd.prog w base spare held k 9 [v1] = some y1 := by have := (hf' 1 _ rfl).trans g1; simpa [n1] using this
    have f2 : DataW.trod enc Tryd.prog w base spare held k 3 [v2] = some y2 := by have := (hf' 2 _ rfl).trans g2; simpa [n0] using this
    have f3 : DataW.trod enc Tryd.prog w base spare held k 37 [v3] = some y3 := by have := (hf' 3 _ rfl).trans g3; simpa [n2] using this
    have f4 : DataW.trod enc Tryd.prog w base spare held k 38 [v4] = some y4 := by have := (hf' 4 _ rfl).trans g4; simpa [n3] using this
    obtain ⟨kd, q0, -, -⟩ := DataW.trod_int Tryd.underlying3 f0
    obtain ⟨tx, q1, -, hks⟩ := DataW.trod_string Tryd.underlying9 f1
    obtain ⟨nm, q2, -, hnw⟩ := DataW.trod_int Tryd.underlying3 f2
    obtain ⟨ss, a, cap, q3, hsl, hss, hso, hsf⟩ := open_strs f3
    have hnb : -9223372036854775808 ≤ nm ∧ nm ≤ 9223372036854775807 := by have h := Go.Joins.in64_of_wf hnw; unfold Go.Joins.In64 at h; omega
    have k0 : v0 = .int .i64 kd := by simpa using q0
    have k1 : v1 = .string tx := by simpa using q1
    have k2 : v2 = .int .i64 nm := by simpa using q2
    have k3 : v3 = .slice a ss.length cap := by simpa using q3
    subst k0 k1 k2 k3
    rcases open_slice_lt Tryd.underlying38 f4 with hcs | ⟨a', len', cap', n, hn, hcs, hl, hm, hx⟩
    · have k4 : v4 = .slice none 0 0 := by simpa using hcs
      subst k4
      exact ⟨VT.mk ⟨kd, tx, nm, ss⟩ [], a, cap, none, 0, rfl, ⟨⟨hks, hsl, hss, Nat.zero_le _, fun x hx => by cases hx⟩, hnb, fun x hx => by cases hx⟩, ⟨strB.zero hso, hsf⟩, (fun h => by cases h), Nat.le_refl _, fun _ => rfl⟩
    · have k4 : v4 = .slice (some a') len' cap' := by simpa using hcs
      subst k4
      rw [hc5] at hx
      rcases Nat.eq_zero_or_pos len' with hz | hpos
      · subst hz
        exact ⟨VT.mk ⟨kd, tx, nm, ss⟩ [], a, cap, some a', cap', rfl, ⟨⟨hks, hsl, hss, Nat.zero_le _, fun x hx => by cases hx⟩, hnb, fun x hx => by cases hx⟩, ⟨strB.zero hso, hsf⟩, (fun h => by cases h), hl, fun h => by cases h⟩
      obtain ⟨b, off, spot⟩ := a'
      have hspot : spot = none := by
        obtain ⟨cs', y, h1, h2⟩ := hx 0 hpos
        obtain ⟨_, hlen', hcell⟩ := World.cells?_some h1
        have e0 := hcell 0 (by omega)
        rw [Go.Deep.add_add] at e0
        rw [List.getElem?_eq_getElem (by omega)] at e0
        simpa [Addr.add] using World.cell?_spot e0
      subst hspot
      have each : ∀ i, i < len' → ∃ q : VT (N + 1), (okVT (N + 1) q ∧ nmVT (N + 1) q) ∧ vatAt w 0 (N + 1) b (off + i * 5) q := fun i hi => by
        obtain ⟨cs', y, h1, h2⟩ := hx i hi
        obtain ⟨_, hlen', hcell⟩ := World.cells?_some h1
        obtain ⟨v, b1, c1, b2, c2, rfl, hok, hk1, hk2⟩ := ih n (by omega) cs' y hlen' h2
        have e0 := hcell 0 (by omega)
        have e1 := hcell 1 (by omega)
        have e2 := hcell 2 (by omega)
        have e3 := hcell 3 (by omega)
        have e4 := hcell 4 (by omega)
        rw [Go.Deep.add_add] at e0 e1 e2 e3 e4
        rw [Go.WideShapes.add_plain] at e0 e1 e2 e3 e4
        exact ⟨v, hok, e0, by rw [Nat.add_assoc]; exact e1, by rw [Nat.add_assoc]; exact e2, ⟨b1, c1, by rw [Nat.add_assoc]; exact e3, hk1⟩, b2, c2, by rw [Nat.add_assoc]; exact e4, hk2⟩
      obtain ⟨q0, _⟩ := each 0 hpos
      have : Inhabited (VT (N + 1)) := ⟨q0⟩
      obtain ⟨q, hq⟩ := Go.Deep.choose_lt each
      have hlq : ((List.range len').map q).length = len' := by simp
      refine ⟨VT.mk ⟨kd, tx, nm, ss⟩ ((List.range len').map q), a, cap, some ⟨b, off, none⟩, cap', by rw [VT.kids_mk, hlq]; rfl, ⟨⟨hks, hsl, hss, by rw [VT.kids_mk, hlq]; omega, ?_⟩, hnb, ?_⟩, ⟨strB.zero hso, hsf⟩, ?_, by rw [VT.kids_mk, hlq]; exact hl, fun h => by cases h⟩
      · intro p hp
        obtain ⟨i, hi, rfl⟩ := List.mem_map.1 (show p ∈ (List.range len').map q from hp)
        exact (hq i (List.mem_range.1 hi)).1.1
      · intro p hp
        obtain ⟨i, hi, rfl⟩ := List.mem_map.1 (show p ∈ (List.range len').map q from hp)
        exact (hq i (List.mem_range.1 hi)).1.2
      · intro h0
        refine ⟨b, off, rfl, Nat.zero_le _, fun i hi => ?_⟩
        have hi' : i < len' := by rw [VT.kids_mk, hlq] at hi; exact hi
        have e2 : (VT.mk ⟨kd, tx, nm, ss⟩ ((List.range len').map q)).kids[i]'hi = q i := by show ((List.range len').map q)[i]'(by rw [hlq]; exact hi') = _; simp
        rw [e2]
        exact (hq i hi').2
end Go.Proofs.YtbadjopaocindaaDoor
