/- Data as cells: what a reading of arguments says, for every type at once. -/
import Derived.Test.YtdnodaoeflbfkaaU2
import Derived.Deep.Slices
import Derived.ProofKit
import Derived.Lib.SmallJoins
namespace Go.Proofs.Ytdnodaoeflbfkaa
open Go.RowKit
open Go.ChangeShapes Go.WideShapes Go.ChangeAt
set_option linter.unusedVariables false

theorem tyL.app : ∀ {a b : UD} {fs gs : List UF}, tyL a fs → tyL b gs → tyL (a.app b) (fs ++ gs)
  | .nil, b, fs, gs, h, k => by rw [UD.app_nil, show fs = [] from h]; exact k
  | .p v r, b, _, gs, ⟨f, fr, e, h1, h2⟩, k => by subst e; rw [UD.app_p]; exact ⟨f, fr ++ gs, rfl, h1, tyL.app h2 k⟩
  | .l m n cs r, b, _, gs, ⟨t, fr, e, h1, h2⟩, k => by subst e; rw [UD.app_l]; exact ⟨t, fr ++ gs, rfl, h1, tyL.app h2 k⟩
theorem uH.app {w : World} {lo hi : Nat} : ∀ {a b : UD} {xs ys : List Value}, uH w lo hi a xs → uH w lo hi b ys → uH w lo hi (a.app b) (xs ++ ys)
  | .nil, b, xs, ys, h, k => by rw [UD.app_nil, show xs = [] from h]; exact k
  | .p v r, b, _, ys, ⟨zs, e, h⟩, k => by subst e; rw [UD.app_p]; exact ⟨zs ++ ys, rfl, uH.app h k⟩
  | .l m n cs r, b, _, ys, ⟨c, zs, e, h1, h⟩, k => by subst e; rw [UD.app_l]; exact ⟨c, zs ++ ys, rfl, h1, uH.app h k⟩
theorem tyL.len : ∀ {d : UD} {fs : List UF}, tyL d fs → d.len = fs.length
  | .nil, fs, h => by rw [show fs = [] from h]; rfl
  | .p v r, _, ⟨f, fr, e, h1, h2⟩ => by subst e; rw [UD.len_p, tyL.len h2]; rfl
  | .l m n cs r, _, ⟨t, fr, e, h1, h2⟩ => by subst e; rw [UD.len_l, tyL.len h2]; rfl
theorem uM.app {w : World} {lo hi b : Nat} : ∀ {d e : UD} {o : Nat}, uM w lo hi d b o → uM w lo hi e b (o + d.len) → uM w lo hi (d.app e) b o
  | .nil, e, o, h, k => by rw [UD.app_nil]; exact k
  | .p v r, e, o, h, k => by rw [UD.app_p]; exact ⟨h.1, uM.app h.2 (by rw [UD.len_p] at k; rw [show o + 1 + r.len = o + (r.len + 1) by omega]; exact k)⟩
  | .l m n cs r, e, o, h, k => by rw [UD.app_l]; exact ⟨h.1, uM.app h.2 (by rw [UD.len_l] at k; rw [show o + 1 + r.len = o + (r.len + 1) by omega]; exact k)⟩
theorem uM.of_hand {w : World} {lo hi b : Nat} : ∀ {d : UD} {xs : List Value} {o : Nat}, uH w lo hi d xs → (∀ j c, xs[j]? = some c → w.cell? ⟨b, o + j, none⟩ = some c) → uM w lo hi d b o
  | .nil, _, _, _, _ => trivial
  | .p v r, _, o, ⟨ys, e, h⟩, hc => by
    subst e
    exact ⟨hc 0 v rfl, uM.of_hand h (fun j x hx => by have := hc (j + 1) x (by simpa using hx); rw [← this]; congr 2; omega)⟩
  | .l k n cs r, _, o, ⟨c, ys, e, h1, h2⟩, hc => by
    subst e
    obtain ⟨a, cap, rfl, h3⟩ := h1
    exact ⟨⟨a, cap, hc 0 _ rfl, h3⟩, uM.of_hand h2 (fun j x hx => by have := hc (j + 1) x (by simpa using hx); rw [← this]; congr 2; omega)⟩
theorem tyU.row {fs : List UF} (hf : 0 < fs.length) : ∀ {d rest : UD} {i j : Nat}, tyL d (fs.drop j) → i % fs.length = j → tyU rest fs (i + d.len) → tyU (d.app rest) fs i
  | .nil, rest, i, j, h, hi, k => by rw [UD.app_nil]; exact k
  | .p v r, rest, i, j, ⟨f, fr, e, h1, h2⟩, hi, k => by
    rw [UD.app_p]
    have hj : j < fs.length := by rw [← hi]; exact Nat.mod_lt _ hf
    rw [List.drop_eq_getElem_cons hj] at e
    obtain ⟨e1, e2⟩ := List.cons.inj e
    refine ⟨⟨f, by rw [hi, List.getElem?_eq_getElem hj, e1], h1⟩, ?_⟩
    rw [UD.len_p] at k
    rw [← e2] at h2
    by_cases hl : j + 1 < fs.length
    · exact tyU.row hf h2 (by rw [Nat.add_mod, hi, Nat.mod_eq_of_lt (show 1 < fs.length by omega), Nat.mod_eq_of_lt hl]) (by rw [show i + 1 + r.len = i + (r.len + 1) by omega]; exact k)
    · rw [List.drop_eq_nil_of_le (by omega)] at h2
      rw [tyL.nil h2, UD.app_nil]
      rw [tyL.nil h2] at k
      exact k
  | .l m n cs r, rest, i, j, ⟨t, fr, e, h1, h2⟩, hi, k => by
    rw [UD.app_l]
    have hj : j < fs.length := by rw [← hi]; exact Nat.mod_lt _ hf
    rw [List.drop_eq_getElem_cons hj] at e
    obtain ⟨e1, e2⟩ := List.cons.inj e
    refine ⟨⟨t, by rw [hi, List.getElem?_eq_getElem hj, e1], h1⟩, ?_⟩
    rw [UD.len_l] at k
    rw [← e2] at h2
    by_cases hl : j + 1 < fs.length
    · exact tyU.row hf h2 (by rw [Nat.add_mod, hi, Nat.mod_eq_of_lt (show 1 < fs.length by omega), Nat.mod_eq_of_lt hl]) (by rw [show i + 1 + r.len = i + (r.len + 1) by omega]; exact k)
    · rw [List.drop_eq_nil_of_le (by omega)] at h2
      rw [tyL.nil h2, UD.app_nil]
      rw [tyL.nil h2] at k
      exact k

/-- a type of the program is flatly these cells; TY: which type a number stands for -/
inductive Flat (P : Program) (TY : Nat → TypeId) (G : Nat → Prop) : TypeId → List UF → Prop where
  | i64 {t : TypeId} : P.underlying t = some (.int .i64) → Flat P TY G t [.i .i64]
  | u8 {t : TypeId} : P.underlying t = some (.int .u8) → Flat P TY G t [.i .u8]
  | str {t : TypeId} : P.underlying t = some .string → Flat P TY G t [.s]
  | bool {t : TypeId} : P.underlying t = some .bool → Flat P TY G t [.b]
  | slice {t : TypeId} (n : Nat) : P.underlying t = some (.slice (TY n)) → G n → P.cellsOf (TY n) = (uE n).length → 0 < (uE n).length → Flat P TY G t [.l (uE n).length n]
  | struct {t : TypeId} {fields : Array Field} (segs : List (List UF)) : P.underlying t = some (.struct fields) → segs.length = fields.size →
      (∀ (i : Nat) (f : Field) (s : List UF), fields[i]? = some f → segs[i]? = some s → Flat P TY G f.type s) → (∀ (i : Nat) (f : Field) (s : List UF), fields[i]? = some f → segs[i]? = some s → P.cellsOf f.type = s.length ∧ f.offset = (segs.take i).flatten.length) → Flat P TY G t segs.flatten

section
variable {H : Type} {enc : TypeId × Value → H} {P : Program} {w : World} {base : Nat} {spare : Nat → Bool} {held : Bool}
theorem open_rows {fs : List UF} (hf : 0 < fs.length) {b off : Nat} : ∀ (m len : Nat), m ≤ len → (∀ i, i < len → ∃ d xs, tyL d fs ∧ uH w 0 w.heap.size d xs ∧ ∀ j c, xs[j]? = some c → w.cell? ⟨b, off + (i * fs.length + j), none⟩ = some c) →
    ∃ cs : UD, tyU cs fs ((len - m) * fs.length) ∧ cs.len = m * fs.length ∧ uM w 0 w.heap.size cs b (off + (len - m) * fs.length)
  | 0, len, _, _ => ⟨.nil, trivial, by simp [UD.len, UD.toL], trivial⟩
  | m + 1, len, hm, h => by
    obtain ⟨cs, h1, h2, h3⟩ := open_rows hf (b := b) (off := off) m len (by omega) h
    obtain ⟨d, xs, g1, g2, g3⟩ := h (len - (m + 1)) (by omega)
    have hl := g1.len
    have e : (len - m) * fs.length = (len - (m + 1)) * fs.length + fs.length := by rw [show len - m = (len - (m + 1)) + 1 by omega, Nat.succ_mul]
    refine ⟨d.app cs, tyU.row hf (j := 0) (by rw [List.drop_zero]; exact g1) (Nat.mul_mod_left _ _) (by rw [hl, ← e]; exact h1), ?_, uM.app (uM.of_hand g2 (fun j c hc => ?_)) ?_⟩
    · have : (d.app cs).len = d.len + cs.len := by unfold UD.len; rw [UD.app_toL, List.length_append]
      rw [this, hl, h2, Nat.succ_mul]; omega
    · rw [← g3 j c hc]; congr 2; omega
    · rw [hl, show off + (len - (m + 1)) * fs.length + fs.length = off + (len - m) * fs.length by rw [e]; omega]; exact h3
theorem openU {TY : Nat → TypeId} {G : Nat → Prop} (HE : ∀ n, G n → Flat P TY G (TY n) (uE n)) : ∀ (fuel : Nat) (t : TypeId) (fs : List UF), Flat P TY G t fs → ∀ (cs : List Value) (x : DataW H × List MemPlace),
    cs.length = fs.length → DataW.trod enc P w base spare held fuel t cs = some x → ∃ d : UD, tyL d fs ∧ uH w 0 w.heap.size d cs := by
  intro fuel
  induction fuel using Nat.strongRecOn with
  | ind fuel ih =>
  intro t fs hF
  induction hF generalizing fuel with
  | i64 ht =>
    intro cs x hl h
    obtain ⟨z, rfl, -, hw⟩ := DataW.trod_int ht h
    have hb : -9223372036854775808 ≤ z ∧ z ≤ 9223372036854775807 := by have h := Go.Joins.in64_of_wf hw; unfold Go.Joins.In64 at h; omega
    exact ⟨.p (.int .i64 z) .nil, ⟨_, _, rfl, ⟨z, rfl, hb⟩, rfl⟩, ⟨_, rfl, rfl⟩⟩
  | u8 ht =>
    intro cs x hl h
    obtain ⟨z, rfl, -, hw⟩ := DataW.trod_int ht h
    have hb : 0 ≤ z ∧ z ≤ 255 := by
      have m1 : IntKind.u8.min = 0 := rfl
      have m2 : IntKind.u8.max = 255 := rfl
      simp [Lit.wf] at hw; omega
    exact ⟨.p (.int .u8 z) .nil, ⟨_, _, rfl, ⟨z, rfl, hb⟩, rfl⟩, ⟨_, rfl, rfl⟩⟩
  | str ht =>
    intro cs x hl h
    obtain ⟨z, rfl, -, hw⟩ := DataW.trod_string ht h
    exact ⟨.p (.string z) .nil, ⟨_, _, rfl, ⟨z, rfl, hw⟩, rfl⟩, ⟨_, rfl, rfl⟩⟩
  | bool ht =>
    intro cs x hl h
    obtain ⟨z, rfl, -⟩ := DataW.trod_bool ht h
    exact ⟨.p (.bool z) .nil, ⟨_, _, rfl, ⟨z, rfl⟩, rfl⟩, ⟨_, rfl, rfl⟩⟩
  | slice n ht hg hc hpos =>
    intro cs x hl h
    rcases DataW.trod_slice ht h with ⟨rfl, -⟩ | ⟨a, len, cap, elems, rest, k, hf, rfl, rfl, hb, hle, hm, hlen, hel, _⟩
    · exact ⟨.l (uE n).length 0 .nil .nil, ⟨n, _, rfl, ⟨hpos, rfl, Nat.zero_le _, by simp [UD.len, UD.toL], trivial⟩, rfl⟩, ⟨_, _, rfl, ⟨none, 0, rfl, ⟨Nat.le_refl _, fun _ => rfl, hpos, by simp [UD.len, UD.toL]⟩, fun h => by cases h⟩, rfl⟩⟩
    · rw [hc] at hel
      rcases Nat.eq_zero_or_pos len with rfl | hp
      · exact ⟨.l (uE n).length 0 .nil .nil, ⟨n, _, rfl, ⟨hpos, rfl, Nat.zero_le _, by simp [UD.len, UD.toL], trivial⟩, rfl⟩, ⟨_, _, rfl, ⟨some a, cap, rfl, ⟨hle, (fun h => by cases h), hpos, by simp [UD.len, UD.toL]⟩, fun h => by cases h⟩, rfl⟩⟩
      have each : ∀ i, i < len → ∃ cs', w.cells? base (a.add (i * (uE n).length)) (uE n).length = some cs' ∧ ∃ d, tyL d (uE n) ∧ uH w 0 w.heap.size d cs' := fun i hi => by
        have key := hel i hi
        rw [List.getElem?_eq_getElem (by omega)] at key
        obtain ⟨cs', h1, h2⟩ := Option.bind_eq_some_iff.1 key
        obtain ⟨_, hlen', _⟩ := World.cells?_some h1
        exact ⟨cs', h1, ih k (by omega) (TY n) (uE n) (HE n hg) cs' _ hlen' h2⟩
      obtain ⟨b, off, spot⟩ := a
      have hspot : spot = none ∧ b < w.heap.size := by
        obtain ⟨cs', h1, _⟩ := each 0 hp
        obtain ⟨_, hlen', hcell⟩ := World.cells?_some h1
        have e0 := hcell 0 (by omega)
        rw [Go.Deep.add_add] at e0
        rw [List.getElem?_eq_getElem (by omega)] at e0
        exact ⟨by simpa [Addr.add] using World.cell?_spot e0, by simpa [Addr.add] using World.block_lt_of_cell? _ _ e0⟩
      obtain ⟨rfl, hbl⟩ := hspot
      obtain ⟨ds, h1, h2, h3⟩ := open_rows (w := w) hpos (b := b) (off := off) len len (Nat.le_refl _) (fun i hi => by
        obtain ⟨cs', h1, d, h2, h3⟩ := each i hi
        refine ⟨d, cs', h2, h3, fun j c hc => ?_⟩
        obtain ⟨_, hlen', hcell⟩ := World.cells?_some h1
        have hj : j < cs'.length := (List.getElem?_eq_some_iff.1 hc).1
        have e0 := hcell j (by omega)
        rw [Go.Deep.add_add, Go.WideShapes.add_plain] at e0
        rw [e0, hc])
      rw [Nat.sub_self, Nat.zero_mul] at h1 h3
      exact ⟨.l (uE n).length len ds .nil, ⟨n, _, rfl, ⟨hpos, rfl, by omega, h2, h1⟩, rfl⟩, ⟨_, _, rfl, ⟨some ⟨b, off, none⟩, cap, rfl, ⟨hle, (fun h => by cases h), hpos, h2⟩, fun _ => ⟨b, off, rfl, Nat.zero_le _, hbl, by simpa using h3⟩⟩, rfl⟩⟩
  | @struct t fields segs ht hs hF hO ihF =>
    intro cs x hl h
    obtain ⟨xs, k, hk, -, hcl, hxl, hf⟩ := DataW.trod_struct ht h
    have key : ∀ m, m ≤ segs.length → ∃ d, tyL d (segs.drop (segs.length - m)).flatten ∧ uH w 0 w.heap.size d (cs.drop (segs.take (segs.length - m)).flatten.length) := by
      intro m
      induction m with
      | zero =>
        intro _
        refine ⟨.nil, ?_, ?_⟩
        · rw [Nat.sub_zero, List.drop_length]; rfl
        · rw [Nat.sub_zero, List.take_length, ← hl, List.drop_length]; rfl
      | succ m ihm =>
        intro hm
        obtain ⟨d, h1, h2⟩ := ihm (by omega)
        have hi : segs.length - (m + 1) < segs.length := by omega
        obtain ⟨fld, hfld⟩ : ∃ fld, fields[segs.length - (m + 1)]? = some fld := ⟨_, Array.getElem?_eq_getElem (by omega)⟩
        have hseg := List.getElem?_eq_getElem hi
        obtain ⟨o1, o2⟩ := hO _ _ _ hfld hseg
        have ht2 := hf _ _ hfld
        rw [List.getElem?_eq_getElem (by rw [hxl, ← hs]; exact hi)] at ht2
        have e1 : segs.length - m = (segs.length - (m + 1)) + 1 := by omega
        have etake : (segs.take (segs.length - m)).flatten.length = (segs.take (segs.length - (m + 1))).flatten.length + (segs[segs.length - (m + 1)]'hi).length := by
          rw [e1, List.take_add_one, hseg, List.flatten_append, List.length_append]; simp
        have hle : (segs.take (segs.length - m)).flatten.length ≤ cs.length := by
          rw [hl]
          have := congrArg (fun l => l.flatten.length) (List.take_append_drop (segs.length - m) segs)
          simp only [List.flatten_append, List.length_append] at this
          omega
        obtain ⟨d1, g1, g2⟩ := ihF _ _ _ hfld hseg k (fun q hq => ih q (by omega)) _ _ (by rw [List.length_take, List.length_drop, o1, o2]; omega) ht2
        refine ⟨d1.app d, ?_, ?_⟩
        · rw [List.drop_eq_getElem_cons hi, List.flatten_cons, show segs.length - (m + 1) + 1 = segs.length - m by omega]
          exact tyL.app g1 h1
        · rw [o1, o2] at g2
          have := uH.app g2 h2
          rw [etake, ← List.drop_drop, List.take_append_drop] at this
          exact this
    obtain ⟨d, h1, h2⟩ := key segs.length (Nat.le_refl _)
    rw [Nat.sub_self, List.drop_zero] at h1
    rw [Nat.sub_self, List.take_zero] at h2
    exact ⟨d, h1, by simpa using h2⟩
end
end Go.Proofs.Ytdnodaoeflbfkaa
