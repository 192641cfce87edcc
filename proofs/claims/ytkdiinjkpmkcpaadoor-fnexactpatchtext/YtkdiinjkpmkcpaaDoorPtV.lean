/- A table of texts, laid: its cells; the tables that a patch's text wants. -/
import Derived.Test.YtkdiinjkpmkcpaaDoorPtI
import Derived.Test.YtkdiinjkpmkcpaaDoorRows
import Derived.Lib.LaidTab
import Derived.Lib.LaidU8
import Derived.OpenShut
import Derived.Lay
namespace Go.Proofs.YtkdiinjkpmkcpaaDoor
open Go.RowKit Go.BigFrame Go.ChangeShapes
set_option linter.unusedVariables false

theorem cells_of_strs {H : Type} {enc : TypeId × Value → H} {P : Program} {w : World} {base : Nat} {sp : Nat → Bool} {held : Bool} {fuel : Nat} {t e : TypeId} {n : Nat} {cs : List Value} {zs : List (List UInt8)} {p : List MemPlace}
    (ht : P.underlying t = some (.array n e)) (he : P.underlying e = some .string) (hce : P.cellsOf e = 1) (hct : P.cellsOf t = n)
    (h : DataW.trod enc P w base sp held fuel t cs = some (.agg (zs.map fun z => .lit (.string z)), p)) : cs = zs.map fun z => Value.string ⟨z.toArray⟩ := by
  cases fuel with
  | zero => simp [DataW.trod] at h
  | succ fuel =>
    simp only [DataW.trod, ht, hce, hct, Nat.mul_one] at h
    split at h
    · rename_i hl
      obtain ⟨xs, hm, hx⟩ := Option.map_eq_some_iff.1 h
      have hxs : xs.map (·.1) = zs.map fun z => (DataW.lit (.string z) : DataW H) := by
        have := congrArg Prod.fst hx
        simpa using this
      have hxl : xs.length = n := by simpa using Lib.mapM_length hm
      have hzl : zs.length = n := by
        have := congrArg List.length hxs
        simp at this
        omega
      apply List.ext_getElem?
      intro i
      by_cases hi : i < n
      · obtain ⟨b, hb, hf⟩ := Lib.mapM_at hm i i (by simp [hi])
        obtain ⟨z, hc, rfl, _⟩ := DataW.trod_string he hf
        have h1 : cs[i]? = some (.string z) := by
          have := congrArg (·[0]?) hc
          simpa [List.getElem?_take, List.getElem?_drop] using this
        have h2 : (xs.map (·.1))[i]? = some (DataW.lit (.string z.data.toList) : DataW H) := by simp [hb]
        rw [hxs] at h2
        simp only [List.getElem?_map, Option.map_eq_some_iff, DataW.lit.injEq, Lit.string.injEq] at h2
        obtain ⟨z', hz', rfl⟩ := h2
        simp [h1, hz']
      · rw [List.getElem?_eq_none (by omega), List.getElem?_eq_none (by simp; omega)]
    · cases h
theorem words_of_reads {W : World} (h : Lib.VarReads Tryd.prog W "loop.example/g00119/impl.opWords" Rows.laid_loop_example_g00119_impl_opWords) : ∀ zi : Nat, 0 < zi → zi < 4 → W.cell? ⟨0, zi, none⟩ = some (.string (wd0 zi)) := by
  obtain ⟨g, t, cs, fuel, p, hg, ht, hv, hd⟩ := h
  obtain rfl : g = (Tryd.prog.globalNamed "loop.example/g00119/impl.opWords").getD 0 := by rw [hg]; rfl
  obtain rfl : t = ((Tryd.prog.globals[(Tryd.prog.globalNamed "loop.example/g00119/impl.opWords").getD 0]?).map (·.type)).getD 0 := by rw [ht]; rfl
  have hcs := cells_of_strs (n := 4) (e := 9) (zs := [[], [115, 101, 116], [100, 114, 111, 112], [110, 101, 101, 100]]) (by kernel_rfl) Tryd.underlying9 (by kernel_rfl) (by kernel_rfl) hd
  intro zi h0 h4
  have := World.var?_cell hg hv zi
  have e : cs[zi]? = cs.toList[zi]? := by simp
  rw [e, hcs] at this
  rw [show (⟨0, zi, none⟩ : Addr) = ⟨(Tryd.prog.globalNamed "loop.example/g00119/impl.opWords").getD 0, zi, none⟩ by rw [show (Tryd.prog.globalNamed "loop.example/g00119/impl.opWords").getD 0 = 0 by kernel_rfl], this]
  match zi, h0, h4 with
  | 1, _, _ => rfl
  | 2, _, _ => rfl
  | 3, _, _ => rfl
theorem tab_of_reads {W : World} (h : Lib.VarReads Tryd.prog W "internal/strconv.uint64pow10" Rows.laid_internal_strconv_uint64pow10) : Lib.TabIs Tryd.prog W "internal/strconv.uint64pow10" .u64 Lib.pow10Tab := by
  obtain ⟨g, t, cs, fuel, p, hg, ht, hv, hd⟩ := h
  obtain rfl : g = (Tryd.prog.globalNamed "internal/strconv.uint64pow10").getD 0 := by rw [hg]; rfl
  obtain rfl : t = ((Tryd.prog.globals[(Tryd.prog.globalNamed "internal/strconv.uint64pow10").getD 0]?).map (·.type)).getD 0 := by rw [ht]; rfl
  unfold Lib.TabIs
  rw [hv, ← Lib.cells_of_tab (n := 20) (e := 66) (k := .u64) (zs := Lib.pow10Tab) (by kernel_rfl) Tryd.underlying66 (by kernel_rfl) (by kernel_rfl) hd]
theorem ptab_of {W : World} (hsh : W.ShapedOpen Tryd.prog) (h1 : Lib.VarReads Tryd.prog W "internal/strconv.uint64pow10" Rows.laid_internal_strconv_uint64pow10) (h2 : Lib.VarReads Tryd.prog W "loop.example/g00119/impl.opWords" Rows.laid_loop_example_g00119_impl_opWords) : PTab W := by
  obtain ⟨m, hm⟩ : ∃ m, W.cell? ⟨1, 0, none⟩ = some (.int .i64 m) := Go.Proofs.cell_of_shapedOpen_int (zero := #[.int .i64 0]) (t := 3) hsh (of_decide_eq_true (by kernel_rfl)) (by kernel_rfl) rfl (by kernel_rfl) (by kernel_rfl) Tryd.underlying3
  exact ⟨⟨m, tab_of_reads h1, hm⟩, words_of_reads h2⟩
/-- the rows' texts -/
theorem patchText_rows (n : Nat) (cs : UD) (ht : tyS 7 n cs 7) : ∃ F : Nat → Bool × ByteArray, (∀ q, q < n → ∀ z0 n1 c1 dv, rowU cs 7 q = .p z0 (.l 1 n1 c1 dv) → vokS dv (F q).1) ∧ (∀ q, q < n → ∀ z0 n1 c1 dv, rowU cs 7 q = .p z0 (.l 1 n1 c1 dv) → vokI dv (F q).1) ∧ ∀ q, q < n → okU (rowU cs 7 q) (F q).1 → RowT cs (fun q => (F q).2) q := by
  have each : ∀ q, q < n → ∃ x : Bool × ByteArray, (∀ z0 n1 c1 dv, rowU cs 7 q = .p z0 (.l 1 n1 c1 dv) → vokS dv x.1) ∧ (∀ z0 n1 c1 dv, rowU cs 7 q = .p z0 (.l 1 n1 c1 dv) → vokI dv x.1) ∧ x.2.size ≤ 76800 ∧ (∀ z0 n1 c1 dv, rowU cs 7 q = .p z0 (.l 1 n1 c1 dv) → x.1 = true → txS dv x.2 ∧ txI dv x.2) := by
    intro q hq
    have htr := ht.row hq
    obtain ⟨z0, r1, e, g0, ht1⟩ := tyL.i htr
    obtain ⟨n1, c1, dv, rfl, g1, htv⟩ := tyL.l ht1
    obtain ⟨x, h1, h2, h3, h4⟩ := val_texts dv htv
    have inj : ∀ {z0' : Value} {n1' : Nat} {c1' dv' : UD}, rowU cs 7 q = .p z0' (.l 1 n1' c1' dv') → dv' = dv := fun h => by rw [e] at h; cases h; rfl
    exact ⟨x, fun _ _ _ _ h => by rw [inj h]; exact h1, fun _ _ _ _ h => by rw [inj h]; exact h2, h3, fun _ _ _ _ h hb => by rw [inj h]; exact h4 hb⟩
  have : Inhabited (Bool × ByteArray) := ⟨(false, ⟨#[]⟩)⟩
  obtain ⟨F, hF⟩ := Go.Deep.choose_lt each
  refine ⟨F, fun q hq => (hF q hq).1, fun q hq => (hF q hq).2.1, fun q hq hok => ⟨(hF q hq).2.2.1, ?_⟩⟩
  have htr := ht.row hq
  obtain ⟨z0, r1, e, g0, ht1⟩ := tyL.i htr
  obtain ⟨n1, c1, dv, rfl, g1, htv⟩ := tyL.l ht1
  rw [e] at hok
  obtain ⟨⟨hn, hnm⟩, hk⟩ : okOp z0 n1 c1 dv (F q).1 := hok
  refine ⟨z0, n1, c1, dv, e, g1, htv, hn, hnm, ?_⟩
  rcases hk with ⟨h1, h2⟩ | ⟨h1, _⟩
  · have := (hF q hq).2.2.2 _ _ _ _ e h2
    exact .inl ⟨h1, this.1, this.2⟩
  · exact .inr h1
end Go.Proofs.YtkdiinjkpmkcpaaDoor
