import Derived.Test.YtlbpfcchaobgjaaDoorTxtI
import Derived.Test.YtlbpfcchaobgjaaDoorRows
import Derived.Lib.LaidTab
import Derived.Lib.LaidU8
import Derived.ChangeSame
import Derived.OpenShut
import Derived.Lay
namespace Go.Proofs.YtlbpfcchaobgjaaDoor
open Go.ChangeShapes Go.WideShapes Go.ChangeAt Go.RowKit
set_option linter.unusedVariables false
/-! from what is laid to the walks' facts -/
theorem tab_of_reads {W : World} (h : Lib.VarReads Tryd.prog W "internal/strconv.uint64pow10" Rows.laid_internal_strconv_uint64pow10) : Lib.TabIs Tryd.prog W "internal/strconv.uint64pow10" .u64 Lib.pow10Tab := by
  obtain ⟨g, t, cs, fuel, p, hg, ht, hv, hd⟩ := h
  obtain rfl : g = (Tryd.prog.globalNamed "internal/strconv.uint64pow10").getD 0 := by rw [hg]; rfl
  obtain rfl : t = ((Tryd.prog.globals[(Tryd.prog.globalNamed "internal/strconv.uint64pow10").getD 0]?).map (·.type)).getD 0 := by rw [ht]; rfl
  unfold Lib.TabIs
  rw [hv, ← Lib.cells_of_tab (n := 20) (e := 146) (k := .u64) (zs := Lib.pow10Tab) (by kernel_rfl) Tryd.underlying146 (by kernel_rfl) (by kernel_rfl) hd]
theorem unit_at {W : World} {cs : Array Value} {fuel : Nat} {ds : List (DataW Unit)} {p : List MemPlace} (hd : DataW.trod (fun _ => ()) Tryd.prog W 0 (fun _ => true) false fuel 90 cs.toList = some (.agg ds, p)) (i : Nat) (hi : i < 8)
    (b : List UInt8) (z : Int) (he : ds[i]? = some (.agg [.lit (.string b), .lit (.int .i64 z)])) : cs[i * 2]? = some (.string ⟨b.toArray⟩) ∧ cs[i * 2 + 1]? = some (.int .i64 z) := by
  have hc : Tryd.prog.cellsOf 89 = 2 := by kernel_rfl
  have hcs : Tryd.prog.cellsOf 9 = 1 := by kernel_rfl
  have hci : Tryd.prog.cellsOf 3 = 1 := by kernel_rfl
  obtain ⟨f1, d, q, h1, h2⟩ := Lib.array_elem Tryd.underlying90 hd i hi
  rw [h1] at he
  cases he
  rw [hc] at h2
  obtain ⟨y0, y1, m, hx, hl, g0, g1⟩ := trod_struct2 Tryd.underlying89 h2
  obtain ⟨s, e0, r0, _⟩ := DataW.trod_string Tryd.underlying9 g0
  obtain ⟨n, e1, r1, _⟩ := DataW.trod_int Tryd.underlying3 g1
  simp only [hcs, List.drop_zero] at e0
  simp only [hci] at e1
  rw [r0, r1] at hx
  simp only [Prod.mk.injEq, DataW.agg.injEq, List.cons.injEq, DataW.lit.injEq, Lit.string.injEq, Lit.int.injEq, and_true, true_and] at hx
  obtain ⟨⟨rfl, rfl⟩, _⟩ := hx
  have t0 : ∀ j v (l : List Value), List.take 1 (List.drop j l) = [v] → l[j]? = some v := fun j v l h => by
    have := congrArg (fun q => q[0]?) h
    simpa using this
  have c0 := t0 0 _ _ (by rw [List.drop_zero]; exact e0)
  have c1 := t0 1 _ _ e1
  rw [List.getElem?_take_of_lt (by omega), List.getElem?_drop] at c0 c1
  rw [Array.getElem?_toList] at c0 c1
  exact ⟨c0, c1⟩
theorem units_of_reads {W : World} (h : Lib.VarReads Tryd.prog W "loop.example/g00119/impl.amountUnits" Rows.laid_loop_example_g00119_impl_amountUnits) : Units W := by
  obtain ⟨g, t, cs, fuel, p, hg, ht, hv, hd⟩ := h
  obtain rfl : g = 0 := (Option.some.inj ((show Tryd.prog.globalNamed "loop.example/g00119/impl.amountUnits" = some 0 by kernel_rfl).symm.trans hg)).symm
  obtain rfl : t = 90 := (Option.some.inj ((show (Tryd.prog.globals[0]?).map (·.type) = some 90 by kernel_rfl).symm.trans ht)).symm
  have hc := fun i => World.var?_cell hg hv i
  unfold Rows.laid_loop_example_g00119_impl_amountUnits at hd
  obtain ⟨a0, a1⟩ := unit_at hd 0 (by decide) [71, 105] 1073741824000 rfl
  obtain ⟨a2, a3⟩ := unit_at hd 1 (by decide) [77, 105] 1048576000 rfl
  obtain ⟨a4, a5⟩ := unit_at hd 2 (by decide) [75, 105] 1024000 rfl
  obtain ⟨a6, a7⟩ := unit_at hd 3 (by decide) [] 1000 rfl
  obtain ⟨a8, a9⟩ := unit_at hd 4 (by decide) [109] 1 rfl
  obtain ⟨a10, a11⟩ := unit_at hd 5 (by decide) [107] 1000000 rfl
  obtain ⟨a12, a13⟩ := unit_at hd 6 (by decide) [77] 1000000000 rfl
  obtain ⟨a14, a15⟩ := unit_at hd 7 (by decide) [71] 1000000000000 rfl
  exact ⟨(hc 0).trans a0, (hc 1).trans a1, (hc 2).trans a2, (hc 3).trans a3, (hc 4).trans a4, (hc 5).trans a5, (hc 6).trans a6, (hc 7).trans a7, (hc 8).trans a8, (hc 9).trans a9, (hc 10).trans a10, (hc 11).trans a11, (hc 12).trans a12, (hc 13).trans a13, (hc 14).trans a14, (hc 15).trans a15⟩
end Go.Proofs.YtlbpfcchaobgjaaDoor
