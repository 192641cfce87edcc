/- slices.Insert of one label into a row that has room for it. -/
import Derived.Test.YtlbpfcchaobgjaaDoorWith
import Derived.Lib.Overlaps
import Derived.Laws.Externs
namespace Go.Proofs.YtlbpfcchaobgjaaDoor
open Go.RowKit Go.BigFrame
set_option linter.unusedVariables false
theorem wp_copy_run (P : Program) (w : World) {o : Oper} {a : Act} {K : Act → World → Prop} {Q : Exit → Act → World → Prop} (d s : Operand) (t t' : TypeId)
    (ho : o.op = .call { callee := .builtin .copy, args := #[d, s], argTypes := #[t, t'] }) (v u : Value) (hd : a.eval d = v) (hs : a.eval s = u) {v' : Value} {w' : World}
    (hr : (Builtin.copy_ #[t, t'] o.type #[v, u]).run P w = .ok v' w') (h : K (a.put o.dst v') w') : o.wp P a w K Q := by
  unfold Oper.wp execOp
  simp only [ho, resolve, invoke, builtin, Sem.run_bind, Sem.run_pure, Result.andThen_ok, List.map_toArray, List.map_cons, List.map_nil, hd, hs, hr]
  exact h
theorem wpList_copy_run (P : Program) (w : World) {ops : Array Oper} {rest : List Oper} {o : Oper} {a : Act} {Q : Exit → Act → World → Prop} (hgd : o.guard = none) (d s : Operand) (t t' : TypeId)
    (ho : o.op = .call { callee := .builtin .copy, args := #[d, s], argTypes := #[t, t'] }) (v u : Value) (hd : a.eval d = v) (hs : a.eval s = u) {v' : Value} {w' : World}
    (hr : (Builtin.copy_ #[t, t'] o.type #[v, u]).run P w = .ok v' w') (h : wpList P ops Q rest (a.put o.dst v') w') : wpList P ops Q (o :: rest) a w :=
  wpList_plain hgd fun _ hK => wp_copy_run P w d s t t' ho v u hd hs hr (hK _ _ h)
theorem step_copy_run (P : Program) {ops : Array Oper} {o : Oper} {a : Act} {w : World} {K : Act → World → Prop} {Q : Exit → Act → World → Prop} {E : Prop}
    (hg : o.guard = none) (d x : Operand) (dT sT : TypeId) (hop : o.op = Op.call { callee := Callee.builtin Builtin.copy, args := #[d, x], argTypes := #[dT, sT] })
    (v u : Value) (hd : a.eval d = v) (hx : a.eval x = u) {v' : Value} {w' : World} (hr : (Builtin.copy_ #[dT, sT] o.type #[v, u]).run P w = .ok v' w') (hK : K (a.put o.dst v') w') :
    if Region.wanted o (yielded ops a.tmps) = true then Oper.wp P o a w K Q else E := by
  have hw : Region.wanted o (yielded ops a.tmps) = true := by simp [Region.wanted, hg]
  rw [if_pos hw]
  unfold Oper.wp
  simp [execOp, hop, resolve, invoke, builtin, hd, hx, hr, Result.andThen]
  exact hK

theorem ins_cells {α : Type} (A D sp kv : List α) (i m : Nat) (hA : A.length = i * 2) (hD : D.length = m * 2) (hm : 0 < m) (hsp : sp.length = 2) (hkv : kv.length = 2) :
    splice (splice (A ++ D ++ sp) ((i + 1) * 2) D) (i * 2) kv = A ++ (kv ++ D) := by
  have e1 : (A ++ D ++ sp).drop ((i + 1) * 2 + D.length) = [] := List.drop_eq_nil_of_le (by simp only [List.length_append]; omega)
  have hl : ((A ++ D ++ sp).take ((i + 1) * 2)).length = (i + 1) * 2 := by rw [List.length_take]; simp only [List.length_append]; omega
  unfold splice
  rw [e1, List.append_nil, hkv]
  have e2 : ((A ++ D ++ sp).take ((i + 1) * 2) ++ D).take (i * 2) = A := by
    rw [List.take_append_of_le_length (by omega), List.take_take, Nat.min_eq_left (by omega), List.append_assoc, List.take_append_of_le_length (by omega), List.take_of_length_le (by omega)]
  have e3 : ((A ++ D ++ sp).take ((i + 1) * 2) ++ D).drop (i * 2 + 2) = D := by
    rw [show i * 2 + 2 = ((A ++ D ++ sp).take ((i + 1) * 2)).length from by omega, List.drop_left]
  rw [e2, e3]

set_option maxRecDepth 100000 in
set_option maxHeartbeats 1600000 in
theorem insMid_any (g h hc i : Nat) (ls : List (ByteArray × ByteArray)) (K V : ByteArray) (sp : List Value) (w : World) (hn : ls.length ≤ 1048576) (hi : i < ls.length) (hgh : h ≠ g) (hsp : sp.length = 2)
    (hg : w.heap[g]? = some (.cells (flat ls ++ sp).toArray 33 (0, 0))) (hv : w.heap[h]? = some (.cells #[.string K, .string V] 33 (0, 0))) :
    Calls Tryd.prog 70 #[.slice (some ⟨g, 0, none⟩) ls.length (ls.length + 1), .int .i64 i, .slice (some ⟨h, 0, none⟩) 1 hc] w fun e w' =>
      e = .returned (.slice (some ⟨g, 0, none⟩) (ls.length + 1) (ls.length + 1)) ∧ w'.heap[g]? = some (.cells (flat (ls.take i ++ (K, V) :: ls.drop i)).toArray 33 (0, 0)) ∧ ExB w.heap.size g w w' := by
  have hz2 : ((i : Int) == (ls.length : Int)) = false := by rw [beq_eq_false_iff_ne]; omega
  have hov : ∀ lb cb, (callFunc 87 #[.slice (some ⟨h, 0, none⟩) 1 hc, .slice (some ⟨g, (i + 1) * 2, none⟩) lb cb]).run Tryd.prog w = .ok (.value (.bool false)) w := fun lb cb => by
    rw [run_callFunc_extern Tryd.func87 (by kernel_rfl) (by kernel_rfl) (by kernel_rfl) (e := Extern.SlicesOverlaps.overlaps #[24, 24] #[4]) (by kernel_rfl),
      Lib.run_overlaps_apart w 24 4 33 Tryd.underlying24 2 (fun w => by kernel_rfl) ⟨h, 0, none⟩ ⟨g, (i + 1) * 2, none⟩ 1 hc lb cb hgh 33 33 2 ((ls.length + 1) * 2) (by simp [World.shape?, hv]) (by simp [World.shape?, hg, flat_length, hsp]; omega) (by omega) (by simp [World.frozen?, hv]) (by simp [World.frozen?, hv])]
    rfl
  have hw1 : IntKind.i64.wrap ((i : Int) + 1) = (i : Int) + 1 := by rw [IntKind.wrap_i64]; omega
  have hb1 : (0 : Int) ≤ (i : Int) + 1 := by omega
  have hin : i ≤ ls.length := by omega
  have htn : ((i : Int) + 1).toNat = i + 1 := by omega
  have hb3 : (i : Int) ≤ (ls.length : Int) + 1 := by omega
  have hb5 : (i : Int) + 1 ≤ (ls.length : Int) + 1 := by omega
  have hb2 : ¬ (ls.length + 1 = i + 1) := by omega
  have hb6 : ¬ (ls.length = i) := by omega
  have hb4 : ¬ (ls.length + 1 = i) := by omega
  have hfl := flat_length ls
  have hdl := flat_length (ls.drop i)
  rw [List.length_drop] at hdl
  have Hmid : Hid (flat ls = flat (ls.take i) ++ flat (ls.drop i)) := by show _ = _; rw [← flat_append, List.take_append_drop]
  have htl : (flat (ls.take i)).length = i * 2 := by rw [flat_length, List.length_take]; omega
  obtain ⟨X1, hX1⟩ : ∃ X1, X1 = splice (flat ls ++ sp) ((i + 1) * 2) (flat (ls.drop i)) := ⟨_, rfl⟩
  have hX1l : X1.length = (ls.length + 1) * 2 := by rw [hX1, length_splice _ _ _ (by rw [List.length_append, hfl, hdl, hsp]; omega), List.length_append, hfl, hsp]; omega
  have hsrc : ∀ j v, (flat (ls.drop i))[j]? = some v → w.cell? ((⟨g, i * 2, none⟩ : Addr).add j) = some v := fun j v hj => by
    rw [Go.WideShapes.add_plain, cell_of_row w g _ _ _ (0, 0) hg]
    rw [List.getElem?_toArray, Hmid.out, List.append_assoc, List.getElem?_append_right (by rw [htl]; omega), htl, List.getElem?_append_left (by have := (List.getElem?_eq_some_iff.1 hj).1; omega)]
    rw [← hj]; congr 1; omega
  have hcp1 : ∀ ty dc sc, (Builtin.copy_ #[24, 24] ty #[.slice (some ⟨g, (i + 1) * 2, none⟩) (ls.length - i) dc, .slice (some ⟨g, i * 2, none⟩) (ls.length + 1 - i) sc]).run Tryd.prog w.drew = .ok (goInt ((ls.length - i : Nat) : Int)) (w.drew.setRow g X1.toArray) := fun ty dc sc => by
    have := run_copy_k Tryd.prog w.drew 24 24 ty 33 2 g ((i + 1) * 2) (ls.length - i) dc ⟨g, i * 2, none⟩ (ls.length + 1 - i) sc (flat ls ++ sp).toArray 33 (flat (ls.drop i)) Tryd.underlying24 Tryd.size44 hg (ls.length - i) (by simp only [Nat.min_def]; split <;> omega) hdl hsrc (by simp only [List.size_toArray, List.length_append]; rw [hfl, hdl, hsp]; omega) (flat_cell _)
    rw [this, hX1]
    simp [splice]
  obtain ⟨W1, hW1⟩ : ∃ W1, W1 = w.drew.setRow g X1.toArray := ⟨_, rfl⟩
  have hg1 : W1.heap[g]? = some (.cells X1.toArray 33 (0, 0)) := by rw [hW1]; exact setRow_heap w.drew g _ _ _ _ hg
  have hv1 : W1.heap[h]? = some (.cells #[.string K, .string V] 33 (0, 0)) := by rw [hW1, setRow_other w.drew g h _ hgh]; exact hv
  obtain ⟨X2, hX2⟩ : ∃ X2, X2 = splice X1 (i * 2) [.string K, .string V] := ⟨_, rfl⟩
  have hcp2 : ∀ (W : World), W.heap = W1.heap → ∀ ty dc, (Builtin.copy_ #[24, 24] ty #[.slice (some ⟨g, i * 2, none⟩) (ls.length + 1 - i) dc, .slice (some ⟨h, 0, none⟩) 1 hc]).run Tryd.prog W = .ok (goInt ((1 : Nat) : Int)) (W.setRow g X2.toArray) := fun W hW ty dc => by
    have := run_copy_k Tryd.prog W 24 24 ty 33 2 g (i * 2) (ls.length + 1 - i) dc ⟨h, 0, none⟩ 1 hc X1.toArray 33 [.string K, .string V] Tryd.underlying24 Tryd.size44 (by rw [hW]; exact hg1) 1 (by simp only [Nat.min_def]; split <;> omega) rfl
      (World.news_of_block (by rw [hW]; exact hv1)) (by simp only [List.size_toArray]; rw [hX1l]; simp; omega) (fun x hx => by simp at hx; rcases hx with rfl | rfl <;> rfl)
    rw [this, hX2]
    simp [splice]
  rw [← hW1] at hcp1
  have Hcp2 := hide hcp2
  have HW1 := hide hW1
  have Hg1 := hide hg1
  have HX2 := hide hX2
  clear hcp2 hW1 hg1 hv1 hX2
  have Hg := hide hg
  have Hv := hide hv
  have HX1 := hide hX1
  have HX1l := hide hX1l
  have Hcp1 := hide hcp1
  clear hg hv hX1 hX1l hsrc hfl hdl htl hcp1
  go_enter Tryd.func70, Tryd.ntmps70
  go_wp2_with (simp only [hov])
  go_region_law (refine step_copy_run _ rfl (.tmp 73) (.tmp 76) 24 24 rfl _ _ (by simp [Act.eval, Act.put]) (by simp [Act.eval, Act.put]) (Hcp1.out _ (ls.length - i) (ls.length + 1 - i)) ?_)
  all_goals go_wp2_with (refine wpList_copy_run _ _ rfl (.tmp 80) (.tmp 81) 24 24 rfl _ _ rfl rfl (Hcp2.out _ rfl _ _) ?_)
  all_goals go_ret
  have HX : Hid (X2 = flat (ls.take i ++ (K, V) :: ls.drop i)) := by
    show _ = _
    rw [HX2.out, HX1.out, Hmid.out, ins_cells _ _ sp [.string K, .string V] i (ls.length - i) (by rw [flat_length, List.length_take]; omega) (by rw [flat_length, List.length_drop]) (by omega) hsp rfl, flat_append]
    rfl
  rw [← HX.out]
  refine ⟨rfl, setRow_heap _ _ _ _ _ _ Hg1.out, ?_⟩
  rw [HW1.out]
  exact ⟨rfl, rfl, rfl, (by simp [World.setRow]), fun k hk hkg => by rw [setRow_other _ _ _ _ hkg, setRow_other _ _ _ _ hkg]; rfl⟩
end Go.Proofs.YtlbpfcchaobgjaaDoor
