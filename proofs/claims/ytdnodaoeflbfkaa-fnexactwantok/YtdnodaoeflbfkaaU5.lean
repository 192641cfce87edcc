/- Data as cells: structs of many cells, loaded and stored whole; copying field by field, each step one law. -/
import Derived.Test.YtdnodaoeflbfkaaU2
import Derived.Test.YtdnodaoeflbfkaaU3
import Derived.Test.YtdnodaoeflbfkaaULd
import Derived.Deep.MidRow
import Derived.Laws.Rows
namespace Go.Proofs.Ytdnodaoeflbfkaa
open Go.RowKit Go.BigFrame
set_option linter.unusedVariables false

theorem OutS.setCells {b : Nat} : ∀ (vs : List Value) (o : Nat) (w : World), OutS [b] w (w.setCells b o vs)
  | [], o, w => OutS.refl _ _
  | v :: r, o, w => ((OutS.refl [b] w).setCell (p := ⟨b, o, none⟩) (by simp) v).trans (OutS.setCells r (o + 1) _)
theorem objU.there {w : World} {b : Nat} {t : TypeId} {xs : List Value} (h : objU w b t xs) (o n : Nat) (hn : o + n ≤ xs.length) : w.there b o n := fun j hj =>
  ⟨by rw [h.cell (o + j) xs[o + j] (List.getElem?_eq_getElem (by omega))]; rfl, h.fz _⟩
theorem objU.range {w : World} {b : Nat} {t : TypeId} {xs : List Value} (h : objU w b t xs) (o : Nat) (ys : List Value) (hy : ∀ j v, ys[j]? = some v → xs[o + j]? = some v) : w.rangeAt b o ys := fun j v hv => h.cell _ _ (hy j v hv)
theorem objU.whole {w : World} {b : Nat} {t : TypeId} {xs : List Value} (h : objU w b t xs) : w.rangeAt b 0 xs := h.range 0 xs (fun j v hv => by rw [Nat.zero_add]; exact hv)
theorem objU.setCells {b : Nat} {t : TypeId} : ∀ (ys zs : List Value) (pre post : List Value) (w : World), objU w b t (pre ++ (zs ++ post)) → zs.length = ys.length → objU (w.setCells b pre.length ys) b t (pre ++ (ys ++ post))
  | [], zs, pre, post, w, h, hl => by
    have : zs = [] := List.eq_nil_of_length_eq_zero hl
    subst this
    exact h
  | y :: ys, [], pre, post, w, h, hl => by cases hl
  | y :: ys, z :: zs, pre, post, w, h, hl => by
    have h1 := h.set pre.length y
    have e1 : (pre ++ (z :: zs ++ post)).set pre.length y = (pre ++ [y]) ++ (zs ++ post) := by
      rw [List.set_append_right _ _ (Nat.le_refl _), Nat.sub_self]; simp
    rw [e1] at h1
    have h2 := objU.setCells ys zs (pre ++ [y]) post _ h1 (by simpa using hl)
    rw [World.setCells]
    have e2 : (pre ++ [y]).length = pre.length + 1 := by simp
    rw [e2] at h2
    have e3 : pre ++ [y] ++ (ys ++ post) = pre ++ (y :: ys ++ post) := by simp
    rw [e3] at h2
    exact h2
/-- loads and stores, each a step; the value and the place said by the caller -/
theorem wpList_load_one {P : Program} {ops : Array Oper} {rest : List Oper} {o : Oper} {a : Act} {w : World} {Q : Exit → Act → World → Prop} (hgd : o.guard = none) (t : TypeId) (x : Operand) (ho : o.op = .load t x)
    (b j : Nat) (hx : a.eval x = .pointer (some ⟨b, j, none⟩)) (v : Value) (hu : (P.underlying t).map TypeDesc.isRow = some false) (hc : w.cell? ⟨b, j, none⟩ = some v) (h : wpList P ops Q rest (a.put o.dst v) w) : wpList P ops Q (o :: rest) a w := by
  refine wpList_load_eq hgd t x ho ⟨b, j, none⟩ hx v ?_ h
  cases hd : P.underlying t with
  | none => rw [hd] at hu; cases hu
  | some d =>
    rw [hd] at hu
    have hagg : (isAgg t).run P w = .ok false w := by
      unfold isAgg
      rw [Sem.run_bind, run_underlying hd w]
      cases d <;> simp_all [TypeDesc.isRow]
    simp only [Instr.loadAt, Instr.sureAddr, Sem.run_bind, Sem.run_pure, Result.andThen_ok, loadVar, hagg, Bool.false_eq_true, if_false, run_load, hc]
theorem load_row_eq {P : Program} {t : TypeId} {b j : Nat} {w : World} {ys : List Value} (hu : (P.underlying t).map TypeDesc.isRow = some true) (hi : (P.info? t).map (·.size) = some ys.length) (hr : w.rangeAt b j ys) : Sem.run P (Instr.loadAt t (.pointer (some ⟨b, j, none⟩))) w = .ok (.agg ys.toArray) w := by
  cases hd : P.underlying t with
  | none => rw [hd] at hu; cases hu
  | some d =>
    rw [hd] at hu
    exact run_loadAt_mid w b j t ys d hr hd (by simpa using hu) hi
theorem wpList_load_row2 {P : Program} {ops : Array Oper} {rest : List Oper} {o : Oper} {a : Act} {w : World} {Q : Exit → Act → World → Prop} (hgd : o.guard = none) (t : TypeId) (x : Operand) (ho : o.op = .load t x)
    (b j : Nat) (hx : a.eval x = .pointer (some ⟨b, j, none⟩)) (ys : List Value) (hu : (P.underlying t).map TypeDesc.isRow = some true) (hi : (P.info? t).map (·.size) = some ys.length) (hr : w.rangeAt b j ys) (h : wpList P ops Q rest (a.put o.dst (.agg ys.toArray)) w) : wpList P ops Q (o :: rest) a w :=
  wpList_load_eq hgd t x ho ⟨b, j, none⟩ hx _ (load_row_eq hu hi hr) h
theorem yieldsIf_load_row {P : Program} {ops : Array Oper} {S : World → Prop} {op : Oper} {a : Act} (hw : Region.wanted op (yielded ops a.tmps) = true) (t : TypeId) (x : Operand) (ho : op.op = .load t x)
    (b o : Nat) (hx : a.eval x = .pointer (some ⟨b, o, none⟩)) (ys : List Value) (hS : ∀ w, S w → w.rangeAt b o ys)
    (hu : (P.underlying t).map TypeDesc.isRow = some true) (hi : (P.info? t).map (·.size) = some ys.length) : YieldsIf P ops S op (.agg ys.toArray) a := by
  cases hd : P.underlying t with
  | none => rw [hd] at hu; cases hu
  | some d =>
    rw [hd] at hu
    exact yieldsIf_load_mid hw t x ho b o hx ys d hS hd (by simpa using hu) hi
theorem run_storeAt_cells {P : Program} {w : World} {b j : Nat} {t : TypeId} {v : Value} {ys : List Value} (hv : v.cells = ys.toArray) (h1 : ∀ u ∈ ys, u.oneCell' = true) (hi : (P.info? t).map (·.size) = some ys.length) (ht : w.there b j ys.length) :
    (Instr.storeAt t (.pointer (some ⟨b, j, none⟩)) v).run P w = .ok () (w.setCells b j ys) := by
  have := run_storeCells_cells (P := P) b j ys 0 w (fun q hq => by simpa using (ht q hq).1) (fun q hq => by simpa using (ht q hq).2) h1
  cases hq : P.info? t with
  | none => simp [hq] at hi
  | some i =>
    have hs : ys.length = i.size := by simp [hq] at hi; omega
    simp only [Nat.add_zero] at this
    simp [Instr.storeAt, Instr.sureAddr, storeVar, sizeOf, typeInfo, hq, hv, hs, this]
/-- behind a store the world is a letter -/
def Behind (φ : World → Prop) (w : World) : Prop := ∀ w', w' = w → φ w'
theorem wpList_store_cells {P : Program} {ops : Array Oper} {rest : List Oper} {o : Oper} {a : Act} {w : World} {Q : Exit → Act → World → Prop} (hgd : o.guard = none) (t : TypeId) (x y : Operand) (ho : o.op = .store t x y) (hd : o.dst = none)
    (b j : Nat) (hx : a.eval x = .pointer (some ⟨b, j, none⟩)) (v : Value) (hy : a.eval y = v) (ys : List Value) (hv : v.cells = ys.toArray) (h1 : ∀ u ∈ ys, u.oneCell' = true) (hi : (P.info? t).map (·.size) = some ys.length) (ht : w.there b j ys.length)
    (h : Behind (wpList P ops Q rest a) (w.setCells b j ys)) : wpList P ops Q (o :: rest) a w := by
  refine wpList_plain hgd fun K hK => ?_
  unfold Oper.wp execOp
  simp only [ho, hx, hy, Sem.run_bind, run_storeAt_cells hv h1 hi ht, Result.andThen_ok]
  exact hK _ _ (by rw [hd]; exact h _ rfl)
theorem one1 {v : Value} (h : v.oneCell' = true) : ∀ u ∈ [v], u.oneCell' = true := fun u hu => by simp at hu; subst hu; exact h
theorem one_int {k : IntKind} {z : Int} : (Value.int k z).oneCell' = true := rfl
theorem one_string {z : ByteArray} : (Value.string z).oneCell' = true := rfl
theorem one_bool {z : Bool} : (Value.bool z).oneCell' = true := rfl
theorem one_slice {a : Option Addr} {n p : Nat} : (Value.slice a n p).oneCell' = true := rfl
theorem cells_one {v : Value} (h : v.oneCell' = true) : v.cells = [v].toArray := by cases v <;> first | rfl | cases h
theorem wpList_store_v {P : Program} {ops : Array Oper} {rest : List Oper} {o : Oper} {a : Act} {w : World} {Q : Exit → Act → World → Prop} (hgd : o.guard = none) (t : TypeId) (x y : Operand) (ho : o.op = .store t x y) (hd : o.dst = none)
    (b j : Nat) (hx : a.eval x = .pointer (some ⟨b, j, none⟩)) (v : Value) (hy : a.eval y = v) (h1 : v.oneCell' = true) (hi : (P.info? t).map (·.size) = some 1) (ht : w.there b j 1)
    (h : Behind (wpList P ops Q rest a) (w.setCells b j [v])) : wpList P ops Q (o :: rest) a w :=
  wpList_store_cells hgd t x y ho hd b j hx v hy [v] (cells_one h1) (one1 h1) hi ht h
theorem ones_own {w : World} : ∀ {d : UD} {fs : List UF} {xs : List Value} {S : List Nat}, tyL d fs → oH w d xs S → ∀ u ∈ xs, u.oneCell' = true
  | .nil, _, _, _, _, h, u, hu => by rw [h.1] at hu; cases hu
  | .p v r, _, _, S, ⟨f, fr, e, h1, h2⟩, ⟨ys, e2, h⟩, u, hu => by
    subst e2
    rcases List.mem_cons.1 hu with rfl | hu
    · cases f with
      | i k => obtain ⟨z, rfl, _⟩ := h1; rfl
      | s => obtain ⟨z, rfl, _⟩ := h1; rfl
      | b => obtain ⟨z, rfl⟩ := h1; rfl
      | l k t => cases h1
    · exact ones_own h2 h u hu
  | .l k n cs r, _, _, _, ⟨t, fr, e, h1, h2⟩, ⟨c, ys, S1, S2, e2, eS, hk, ⟨t', zs, g1, g2⟩, h⟩, u, hu => by
    subst e2
    rcases List.mem_cons.1 hu with rfl | hu
    · obtain ⟨a, cap, rfl⟩ := uowns_slice g1; rfl
    · exact ones_own h2 h u hu
theorem cells_agg {ys : List Value} : (Value.agg ys.toArray).cells = ys.toArray := rfl

/-- where the copying of a struct, field by field, stands: j cells are copied, dd is what they are -/
def CP (w0 w : World) (A R O : Nat) (TA TO : TypeId) (AX Z : List Value) (dd : UD) (j : Nat) : Prop :=
  ∃ done S, objU w A TA AX ∧ objU w R TO Z ∧ objU w O TO (done ++ Z.drop j) ∧ done.length = j ∧ oH w dd done S ∧ own2 S (O + 1) w.heap.size ∧ Below w0.heap.size w0 w ∧ w0.heap.size ≤ A ∧ A < O ∧ w0.heap.size ≤ R ∧ R < O ∧ O < w.heap.size
theorem CP.start {w : World} {TA TO : TypeId} {AX Z : List Value} : CP w (((w.alloc (.cells AX.toArray TA)).alloc (.cells Z.toArray TO)).alloc (.cells Z.toArray TO)) w.heap.size (w.heap.size + 1) (w.heap.size + 1 + 1) TA TO AX Z .nil 0 := by
  refine ⟨[], [], ((objU.new2 _ _ rfl).old _).old _, (objU.new2 _ _ (by simp)).old _, ?_, rfl, oH.nil _, own2.nil _ _, (((Below.refl _ _).alloc (Nat.le_refl _) _).alloc (by simp) _).alloc (by simp; omega) _, Nat.le_refl _, by omega, by omega, by omega, by simp⟩
  simpa using objU.new2 (w := (w.alloc (.cells AX.toArray TA)).alloc (.cells Z.toArray TO)) TO Z (b := w.heap.size + 1 + 1) (by simp)
theorem CP.below {w0 w w' : World} {A R O : Nat} {TA TO : TypeId} {AX Z : List Value} {dd : UD} {j : Nat} (h : CP w0 w A R O TA TO AX Z dd j) (hb : Below w.heap.size w w') : CP w0 w' A R O TA TO AX Z dd j := by
  obtain ⟨done, S, h1, h2, h3, h4, h5, h6, h7, h8, h9, h10, h11, h12⟩ := h
  exact ⟨done, S, h1.below hb, h2.below hb, h3.below hb, h4, h5.below hb, h6.mono (Nat.le_refl _) hb.size, h7.trans (hb.mono h7.size), h8, h9, h10, h11, Nat.lt_of_lt_of_le h12 hb.size⟩
theorem CP.bel {w0 w : World} {A R O : Nat} {TA TO : TypeId} {AX Z : List Value} {dd : UD} {j : Nat} (h : CP w0 w A R O TA TO AX Z dd j) : Below w0.heap.size w0 w := by
  obtain ⟨done, S, h1, h2, h3, h4, h5, h6, h7, _⟩ := h; exact h7
theorem CP.cell {w0 w : World} {A R O : Nat} {TA TO : TypeId} {AX Z : List Value} {dd : UD} {j : Nat} (h : CP w0 w A R O TA TO AX Z dd j) {q : Nat} {v : Value} (hv : AX[q]? = some v) : w.cell? ⟨A, q, none⟩ = some v := by
  obtain ⟨done, S, h1, _⟩ := h; exact h1.cell q v hv
theorem CP.range {w0 w : World} {A R O : Nat} {TA TO : TypeId} {AX Z : List Value} {dd : UD} {j : Nat} (h : CP w0 w A R O TA TO AX Z dd j) {q : Nat} {ys : List Value} (hv : ∀ i v, ys[i]? = some v → AX[q + i]? = some v) : w.rangeAt A q ys := by
  obtain ⟨done, S, h1, _⟩ := h; exact h1.range q ys hv
theorem CP.there {w0 w : World} {A R O : Nat} {TA TO : TypeId} {AX Z : List Value} {dd : UD} {j : Nat} (h : CP w0 w A R O TA TO AX Z dd j) (n : Nat) (hn : j + n ≤ Z.length) : w.there O j n := by
  obtain ⟨done, S, h1, h2, h3, h4, _⟩ := h
  exact h3.there j n (by rw [List.length_append, List.length_drop, h4]; omega)
/-- cells are stored behind those that are copied: ys came of a call that ended in w1 (or w1 is w, where it is plain) -/
theorem CP.step {w0 w w1 : World} {A R O : Nat} {TA TO : TypeId} {AX Z : List Value} {dd : UD} {j : Nat} (h : CP w0 w A R O TA TO AX Z dd j) (hb : Below w.heap.size w w1) {dp : UD} {ys : List Value} {T : List Nat} (ho : oH w1 dp ys T) (hT : own2 T w.heap.size w1.heap.size) {w' : World} (e : w' = w1.setCells O j ys) {j' : Nat} (hj : j' = j + ys.length) (hn : j' ≤ Z.length) : CP w0 w' A R O TA TO AX Z (dd.app dp) j' := by
  have hlt := h
  obtain ⟨done, S, h1, h2, h3, h4, h5, h6, h7, h8, h9, h10, h11, h12⟩ := h.below hb
  obtain ⟨done', S', g1, g2, g3, g4, g5, g6, g7, g8, g9, g10, g11, g12⟩ := hlt
  subst e hj
  have hout : OutS [O] w1 (w1.setCells O j ys) := OutS.setCells ys j w1
  have hS' : ∀ s ∈ S', s < w.heap.size := g5.lt _ _ _
  refine ⟨done' ++ ys, S' ++ T, (g1.below hb).outS hout (by simp; omega), (g2.below hb).outS hout (by simp; omega), ?_, by rw [List.length_append, g4], oH.app ((g5.below hb).outS hout (fun g hg hx => ?_)) (ho.outS hout (fun g hg hx => ?_)), ?_, ?_, h8, h9, h10, h11, ?_⟩
  · have e1 : Z.drop j = (Z.drop j).take ys.length ++ Z.drop (j + ys.length) := by rw [← List.drop_drop]; exact (List.take_append_drop _ _).symm
    have g3' := g3.below hb
    rw [e1] at g3'
    have := objU.setCells ys ((Z.drop j).take ys.length) done' (Z.drop (j + ys.length)) w1 g3' (by rw [List.length_take, List.length_drop]; omega)
    rw [g4] at this
    rw [List.append_assoc]; exact this
  · simp at hx; have := g6.2 g hg; omega
  · simp at hx; have := hT.2 g hg; omega
  · have hsz := hout.size
    exact (g6.app hT (Nat.le_refl _) (by omega) hb.size).mono (Nat.le_refl _) hsz
  · exact h7.trans (hout.below (B := w0.heap.size) (fun t ht => by simp at ht; omega) h7.size)
  · exact Nat.lt_of_lt_of_le h12 hout.size
theorem CP.plain {w0 w : World} {A R O : Nat} {TA TO : TypeId} {AX Z : List Value} {dd : UD} {j : Nat} (h : CP w0 w A R O TA TO AX Z dd j) {v : Value} {w' : World} (e : w' = w.setCells O j [v]) {j' : Nat} (hj : j' = j + 1) (hn : j' ≤ Z.length) : CP w0 w' A R O TA TO AX Z (dd.app (.p v .nil)) j' :=
  h.step (Below.refl _ _) (oH.consP v (oH.nil _)) (own2.nil _ _) e hj hn
theorem CP.list {w0 w w1 : World} {A R O : Nat} {TA TO : TypeId} {AX Z : List Value} {dd : UD} {j : Nat} (h : CP w0 w A R O TA TO AX Z dd j) (hb : Below w.heap.size w w1) {k n : Nat} {cs : UD} {c : Value} {T : List Nat} (ho : oS w1 k n cs c T) (hT : own2 T w.heap.size w1.heap.size) {w' : World} (e : w' = w1.setCells O j [c]) {j' : Nat} (hj : j' = j + 1) (hn : j' ≤ Z.length) : CP w0 w' A R O TA TO AX Z (dd.app (.l k n cs .nil)) j' := by
  have := oH.consS ho (oH.nil _)
  rw [List.append_nil] at this
  exact h.step hb this hT e hj hn
/-- all is copied -/
theorem CP.fin {w0 w : World} {A R O : Nat} {TA TO : TypeId} {AX Z : List Value} {dd : UD} {j : Nat} (h : CP w0 w A R O TA TO AX Z dd j) {D : UD} (hD : dd = D) (hj : j = Z.length) : ∃ done S, Hid (w.rangeAt O 0 done) ∧ done.length = j ∧ Hid (w.there R 0 done.length) ∧ oH w D done S ∧ ∀ w', w' = w.setCells R 0 done → objU w' R TO done ∧ oH w' D done S ∧ S.Nodup ∧ (∀ s ∈ S, w0.heap.size ≤ s) ∧ Below w0.heap.size w0 w' := by
  subst hD
  obtain ⟨done, S, h1, h2, h3, h4, h5, h6, h7, h8, h9, h10, h11, h12⟩ := h
  have e0 : Z.drop j = [] := List.drop_eq_nil_of_le (by omega)
  rw [e0, List.append_nil] at h3
  refine ⟨done, S, h3.whole, h4, h2.there 0 _ (by omega), h5, fun w' e => ?_⟩
  subst e
  have hout : OutS [R] w (w.setCells R 0 done) := OutS.setCells done 0 w
  have h2' := objU.setCells done Z [] [] w (by simpa using h2) (by omega)
  refine ⟨by simpa using h2', h5.outS hout (fun g hg hx => ?_), h6.1, fun s hs => by have := h6.2 s hs; omega, h7.trans (hout.below (B := w0.heap.size) (fun t ht => by simp at ht; omega) h7.size)⟩
  simp at hx; have := h6.2 g hg; omega
theorem results_row {P : Program} {fn : Func} {p : Tmp} {ty : TypeId} (h : fn.results = #[.cell p ty]) (tmps : Array Value) (w : World) (g : Nat) (t : TypeId) (ys : List Value)
    (hp : tmps.getD p undef = .pointer (some ⟨g, 0, none⟩)) (hg : objU w g t ys) (hu : (P.underlying ty).map TypeDesc.isRow = some true) (hi : (P.info? ty).map (·.size) = some ys.length) :
    (results fn tmps).run P w = .ok (.agg ys.toArray) w := by
  cases hd : P.underlying ty with
  | none => rw [hd] at hu; cases hu
  | some d =>
    rw [hd] at hu
    exact results_cell_row h tmps w g t ys.toArray (0, 0) d hp hg hd (by cases d <;> simp_all [TypeDesc.isRow]) (by simpa using hi)

/-! rows of structs -/
theorem wSet_eq : ∀ (ys : List Value) (w : World) (g i : Nat), w.setCells g i ys = wSet w g i ys
  | [], w, g, i => rfl
  | y :: ys, w, g, i => by rw [World.setCells, wSet, wSet_eq ys]
theorem range_below {w w' : World} {b o : Nat} {xs : List Value} (h : w.rangeAt b o xs) (hb : Below w.heap.size w w') : w'.rangeAt b o xs := fun j v hv =>
  (hb.cell (p := ⟨b, o + j, none⟩) (World.block_lt_of_cell? _ _ (h j v hv))).trans (h j v hv)
theorem TS.there {w0 w : World} {e : TypeId} {k n : Nat} {cs : UD} {q : Nat} (h : TS w0 w e k n cs q) (p m : Nat) (hm : p + m ≤ n * k) : w.there w0.heap.size p m := fun j hj => by
  obtain ⟨v, hv⟩ := h.cell (p + j) (by omega)
  exact ⟨by rw [hv]; rfl, h.fz _⟩
theorem TS.row {w0 w w2 w' : World} {e : TypeId} {k n : Nat} {cs : UD} {q : Nat} (h : TS w0 w e k n cs q) (hb : Below w.heap.size w w2) {ys : List Value} {T : List Nat} (ho : oH w2 (rowU cs k q) ys T) (hnd : T.Nodup) (hT : ∀ t ∈ T, w.heap.size ≤ t) (hl : cs.len = n * k) (hq : q < n) (e' : w' = w2.setCells w0.heap.size (q * k) ys) : TS w0 w' e k n cs (q + 1) := by
  subst e'
  rw [wSet_eq]
  exact h.step hb ho hnd hT hl hq
theorem MS.there {w0 w : World} {e : TypeId} {k n : Nat} {cap : Nat} {g : Nat} {cs : UD} {j0 : Nat} {S : List Nat} {xs0 : List Value} {i : Nat} (h : MS w0 w e k n (.slice (some ⟨g, 0, none⟩) n cap) g cs j0 S xs0 i) (p : Nat) (hn : p < n * k) : w.there g p 1 := fun j hj => by
  obtain ⟨xs, h1, _⟩ := h
  have : j = 0 := by omega
  subst this
  exact ⟨by rw [Nat.add_zero, h1.cellAt p hn, List.getElem?_eq_getElem (by rw [h1.1]; exact hn)]; rfl, h1.frozenAt p⟩
theorem setCells_one (w : World) (b o : Nat) (v : Value) : w.setCells b o [v] = w.setCell ⟨b, o, none⟩ v := by rw [World.setCells, World.setCells]
theorem MS.cellS {w0 wx wy : World} {e : TypeId} {k n : Nat} {cap : Nat} {g : Nat} {cs : UD} {j0 : Nat} {S : List Nat} {xs0 : List Value} {i i' : Nat} (h : MS w0 wx e k n (.slice (some ⟨g, 0, none⟩) n cap) g cs j0 S xs0 i) {v u : Value} (he : cs.at? i = some (.p v)) {m : Nat} (hc : j0 + cnt (cs.takeN i) = m) (hu : u = mkP m v) (ey : wy = wx.setCells g i [u]) (hi : i' = i + 1) : MS w0 wy e k n (.slice (some ⟨g, 0, none⟩) n cap) g cs j0 S xs0 i' := by
  subst hi ey hc
  rw [setCells_one]
  exact h.plain he hu
theorem at_row {cs : UD} {K q : Nat} {R : UD} (hR : rowU cs K q = R) {j : Nat} {e : UE} (hj : j < K) (h : R.at? j = some e) : cs.at? (q * K + j) = some e := by
  rw [← rowU_at cs K q j hj, hR]; exact h
theorem ct_next {cs : UD} {k0 i m : Nat} {e : UE} (hc : k0 + cnt (cs.takeN i) = m) (h : cs.at? i = some e) : k0 + cnt (cs.takeN (i + 1)) = m + cntE e := by
  rw [cnt_succ cs i e h, ← Nat.add_assoc, hc]
theorem ct_end {cs : UD} {k0 q K m : Nat} (h : k0 + cnt (cs.takeN (q * K + K)) = m) : k0 + cnt (cs.takeN ((q + 1) * K)) = m := by
  rw [Nat.succ_mul]; exact h
/-! structs taken apart -/
theorem at_mid {pre ys post AX : List Value} {j i : Nat} {v : Value} (hA : AX = pre ++ (ys ++ post)) (hj : pre.length = j) (h : ys[i]? = some v) : AX[j + i]? = some v := by
  subst hA hj
  have hi := (List.getElem?_eq_some_iff.1 h).1
  rw [List.getElem?_append_right (by omega), List.getElem?_append_left (by omega), ← h]
  congr 1; omega
theorem tyL.split : ∀ {d : UD} {f1 f2 : List UF}, tyL d (f1 ++ f2) → ∃ d1 d2, d = d1.app d2 ∧ tyL d1 f1 ∧ tyL d2 f2
  | d, [], f2, h => ⟨.nil, d, (UD.app_nil d).symm, rfl, h⟩
  | .nil, f :: fr, f2, h => by cases h
  | .p v r, f :: fr, f2, h => by
    obtain ⟨g, gr, e, h1, h2⟩ := h
    cases e
    obtain ⟨d1, d2, rfl, h3, h4⟩ := tyL.split (f1 := fr) (f2 := f2) h2
    exact ⟨.p v d1, d2, (UD.app_p v d1 d2).symm, ⟨_, _, rfl, h1, h3⟩, h4⟩
  | .l k n cs r, f :: fr, f2, h => by
    obtain ⟨t, gr, e, h1, h2⟩ := h
    cases e
    obtain ⟨d1, d2, rfl, h3, h4⟩ := tyL.split (f1 := fr) (f2 := f2) h2
    exact ⟨.l k n cs d1, d2, (UD.app_l k n cs d1 d2).symm, ⟨_, _, rfl, h1, h3⟩, h4⟩
theorem uH.split {w : World} {lo hi : Nat} : ∀ {d1 d2 : UD} {xs : List Value}, uH w lo hi (d1.app d2) xs → ∃ x1 x2, xs = x1 ++ x2 ∧ x1.length = d1.len ∧ uH w lo hi d1 x1 ∧ uH w lo hi d2 x2
  | .nil, d2, xs, h => ⟨[], xs, rfl, rfl, rfl, by rw [UD.app_nil] at h; exact h⟩
  | .p v r, d2, xs, h => by
    rw [UD.app_p] at h
    obtain ⟨ys, rfl, h⟩ := h
    obtain ⟨x1, x2, rfl, hl, h1, h2⟩ := uH.split h
    exact ⟨v :: x1, x2, rfl, by rw [UD.len_p, ← hl]; rfl, ⟨x1, rfl, h1⟩, h2⟩
  | .l k n cs r, d2, xs, h => by
    rw [UD.app_l] at h
    obtain ⟨c, ys, rfl, hc, h⟩ := h
    obtain ⟨x1, x2, rfl, hl, h1, h2⟩ := uH.split h
    exact ⟨c :: x1, x2, rfl, by rw [UD.len_l, ← hl]; rfl, ⟨c, x1, rfl, hc, h1⟩, h2⟩
theorem UD.app_assoc (a b c : UD) : (a.app b).app c = a.app (b.app c) := by apply UD.ext; simp only [UD.app_toL, List.append_assoc]
theorem UD.app_nil_r (a : UD) : a.app .nil = a := by apply UD.ext; rw [UD.app_toL]; simp [UD.toL]
theorem tyL_cast {a b : UD} {fs : List UF} (e : a = b) (h : tyL a fs) : tyL b fs := e ▸ h
theorem oH_cast {w : World} {a b : UD} {xs : List Value} {S : List Nat} (e : a = b) (h : oH w b xs S) : oH w a xs S := e ▸ h
theorem mk_app : ∀ (a b : UD) (j : Nat), mk (a.app b) j = (mk a j).app (mk b (j + cnt a))
  | .nil, b, j => by rw [UD.app_nil]; simp only [mk, cnt, Nat.add_zero, UD.app_nil]
  | .p v r, b, j => by rw [UD.app_p, mk, mk, UD.app_p, mk_app r, cnt]; congr 2; congr 1; omega
  | .l k n cs r, b, j => by rw [UD.app_l, mk, mk, UD.app_l, mk_app r, cnt]; congr 2; congr 1; omega
theorem mkT_app : ∀ (a b : UD) (j : Nat), mkT (a.app b) j = (mkT a j).app (mkT b (j + cntT a))
  | .nil, b, j => by rw [UD.app_nil]; simp only [mkT, cntT, Nat.add_zero, UD.app_nil]
  | .p v r, b, j => by rw [UD.app_p, mkT, mkT, UD.app_p, mkT_app r, cntT]
  | .l k n cs r, b, j => by rw [UD.app_l, mkT, mkT, UD.app_l, mkT_app r, cntT]; congr 2; congr 1; omega
theorem cntT_app : ∀ (a b : UD), cntT (a.app b) = cntT a + cntT b
  | .nil, b => by rw [UD.app_nil]; simp [cntT]
  | .p v r, b => by rw [UD.app_p, cntT, cntT, cntT_app r]
  | .l k n cs r, b => by rw [UD.app_l, cntT, cntT, cntT_app r]; omega
end Go.Proofs.Ytdnodaoeflbfkaa
