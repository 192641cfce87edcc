/- A map that the call makes, its keys structs whose first field is a pointer: a key whose pointer none has is not there; stored it is. -/
import Derived.Maps.OwnSet
import Derived.Maps.OwnOps
import Derived.ChangeMaps5
import Derived.ChangeKeysEq
import Derived.Laws.StructEq
import Derived.LaidEql
import Derived.Below
import Derived.OwnWalk
import Derived.Test.YtamlgjmboljcdaaGreatU2
namespace Go.Proofs.YtamlgjmboljcdaaGreat
open Go.ChangeMaps Go.MapKept Go.RowKit
set_option linter.unusedVariables false

/-- a field of a key: a pointer to something that has cells, or a number -/
def ptrFld (P : Program) (t : TypeId) : Prop := ∃ te j, P.underlying t = some (.pointer te) ∧ P.info? te = some j ∧ j.size ≠ 0
def numFld (P : Program) (t : TypeId) : Prop := ∃ q, P.underlying t = some (.int q)
/-- a key type: a struct, its first field a pointer -/
structure PKey (P : Program) (K : TypeId) (f0 : Field) (fs : List Field) : Prop where
  under : ∃ fa : Array Field, P.underlying K = some (.struct fa) ∧ fa.toList = f0 :: fs
  held : P.stoodInHeld K = false
  name : f0.name ≠ "_"
  off : f0.offset = 0
  first : ptrFld P f0.type
  rest : ∀ f ∈ fs, ptrFld P f.type ∨ numFld P f.type

/-- a key's cells: the pointer, and all other fields there -/
def keyCells (fs : List Field) (a : Addr) (xs : Array Value) : Prop := xs[0]? = some (.pointer (some a)) ∧ ∀ f ∈ fs, ∃ v, xs[f.offset]? = some v
/-- a block of plain cells, none of them seen as a text -/
def openBlk (w : World) (g : Nat) : Prop := ∃ cs t, w.heap[g]? = some (.cells cs t (0, 0))

section
variable {P : Program} {K : TypeId} {f0 : Field} {fs : List Field} (w : World)
theorem run_part_fld {t : TypeId} (h : ptrFld P t ∨ numFld P t) {xs : Array Value} {o : Nat} {v : Value} (hx : xs[o]? = some v) : (part t xs o).run P w = .ok v w := by
  rcases h with ⟨te, j, h, _, _⟩ | ⟨q, h⟩ <;> simp [part, isAgg, run_underlying h, hx]
theorem checkKey_fld {t : TypeId} (h : ptrFld P t ∨ numFld P t) (em : Bool) (n : Nat) (v : Value) : (Instr.checkKey em (n + 1) t v).run P w = .ok () w := by
  rw [Instr.checkKey]
  rcases h with ⟨te, j, h, _, _⟩ | ⟨q, h⟩ <;> simp [run_underlying h]
theorem PKey.check (k : PKey P K f0 fs) (em : Bool) {a : Addr} {xs : Array Value} (hk : keyCells fs a xs) : (Instr.checkKey em 10000 K (.agg xs)).run P w = .ok () w := by
  obtain ⟨fa, hu, hl⟩ := k.under
  rw [show (10000 : Nat) = 9999 + 1 from rfl, Instr.checkKey]
  simp only [Sem.run_bind, run_underlying hu, Result.andThen_ok]
  rw [← Array.forIn_toList, hl]
  have each : ∀ f ∈ f0 :: fs, (ptrFld P f.type ∨ numFld P f.type) ∧ ∃ v, xs[f.offset]? = some v := by
    intro f hf
    rcases List.mem_cons.1 hf with rfl | hf
    · exact ⟨.inl k.first, _, by rw [k.off]; exact hk.1⟩
    · exact ⟨k.rest f hf, hk.2 f hf⟩
  clear hl
  generalize f0 :: fs = L at each
  induction L with
  | nil => simp
  | cons f L ih =>
    obtain ⟨h1, v, h2⟩ := each f (.head _)
    simp only [List.forIn_cons, Sem.run_bind, Sem.run_ite]
    split
    · simp only [run_part_fld w h1 h2, Result.andThen_ok, checkKey_fld w h1 em 9998 v, Sem.run_pure]
      exact ih (fun g hg => each g (.tail _ hg))
    · simp only [Sem.run_pure, Result.andThen_ok]
      exact ih (fun g hg => each g (.tail _ hg))
theorem PKey.other (k : PKey P K f0 fs) {a b : Addr} {xs ys : Array Value} (ha : xs[0]? = some (.pointer (some a))) (hb : ys[0]? = some (.pointer (some b))) (hne : a ≠ b) (ho : openBlk w a.block) (ho' : openBlk w b.block) :
    (Op.equal K (.agg xs) (.agg ys)).run P w = .ok false w := by
  obtain ⟨fa, hu, hl⟩ := k.under
  have hfo : P.fieldsOf K = fa := by simp [Program.fieldsOf, hu]
  unfold Op.equal Op.maxDepth
  rw [show (10000 : Nat) = 9999 + 1 from rfl, run_equalIn_struct w 9999 K xs ys (by rw [hfo]; exact hu) k.held, hfo, hl]
  obtain ⟨te, j, h1, h2, h3⟩ := k.first
  obtain ⟨ca, ta, ho⟩ := ho
  obtain ⟨cb, tb, ho'⟩ := ho'
  have hp := k.first
  rw [Op.eqFields, if_pos k.name]
  simp only [Sem.run_bind, k.off, run_part_fld w (.inl hp) ha, run_part_fld w (.inl hp) hb, Result.andThen_ok]
  have he : ∀ d : Nat, (Op.equalIn (d + 1) f0.type (.pointer (some a)) (.pointer (some b))).run P w = .ok false w := fun d => by
    simp [Op.equalIn, run_underlying h1, sizeOf, typeInfo, h2, h3, run_sameAddr_other w hne ho ho']
  rw [he 9998]
  simp [Result.andThen]
/-- all keys of a map have another pointer -/
def noPtr (w : World) (fs : List Field) (a : Addr) (es : List MapEntry) : Prop := ∀ e ∈ es, ∃ b ys, e.key = .agg ys ∧ keyCells fs b ys ∧ a ≠ b ∧ openBlk w b.block
theorem PKey.asking (k : PKey P K f0 fs) {a : Addr} {xs : Array Value} (hk : keyCells fs a xs) (ho : openBlk w a.block) : ∀ (es : List MapEntry) (i : Nat), noPtr w fs a es → (Instr.findAsking K (.agg xs) es i).run P w = .ok none w
  | [], i, _ => by simp [Instr.findAsking]
  | e :: es, i, h => by
    obtain ⟨b, ys, h1, h2, h3, h4⟩ := h e (.head _)
    rw [Instr.findAsking, h1]
    simp only [Sem.run_bind, k.other w hk.1 h2.1 h3 ho h4, Result.andThen_ok]
    exact k.asking hk ho es (i + 1) (fun x hx => h x (.tail _ hx))
theorem PKey.find (k : PKey P K f0 fs) {a : Addr} {xs : Array Value} (hk : keyCells fs a xs) (ho : openBlk w a.block) (es : List MapEntry) (h : noPtr w fs a es) : (Instr.findKey K (.agg xs) es).run P w = .ok none w := by
  obtain ⟨fa, hu, hl⟩ := k.under
  unfold Instr.findKey
  simp only [Sem.run_bind, run_underlying hu, Result.andThen_ok]
  cases es with
  | nil => simp [Instr.findNow]
  | cons e es =>
    rw [Instr.findNow, Instr.sameNow]
    · exact k.asking w hk ho _ _ h
    all_goals (intros; simp_all)
/-- a map's block, none of its keys with that pointer, or any that is to come -/
def PMap (w : World) (fs : List Field) (b : Nat) (ok : Addr → Prop) : Prop := ∃ es clock, w.heap[b]? = some (.map es clock) ∧ ∀ e ∈ es.toList, ∃ c ys, e.key = .agg ys ∧ keyCells fs c ys ∧ ok c ∧ openBlk w c.block
theorem PMap.lt {w : World} {fs : List Field} {b : Nat} {ok : Addr → Prop} (h : PMap w fs b ok) : b < w.heap.size := by
  obtain ⟨es, clock, h, _⟩ := h; exact (Array.getElem?_eq_some_iff.1 h).1
theorem PMap.made (w : World) (fs : List Field) (ok : Addr → Prop) : PMap (w.alloc (.map #[] 0)) fs w.heap.size ok := ⟨#[], 0, heap_alloc_new w _, fun e he => by simp at he⟩
theorem PMap.mono {w : World} {fs : List Field} {b : Nat} {ok ok' : Addr → Prop} (h : PMap w fs b ok) (hm : ∀ c, ok c → ok' c) : PMap w fs b ok' := by
  obtain ⟨es, clock, h1, h2⟩ := h
  exact ⟨es, clock, h1, fun e he => by obtain ⟨c, ys, g1, g2, g3, g4⟩ := h2 e he; exact ⟨c, ys, g1, g2, hm c g3, g4⟩⟩
theorem PMap.frame {w w' : World} {fs : List Field} {b : Nat} {ok : Addr → Prop} (h : PMap w fs b ok) (hb : w'.heap[b]? = w.heap[b]?) (hk : ∀ c, ok c → w'.heap[c.block]? = w.heap[c.block]?) : PMap w' fs b ok := by
  obtain ⟨es, clock, h1, h2⟩ := h
  exact ⟨es, clock, hb.trans h1, fun e he => by
    obtain ⟨c, ys, g1, g2, g3, cs, t, g4⟩ := h2 e he
    exact ⟨c, ys, g1, g2, g3, cs, t, (hk c g3).trans g4⟩⟩
theorem PMap.below {w w' : World} {fs : List Field} {b : Nat} {ok : Addr → Prop} (h : PMap w fs b ok) (hb : Below w.heap.size w w') : PMap w' fs b ok := by
  obtain ⟨es, clock, h1, h2⟩ := h
  exact ⟨es, clock, (hb.block b (Array.getElem?_eq_some_iff.1 h1).1).trans h1, fun e he => by
    obtain ⟨c, ys, g1, g2, g3, cs, t, g4⟩ := h2 e he
    exact ⟨c, ys, g1, g2, g3, cs, t, (hb.block _ (Array.getElem?_eq_some_iff.1 g4).1).trans g4⟩⟩
variable {w}
theorem PMap.look {b : Nat} {ok : Addr → Prop} (h : PMap w fs b ok) (k : PKey P K f0 fs) {t e : TypeId} (ht : P.underlying t = some (.map K e)) {z : Value} (hz : (zeroValue e).run P w = .ok z w) {a : Addr} {xs : Array Value} (hk : keyCells fs a xs) (ho : openBlk w a.block) (hn : ¬ ok a) :
    (Instr.lookup t (.map (some b)) (.agg xs) true).run P w = .ok (.tuple #[z, .bool false]) w := by
  obtain ⟨es, clock, h1, h2⟩ := h
  have hp : noPtr w fs a es.toList := fun e he => by
    obtain ⟨c, ys, g1, g2, g3, g4⟩ := h2 e he
    exact ⟨c, ys, g1, g2, fun hh => hn (hh ▸ g3), g4⟩
  simp [Instr.lookup, run_underlying ht, MapKept.run_getObj_map h1, k.check w _ hk, k.find w hk ho _ hp, hz, Result.andThen]
theorem PMap.store {b : Nat} {ok : Addr → Prop} (h : PMap w fs b ok) (k : PKey P K f0 fs) {t e : TypeId} (ht : P.underlying t = some (.map K e)) {a : Addr} {xs : Array Value} (hk : keyCells fs a xs) (ho : openBlk w a.block) (hn : ¬ ok a) (hab : a.block ≠ b) (val : Value) :
    ∃ w', (Instr.mapUpdate t (.map (some b)) (.agg xs) val).run P w = .ok () w' ∧ PMap w' fs b (fun c => ok c ∨ c = a) ∧ OutS [b] w w' := by
  obtain ⟨es, clock, h1, h2⟩ := h
  have hp : noPtr w fs a es.toList := fun e he => by
    obtain ⟨c, ys, g1, g2, g3, g4⟩ := h2 e he
    exact ⟨c, ys, g1, g2, fun hh => hn (hh ▸ g3), g4⟩
  have hO : ∀ o, OutS [b] w { w with heap := w.heap.setIfInBounds b o } := fun o => ⟨rfl, rfl, rfl, by simp, fun k hk hr => by
    have hne : b ≠ k := fun e => hr (by simp [e])
    simp [hne]⟩
  refine ⟨{ w with heap := w.heap.setIfInBounds b (.map (es.push { key := .agg xs, val := val, born := clock }) (clock + 1)) }, ?_, ⟨_, _, (heap_set h1).1, fun e he => ?_⟩, hO _⟩
  · simp [Instr.mapUpdate, run_underlying ht, MapKept.run_getObj_map h1, k.check w _ hk, k.find w hk ho _ hp, run_setObj_map _ h1, Result.andThen]
  · have old : ∀ c : Addr, c.block ≠ b → openBlk w c.block → openBlk { w with heap := w.heap.setIfInBounds b (.map (es.push { key := .agg xs, val := val, born := clock }) (clock + 1)) } c.block := fun c hc ⟨cs, ty, hh⟩ => ⟨cs, ty, ((heap_set h1).2 _ hc).trans hh⟩
    have nb : ∀ c : Addr, openBlk w c.block → c.block ≠ b := fun c ⟨cs, ty, hh⟩ e => by rw [e, h1] at hh; cases hh
    rw [Array.toList_push, List.mem_append, List.mem_singleton] at he
    rcases he with he | rfl
    · obtain ⟨c, ys, g1, g2, g3, g4⟩ := h2 e he
      exact ⟨c, ys, g1, g2, .inl g3, old c (nb c g4) g4⟩
    · exact ⟨a, xs, rfl, hk, .inr rfl, old a hab ho⟩
end
section
variable {P : Program} {K : TypeId} {f0 : Field} {fs : List Field} (w : World) {ops : Array Oper} {rest : List Oper} {o : Oper} {a : Act} {Q : Exit → Act → World → Prop}
theorem wpList_lookup_ptr (hg : o.guard = none) (m x : Operand) (t : TypeId) (hop : o.op = Op.lookup t m x true) (e : TypeId) (k : PKey P K f0 fs) (ht : P.underlying t = some (.map K e)) {z : Value} (hz : (zeroValue e).run P w = .ok z w)
    (b : Nat) (ok : Addr → Prop) (hm : a.eval m = .map (some b)) (hown : PMap w fs b ok) (ad : Addr) (xs : Array Value) (hx : a.eval x = .agg xs) (hk : keyCells fs ad xs) (ho : openBlk w ad.block) (hn : ¬ ok ad)
    (hK : wpList P ops Q rest (a.put o.dst (.tuple #[z, .bool false])) w) : wpList P ops Q (o :: rest) a w := by
  refine wpList_plain hg fun K' hK' => ?_
  unfold Oper.wp
  simp [execOp, hop, hm, hx, hown.look k ht hz hk ho hn, Result.andThen]
  exact hK' _ _ hK
theorem wpList_update_ptr (hg : o.guard = none) (m x v : Operand) (t : TypeId) (hop : o.op = Op.mapUpdate t m x v) (e : TypeId) (k : PKey P K f0 fs) (ht : P.underlying t = some (.map K e))
    (b : Nat) (ok : Addr → Prop) (hm : a.eval m = .map (some b)) (hown : PMap w fs b ok) (ad : Addr) (xs : Array Value) (hx : a.eval x = .agg xs) (hk : keyCells fs ad xs) (ho : openBlk w ad.block) (hn : ¬ ok ad) (hab : ad.block ≠ b)
    (hK : ∀ w', PMap w' fs b (fun c => ok c ∨ c = ad) → OutS [b] w w' → wpList P ops Q rest (a.put o.dst undef) w') : wpList P ops Q (o :: rest) a w := by
  refine wpList_plain hg fun K' hK' => ?_
  obtain ⟨w', hrun, r1, r2⟩ := hown.store k ht hk ho hn hab (a.eval v)
  unfold Oper.wp
  simp [execOp, hop, hm, hx, hrun, Result.andThen]
  exact hK' _ _ (hK w' r1 r2)
end
end Go.Proofs.YtamlgjmboljcdaaGreat
