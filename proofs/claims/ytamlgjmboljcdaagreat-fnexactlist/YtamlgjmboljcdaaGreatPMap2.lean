/- A map keyed by structs of a pointer and a number: what is stored is found again. -/
import Derived.Test.YtamlgjmboljcdaaGreatPMap
namespace Go.Proofs.YtamlgjmboljcdaaGreat
open Go.ChangeMaps Go.MapKept Go.RowKit
set_option linter.unusedVariables false

section
variable {P : Program} {K : TypeId} {f0 f1 : Field} (w : World)
theorem PKey.self (k : PKey P K f0 [f1]) (hn : numFld P f1.type) (ho : f1.offset = 1) (hm : f1.name ≠ "_") (a : Addr) (z : Int) :
    (Op.equal K (.agg #[.pointer (some a), .int .i64 z]) (.agg #[.pointer (some a), .int .i64 z])).run P w = .ok true w := by
  obtain ⟨fa, hu, hl⟩ := k.under
  have hfo : P.fieldsOf K = fa := by simp [Program.fieldsOf, hu]
  unfold Op.equal Op.maxDepth
  rw [show (10000 : Nat) = 9999 + 1 from rfl, run_equalIn_struct w 9999 K _ _ (by rw [hfo]; exact hu) k.held, hfo, hl]
  obtain ⟨te, j, h1, h2, h3⟩ := k.first
  obtain ⟨q, h4⟩ := hn
  have e0' : ∀ d : Nat, (Op.equalIn (d + 1) f0.type (.pointer (some a)) (.pointer (some a))).run P w = .ok true w := fun d => by simp [Op.equalIn, run_underlying h1, sizeOf, typeInfo, h2, run_sameAddr_same]
  have e0 := e0' 9998
  have e1' : ∀ d : Nat, (Op.equalIn (d + 1) f1.type (.int .i64 z) (.int .i64 z)).run P w = .ok true w := fun d => by rw [run_equalIn_int w d f1.type _ _ z z h4]; simp
  have e1 := e1' 9998
  have p0 : (part f0.type #[.pointer (some a), .int .i64 z] f0.offset).run P w = .ok (.pointer (some a)) w := run_part_fld w (.inl k.first) (by rw [k.off]; rfl)
  have p1 : (part f1.type #[.pointer (some a), .int .i64 z] f1.offset).run P w = .ok (.int .i64 z) w := run_part_fld w (.inr ⟨q, h4⟩) (by rw [ho]; rfl)
  rw [Op.eqFields, if_pos k.name]
  simp only [Sem.run_bind, p0, Result.andThen_ok, e0]
  rw [Op.eqFields, if_pos hm]
  simp [p1, e1, Result.andThen, Op.eqFields]
theorem PKey.askingLast (k : PKey P K f0 [f1]) (hn : numFld P f1.type) (hof : f1.offset = 1) (hm : f1.name ≠ "_") {a : Addr} {z : Int} (ho : openBlk w a.block) (val : Value) (born : Nat) : ∀ (es : List MapEntry) (i : Nat), noPtr w [f1] a es →
    (Instr.findAsking K (.agg #[.pointer (some a), .int .i64 z]) (es ++ [{ key := .agg #[.pointer (some a), .int .i64 z], val := val, born := born }]) i).run P w = .ok (some (i + es.length, val)) w
  | [], i, _ => by
    rw [List.nil_append, Instr.findAsking]
    simp [k.self w hn hof hm]
  | e :: es, i, h => by
    obtain ⟨b, ys, h1, h2, h3, h4⟩ := h e (.head _)
    rw [List.cons_append, Instr.findAsking, h1]
    simp only [Sem.run_bind, k.other w (xs := #[.pointer (some a), .int .i64 z]) rfl h2.1 h3 ho h4, Result.andThen_ok]
    have := k.askingLast hn hof hm ho val born es (i + 1) (fun x hx => h x (.tail _ hx)) (z := z)
    rw [List.length_cons, show i + (es.length + 1) = i + 1 + es.length by omega]
    exact this
/-- the key that was stored last, and what stands there -/
def PMapV (w : World) (f1 : Field) (b : Nat) (ok : Addr → Prop) (a : Addr) (z : Int) (val : Value) : Prop :=
  ∃ (es : Array MapEntry) (clock born : Nat), w.heap[b]? = some (.map (es.push { key := .agg #[.pointer (some a), .int .i64 z], val := val, born := born }) clock) ∧ openBlk w a.block ∧ ¬ ok a ∧ ∀ e ∈ es.toList, ∃ c ys, e.key = .agg ys ∧ keyCells [f1] c ys ∧ ok c ∧ openBlk w c.block
variable {w}
theorem PMapV.below {w' : World} {b : Nat} {ok : Addr → Prop} {a : Addr} {z : Int} {val : Value} (h : PMapV w f1 b ok a z val) (hb : Below w.heap.size w w') : PMapV w' f1 b ok a z val := by
  obtain ⟨es, clock, born, h1, ⟨cs, t, h2⟩, h3, h4⟩ := h
  refine ⟨es, clock, born, (hb.block b (Array.getElem?_eq_some_iff.1 h1).1).trans h1, ⟨cs, t, (hb.block _ (Array.getElem?_eq_some_iff.1 h2).1).trans h2⟩, h3, fun e he => ?_⟩
  obtain ⟨c, ys, g1, g2, g3, cs, t, g4⟩ := h4 e he
  exact ⟨c, ys, g1, g2, g3, cs, t, (hb.block _ (Array.getElem?_eq_some_iff.1 g4).1).trans g4⟩
theorem PMapV.map {b : Nat} {ok : Addr → Prop} {a : Addr} {z : Int} {val : Value} (ho : f1.offset = 1) (h : PMapV w f1 b ok a z val) : PMap w [f1] b (fun c => ok c ∨ c = a) := by
  obtain ⟨es, clock, born, h1, h2, h3, h4⟩ := h
  refine ⟨_, clock, h1, fun e he => ?_⟩
  rw [Array.toList_push, List.mem_append, List.mem_singleton] at he
  rcases he with he | rfl
  · obtain ⟨c, ys, g1, g2, g3, g4⟩ := h4 e he
    exact ⟨c, ys, g1, g2, .inl g3, g4⟩
  · exact ⟨a, _, rfl, ⟨rfl, fun f hf => by simp at hf; subst hf; exact ⟨.int .i64 z, by rw [ho]; rfl⟩⟩, .inr rfl, h2⟩
theorem PMapV.look (k : PKey P K f0 [f1]) (hn : numFld P f1.type) (hof : f1.offset = 1) (hm : f1.name ≠ "_") {b : Nat} {ok : Addr → Prop} {a : Addr} {z : Int} {val : Value} (h : PMapV w f1 b ok a z val) {t e : TypeId} (ht : P.underlying t = some (.map K e)) (cok : Bool) :
    (Instr.lookup t (.map (some b)) (.agg #[.pointer (some a), .int .i64 z]) cok).run P w = .ok (if cok then .tuple #[val, .bool true] else val) w := by
  obtain ⟨es, clock, born, h1, h2, h3, h4⟩ := h
  have hp : noPtr w [f1] a es.toList := fun e he => by
    obtain ⟨c, ys, g1, g2, g3, g4⟩ := h4 e he
    exact ⟨c, ys, g1, g2, fun hh => h3 (hh ▸ g3), g4⟩
  have hk : keyCells [f1] a #[.pointer (some a), .int .i64 z] := ⟨rfl, fun f hf => by simp at hf; subst hf; exact ⟨.int .i64 z, by rw [hof]; rfl⟩⟩
  have hf : (Instr.findKey K (.agg #[.pointer (some a), .int .i64 z]) (es.push { key := .agg #[.pointer (some a), .int .i64 z], val := val, born := born }).toList).run P w = .ok (some (es.toList.length, val)) w := by
    obtain ⟨fa, hu, hl⟩ := k.under
    have hq := k.askingLast w hn hof hm h2 val born es.toList 0 hp (z := z)
    rw [Nat.zero_add] at hq
    rw [Array.toList_push]
    unfold Instr.findKey
    simp only [Sem.run_bind, run_underlying hu, Result.andThen_ok]
    generalize hE : es.toList ++ [_] = E at hq ⊢
    cases E with
    | nil => simp at hE
    | cons e E =>
      rw [Instr.findNow, Instr.sameNow]
      · exact hq
      all_goals (intros; simp_all)
  rw [Array.toList_push] at hf
  simp [Instr.lookup, run_underlying ht, MapKept.run_getObj_map h1, k.check w _ hk, hf, Result.andThen]
theorem PMap.storeV {b : Nat} {ok : Addr → Prop} (h : PMap w [f1] b ok) (k : PKey P K f0 [f1]) (hof : f1.offset = 1) {t e : TypeId} (ht : P.underlying t = some (.map K e)) {a : Addr} {z : Int} (ho : openBlk w a.block) (hn : ¬ ok a) (hab : a.block ≠ b) (val : Value) :
    ∃ w', (Instr.mapUpdate t (.map (some b)) (.agg #[.pointer (some a), .int .i64 z]) val).run P w = .ok () w' ∧ PMapV w' f1 b ok a z val ∧ OutS [b] w w' := by
  obtain ⟨es, clock, h1, h2⟩ := h
  have hp : noPtr w [f1] a es.toList := fun e he => by
    obtain ⟨c, ys, g1, g2, g3, g4⟩ := h2 e he
    exact ⟨c, ys, g1, g2, fun hh => hn (hh ▸ g3), g4⟩
  have hk : keyCells [f1] a #[.pointer (some a), .int .i64 z] := ⟨rfl, fun f hf => by simp at hf; subst hf; exact ⟨.int .i64 z, by rw [hof]; rfl⟩⟩
  have hO : ∀ o, OutS [b] w { w with heap := w.heap.setIfInBounds b o } := fun o => ⟨rfl, rfl, rfl, by simp, fun k hk hr => by
    have hne : b ≠ k := fun e => hr (by simp [e])
    simp [hne]⟩
  have old : ∀ (o : Obj) (c : Addr), c.block ≠ b → openBlk w c.block → openBlk { w with heap := w.heap.setIfInBounds b o } c.block := fun o c hc ⟨cs, ty, hh⟩ => ⟨cs, ty, ((heap_set h1).2 _ hc).trans hh⟩
  have nb : ∀ c : Addr, openBlk w c.block → c.block ≠ b := fun c ⟨cs, ty, hh⟩ e => by rw [e, h1] at hh; cases hh
  refine ⟨{ w with heap := w.heap.setIfInBounds b (.map (es.push { key := .agg #[.pointer (some a), .int .i64 z], val := val, born := clock }) (clock + 1)) }, ?_, ⟨es, _, clock, (heap_set h1).1, old _ a hab ho, hn, fun e he => ?_⟩, hO _⟩
  · simp [Instr.mapUpdate, run_underlying ht, MapKept.run_getObj_map h1, k.check w _ hk, k.find w hk ho _ hp, run_setObj_map _ h1, Result.andThen]
  · obtain ⟨c, ys, g1, g2, g3, g4⟩ := h2 e he
    exact ⟨c, ys, g1, g2, g3, old _ c (nb c g4) g4⟩
end
section
variable {P : Program} {K : TypeId} {f0 f1 : Field} (w : World) {ops : Array Oper} {rest : List Oper} {o : Oper} {a : Act} {Q : Exit → Act → World → Prop}
theorem wpList_update_put (hg : o.guard = none) (m x v : Operand) (t : TypeId) (hop : o.op = Op.mapUpdate t m x v) (e : TypeId) (k : PKey P K f0 [f1]) (hof : f1.offset = 1) (ht : P.underlying t = some (.map K e))
    (b : Nat) (ok : Addr → Prop) (hm : a.eval m = .map (some b)) (hown : PMap w [f1] b ok) (ad : Addr) (z : Int) (hx : a.eval x = .agg #[.pointer (some ad), .int .i64 z]) (ho : openBlk w ad.block) (hn : ¬ ok ad) (hab : ad.block ≠ b)
    (hK : ∀ w', PMapV w' f1 b ok ad z (a.eval v) → OutS [b] w w' → wpList P ops Q rest (a.put o.dst undef) w') : wpList P ops Q (o :: rest) a w := by
  refine wpList_plain hg fun K' hK' => ?_
  obtain ⟨w', hrun, r1, r2⟩ := hown.storeV k hof ht (z := z) ho hn hab (a.eval v)
  unfold Oper.wp
  simp [execOp, hop, hm, hx, hrun, Result.andThen]
  exact hK' _ _ (hK w' r1 r2)
theorem wpList_lookup_put (hg : o.guard = none) (m x : Operand) (t : TypeId) (hop : o.op = Op.lookup t m x false) (e : TypeId) (k : PKey P K f0 [f1]) (hnf : numFld P f1.type) (hof : f1.offset = 1) (hnm : f1.name ≠ "_") (ht : P.underlying t = some (.map K e))
    (b : Nat) (ok : Addr → Prop) (hm : a.eval m = .map (some b)) (ad : Addr) (z : Int) (val : Value) (hown : PMapV w f1 b ok ad z val) (hx : a.eval x = .agg #[.pointer (some ad), .int .i64 z])
    (hK : wpList P ops Q rest (a.put o.dst val) w) : wpList P ops Q (o :: rest) a w := by
  refine wpList_plain hg fun K' hK' => ?_
  unfold Oper.wp
  have := hown.look k hnf hof hnm ht false
  simp [execOp, hop, hm, hx, this, Result.andThen]
  exact hK' _ _ hK
end
end Go.Proofs.YtamlgjmboljcdaaGreat
