/- The copier of lists: what it asks of its map, in regions that draw; what it answers. -/
import Derived.Test.YtamlgjmboljcdaaGreatHCs
import Derived.Test.YtamlgjmboljcdaaGreatU5
import Derived.OrdersHeld
import Derived.Deep.RegionHeld3
import Derived.Maps.AppendAt
import Derived.Deep.CutRange
import Derived.OwnWalk
namespace Go.Proofs.YtamlgjmboljcdaaGreat
open Go.RowKit Go.BigFrame Go.ChangeMaps Go.MapKept
set_option linter.unusedVariables false

section
variable {P : Program} {K : TypeId} {f0 f1 : Field} (w : World) {ops : Array Oper} {rest : List Oper} {o : Oper} {a : Act}
theorem yieldsIf_lookup_none {fs : List Field} {S : World → Prop} (hw : Region.wanted o (yielded ops a.tmps) = true) (m x : Operand) (t : TypeId) (hop : o.op = Op.lookup t m x true) (e : TypeId) (k : PKey P K f0 fs) (ht : P.underlying t = some (.map K e)) {z : Value} (hz : ∀ w, (zeroValue e).run P w = .ok z w)
    (b : Nat) (ok : Addr → Prop) (hm : a.eval m = .map (some b)) (ad : Addr) (xs : Array Value) (hx : a.eval x = .agg xs) (hk : keyCells fs ad xs) (hn : ¬ ok ad) (hS : ∀ w, S w → PMap w fs b ok ∧ openBlk w ad.block) : YieldsIf P ops S o (.tuple #[z, .bool false]) a :=
  .inl ⟨hw, fun w hs => by simp [execOp, hop, hm, hx, (hS w hs).1.look k ht (hz w) hk (hS w hs).2 hn, Result.andThen]⟩
theorem yieldsIf_lookup_put {S : World → Prop} (hw : Region.wanted o (yielded ops a.tmps) = true) (m x : Operand) (t : TypeId) (hop : o.op = Op.lookup t m x false) (e : TypeId) (k : PKey P K f0 [f1]) (hnf : numFld P f1.type) (hof : f1.offset = 1) (hnm : f1.name ≠ "_") (ht : P.underlying t = some (.map K e))
    (b : Nat) (ok : Addr → Prop) (hm : a.eval m = .map (some b)) (ad : Addr) (z : Int) (val : Value) (hx : a.eval x = .agg #[.pointer (some ad), .int .i64 z]) (hS : ∀ w, S w → PMapV w f1 b ok ad z val) : YieldsIf P ops S o val a :=
  .inl ⟨hw, fun w hs => by
    have := (hS w hs).look k hnf hof hnm ht false
    simp [execOp, hop, hm, hx, this, Result.andThen]⟩
/-- a store into a map, at a step of a region that draws -/
theorem step_update_put {K1 : Act → World → Prop} {E : Prop} {Q : Exit → Act → World → Prop} (hw : Region.wanted o (yielded ops a.tmps) = true) (m x v : Operand) (t : TypeId) (hop : o.op = Op.mapUpdate t m x v) (e : TypeId) (k : PKey P K f0 [f1]) (hof : f1.offset = 1) (ht : P.underlying t = some (.map K e))
    (b : Nat) (ok : Addr → Prop) (hm : a.eval m = .map (some b)) (hown : PMap w [f1] b ok) (ad : Addr) (z : Int) (hx : a.eval x = .agg #[.pointer (some ad), .int .i64 z]) (ho : openBlk w ad.block) (hn : ¬ ok ad) (hab : ad.block ≠ b)
    (hK : ∀ w', PMapV w' f1 b ok ad z (a.eval v) → OutS [b] w w' → K1 (a.put o.dst undef) w') : if Region.wanted o (yielded ops a.tmps) = true then Oper.wp P o a w K1 Q else E := by
  rw [if_pos hw]
  obtain ⟨w', hrun, r1, r2⟩ := hown.storeV k hof ht (z := z) ho hn hab (a.eval v)
  unfold Oper.wp
  simp [execOp, hop, hm, hx, hrun, Result.andThen]
  exact hK w' r1 r2
end
/-- append of a list that came in (or of nil) behind a row of one's own, at a step of a region that draws -/
theorem step_append_rows {P : Program} {w : World} {ops : Array Oper} {o : Oper} {a : Act} {K : Act → World → Prop} {Q : Exit → Act → World → Prop} {E : Prop} (hgd : o.guard = none) (s x : Operand) (t : TypeId)
    (ho : o.op = .call { callee := .builtin .append, args := #[s, x], argTypes := #[t, t] })
    (base : Nat) (e : TypeId) (i : TypeInfo) (z : Value) (size bytes : Nat) (ht : P.underlying t = some (.slice e)) (hi : P.info? e = some i) (hz : i.zero = some z)
    (hsize : i.size = size) (hby : i.bytes = bytes) (hzs : z.cells.size = size) (hsz : 0 < size)
    (v : Value) (n : Nat) (xs : List Value) (hs : a.eval s = v) (hown : w.ownsRow base e size v n xs)
    (xv : Value) (hx : a.eval x = xv) (m : Nat) (news : List Value) (hl : news.length = m * size) (h1 : ∀ u ∈ news, u.oneCell' = true)
    (hsrc : (xv = .slice none 0 0 ∧ m = 0) ∨ ∃ ad c, xv = .slice (some ad) m c ∧ ∀ j u, news[j]? = some u → w.cell? (ad.add j) = some u)
    (h63 : n + m ≤ maxLen) (hbytes : (n + m) * bytes ≤ 140737488355328) (hbase : base ≤ w.heap.size)
    (h : ∀ v' w', w'.ownsRow base e size v' (n + m) (xs ++ news) → w.grownBy w' v.ownBlock → (v'.ownBlock = v.ownBlock ∨ v'.ownBlock = some w.heap.size) → K (a.put o.dst v') w') :
    if Region.wanted o (yielded ops a.tmps) = true then Oper.wp P o a w K Q else E := by
  have hw : Region.wanted o (yielded ops a.tmps) = true := by simp [Region.wanted, hgd]
  rw [if_pos hw]
  rcases hsrc with ⟨rfl, rfl⟩ | ⟨ad, c, rfl, hnews⟩
  · have hn0 : news = [] := by simpa using hl
    subst hn0
    have hrun := run_append_owned_none (P := P) (w := w) base t o.type e i size ht hi v n xs hown
    have := h v w (by simpa using hown) (World.grownBy.refl w _) (Or.inl rfl)
    unfold Oper.wp
    simp [execOp, ho, resolve, invoke, builtin, hs, hx, hrun, Result.andThen]
    exact this
  · obtain ⟨v', w', hr, h2, h3, _, h5⟩ := run_append_own_at (P := P) w base t o.type e i z size bytes ht hi hz hsize hby hzs hsz v n xs hown ad m c news hl hnews h1 h63 hbytes hbase
    unfold Oper.wp execOp
    simp only [ho, resolve, invoke, builtin, Sem.run_bind, Sem.run_pure, Result.andThen_ok, List.map_toArray, List.map_cons, List.map_nil, hs, hx, hr]
    exact h v' w' h2 h3 h5
theorem oH.ones {w : World} : ∀ {d : UD} {fs : List UF} {i : Nat} {xs : List Value} {S : List Nat}, tyU d fs i → oH w d xs S → ∀ u ∈ xs, u.oneCell' = true
  | .nil, _, _, _, _, _, h, u, hu => by rw [h.1] at hu; cases hu
  | .p v r, fs, i, _, S, ⟨⟨f, _, h1⟩, h2⟩, ⟨ys, e2, h⟩, u, hu => by
    subst e2
    rcases List.mem_cons.1 hu with rfl | hu
    · cases f with
      | i k => obtain ⟨z, rfl, _⟩ := h1; rfl
      | s => obtain ⟨z, rfl, _⟩ := h1; rfl
      | b => obtain ⟨z, rfl⟩ := h1; rfl
      | l k t => cases h1
    · exact oH.ones h2 h u hu
  | .l k n cs r, fs, i, _, S, ⟨_, h2⟩, ⟨c, ys, S1, S2, e2, _, _, ⟨t, zs, g, _⟩, h⟩, u, hu => by
    subst e2
    rcases List.mem_cons.1 hu with rfl | hu
    · obtain ⟨a, cap, rfl⟩ := uowns_slice g; rfl
    · exact oH.ones h2 h u hu
theorem cellB {w w' : World} {b o : Nat} {v : Value} (h : w.cell? ⟨b, o, none⟩ = some v) (hb : Below w.heap.size w w') : w'.cell? ⟨b, o, none⟩ = some v := (hb.cell (p := ⟨b, o, none⟩) (World.block_lt_of_cell? _ _ h)).trans h
theorem yields_cell {P : Program} {ops : Array Oper} {S : World → Prop} {op : Oper} {a : Act} (hw : Region.wanted op (yielded ops a.tmps) = true) (t : TypeId) (x : Operand) (ho : op.op = .load t x)
    (b o : Nat) (hx : a.eval x = .pointer (some ⟨b, o, none⟩)) (v : Value) (hS : ∀ w, S w → w.cell? ⟨b, o, none⟩ = some v) (hu : (P.underlying t).map TypeDesc.isRow = some false) : YieldsIf P ops S op v a :=
  .inl ⟨hw, fun w hs => by
    have hl : Sem.run P (Instr.loadAt t (.pointer (some ⟨b, o, none⟩))) w = .ok v w := by
      cases hd : P.underlying t with
      | none => rw [hd] at hu; cases hu
      | some d =>
        rw [hd] at hu
        have hagg : (isAgg t).run P w = .ok false w := by
          unfold isAgg
          rw [Sem.run_bind, run_underlying hd w]
          cases d <;> simp_all [TypeDesc.isRow]
        simp only [Instr.loadAt, Instr.sureAddr, Sem.run_bind, Sem.run_pure, Result.andThen_ok, loadVar, hagg, Bool.false_eq_true, if_false, run_load, hS w hs]
    unfold execOp
    simp only [ho, Sem.run_bind, Sem.run_pure, hx, hl, Result.andThen_ok]⟩
theorem openBlkB {w w' : World} {g : Nat} (h : openBlk w g) (hb : Below w.heap.size w w') : openBlk w' g := by
  obtain ⟨cs, t, h⟩ := h
  exact ⟨cs, t, (hb.block g (Array.getElem?_eq_some_iff.1 h).1).trans h⟩
theorem PMap.outS {w w' : World} {fs : List Field} {b : Nat} {ok : Addr → Prop} {Q : List Nat} (h : PMap w fs b ok) (ho : OutS Q w w') (hb : b ∉ Q) (hq : ∀ c, ok c → c.block ∉ Q) : PMap w' fs b ok := by
  obtain ⟨es, clock, h2, h3⟩ := h
  refine ⟨es, clock, (ho.block b (Array.getElem?_eq_some_iff.1 h2).1 hb).trans h2, fun e he => ?_⟩
  obtain ⟨c, ys, g1, g2, g3, cs, ty, g4⟩ := h3 e he
  exact ⟨c, ys, g1, g2, g3, cs, ty, (ho.block _ (Array.getElem?_eq_some_iff.1 g4).1 (hq c g3)).trans g4⟩
theorem openBlkS {w w' : World} {g : Nat} {Q : List Nat} (h : openBlk w g) (ho : OutS Q w w') (hg : g ∉ Q) : openBlk w' g := by
  obtain ⟨cs, t, h⟩ := h
  exact ⟨cs, t, (ho.block g (Array.getElem?_eq_some_iff.1 h).1 hg).trans h⟩
theorem OutS.grownNone {w w' : World} (h : w.grownBy w' none) : OutS [] w w' := ⟨h.os, h.tape, h.output, h.size, fun k hk _ => h.block k hk (fun e => by cases e)⟩
theorem OutS.drew (w : World) (Q : List Nat) : OutS Q w w.drew := OutS.of_below (Below.drew (Below.refl _ _))
theorem new_row {w' : World} {B : Nat} {e : TypeId} {k n N : Nat} {v : Value} {zs : List Value} (h : w'.ownsRow B e k v n zs) (hn : 0 < n) (hat : v.ownBlock = none ∨ v.ownBlock = some N) : ∃ cap, v = .slice (some ⟨N, 0, none⟩) n cap := by
  rcases h.2 with ⟨_, h0⟩ | ⟨g, cap, cur, rfl, _⟩
  · omega
  · rcases hat with h1 | h1
    · cases h1
    · cases h1; exact ⟨cap, rfl⟩
/-- what a copier answers: nothing of nothing, else a list of its own with the same cells; the list's head is among those met -/
structure CpyR (w w' : World) (te tc : TypeId) (f1 : Field) (k n : Nat) (zs : List Value) (bc bm : Nat) (ok : Addr → Prop) (a : Option Addr) (kv : Value) (fl : Bool) : Prop where
  out : OutS [bc, bm] w w'
  cop : Cop w' tc f1 bc bm (fun c => ok c ∨ (0 < n ∧ some c = a))
  res : (n = 0 ∧ kv = .slice none 0 0 ∧ fl = false) ∨ (0 < n ∧ fl = true ∧ ∃ g' cap, kv = .slice (some ⟨g', 0, none⟩) n cap ∧ w.heap.size ≤ g' ∧ w'.ownsRow w.heap.size te k kv n zs)
def cpyAns (w w' : World) (te tc : TypeId) (f1 : Field) (k n : Nat) (zs : List Value) (bc bm : Nat) (ok : Addr → Prop) (a : Option Addr) (e : Ending) : Prop :=
  ∃ kv fl, e = .returned (.tuple #[kv, .bool fl]) ∧ CpyR w w' te tc f1 k n zs bc bm ok a kv fl
theorem cpyAns.mk' {w w' : World} {te tc : TypeId} {f1 : Field} {k n : Nat} {zs : List Value} {bc bm : Nat} {ok : Addr → Prop} {a : Option Addr} {kv : Value} {fl : Bool} (h : CpyR w w' te tc f1 k n zs bc bm ok a kv fl) : cpyAns w w' te tc f1 k n zs bc bm ok a (.returned (.tuple #[kv, .bool fl])) := ⟨kv, fl, rfl, h⟩
end Go.Proofs.YtamlgjmboljcdaaGreat
