/- Texts of one claim, joined: each in its own section, in build order. -/
import Derived.Test.YtdnodaoeflbfkaaGreatJ1
import Derived.Shelf.SlicesQ.Load
import Derived.OwnWalk
import Derived.WideShapes
import Derived.Deep.MidRow
import Derived.Laws.Rows
import Derived.OrdersHeld
import Derived.Deep.RegionHeld3
import Derived.Maps.AppendAt
import Derived.Deep.CutRange
import Derived.Test.YtdnodaoeflbfkaaGreatProg
import Derived.Test.YtdnodaoeflbfkaaGreatChecked
import Derived.WalkKit
import Derived.WalkSpells
import Derived.WalkLawsBesides
import Derived.Lib.OthersKept
import Derived.BigQuiet
import Derived.Deep.QuietTactic
import Derived.Laws.BytesString
import Derived.Deep.RegionWith
import Derived.Deep.RegionLaw
/- Trees that a call copies row by row: memory of one's own with holes, the rows that are yet to be filled. -/
namespace Go.Proofs.YtdnodaoeflbfkaaGreat
open Go.RowKit
set_option linter.unusedVariables false

/-- a row that is yet to be filled: its block, its things, its cells, its room -/
structure HL where
  g : Nat
  n : Nat
  cs : UD
  cap : Nat
def HL.v (h : HL) : Value := .slice (some ⟨h.g, 0, none⟩) h.n h.cap
def hH (w : World) : UD → List Value → List Nat → List HL → Prop
  | .nil, xs, S, L => xs = [] ∧ S = [] ∧ L = []
  | .p v r, xs, S, L => ∃ ys, xs = v :: ys ∧ hH w r ys S L
  | .l k n cs r, xs, S, L => ∃ c ys S1 S2 L1 L2, xs = c :: ys ∧ S = S1 ++ S2 ∧ L = L1 ++ L2 ∧ 0 < k ∧
      ((∃ e zs S0, S1 = blkOf c ++ S0 ∧ w.ownsRow 0 e k c n zs ∧ hH w cs zs S0 L1) ∨ (k = 5 ∧ S1 = [] ∧ ∃ g cap, c = .slice (some ⟨g, 0, none⟩) n cap ∧ L1 = [⟨g, n, cs, cap⟩])) ∧ hH w r ys S2 L2
theorem hH.frame {w w' : World} : ∀ (d : UD) (xs : List Value) (S : List Nat) (L : List HL), hH w d xs S L → (∀ g ∈ S, w'.heap[g]? = w.heap[g]?) → hH w' d xs S L
  | .nil, _, _, _, h, _ => h
  | .p v r, _, S, L, ⟨ys, e, h⟩, hS => ⟨ys, e, hH.frame r ys S L h hS⟩
  | .l k n cs r, _, _, _, ⟨c, ys, S1, S2, L1, L2, e, eS, eL, hk, h1, h2⟩, hS => by
    subst eS eL
    refine ⟨c, ys, S1, S2, L1, L2, e, rfl, rfl, hk, ?_, hH.frame r ys S2 L2 h2 (fun g hg => hS g (by simp [hg]))⟩
    rcases h1 with ⟨t, zs, S0, rfl, g1, g2⟩ | h1
    · exact .inl ⟨t, zs, S0, rfl, uowns_frame g1 (fun g hg => hS g (by simp [hg])), hH.frame cs zs S0 L1 g2 (fun g hg => hS g (by simp [hg]))⟩
    · exact .inr h1
theorem oH.hole {w : World} : ∀ (d : UD) (xs : List Value) (S : List Nat), oH w d xs S → hH w d xs S []
  | .nil, _, _, h => ⟨h.1, h.2, rfl⟩
  | .p v r, _, S, ⟨ys, e, h⟩ => ⟨ys, e, oH.hole r ys S h⟩
  | .l k n cs r, _, _, ⟨c, ys, S1, S2, e, eS, hk, ⟨t, zs, h1, h2⟩, h3⟩ => ⟨c, ys, blkOf c ++ S1, S2, [], [], e, eS, rfl, hk, .inl ⟨t, zs, S1, rfl, h1, oH.hole cs zs S1 h2⟩, oH.hole r ys S2 h3⟩
theorem hH.done {w : World} : ∀ (d : UD) (xs : List Value) (S : List Nat) (L : List HL), hH w d xs S L → L = [] → oH w d xs S
  | .nil, _, _, _, h, _ => ⟨h.1, h.2.1⟩
  | .p v r, _, S, L, ⟨ys, e, h⟩, hL => ⟨ys, e, hH.done r ys S L h hL⟩
  | .l k n cs r, _, _, _, ⟨c, ys, S1, S2, L1, L2, e, eS, eL, hk, h1, h2⟩, hL => by
    rw [hL] at eL
    obtain ⟨e1, e2⟩ := List.append_eq_nil_iff.1 eL.symm
    rcases h1 with ⟨t, zs, S0, rfl, g1, g2⟩ | ⟨_, _, g, cap, _, g3⟩
    · exact ⟨c, ys, S0, S2, e, eS, hk, ⟨t, zs, g1, hH.done cs zs S0 L1 g2 e1⟩, hH.done r ys S2 L2 h2 e2⟩
    · rw [g3] at e1; cases e1
theorem hH.lt {w : World} : ∀ (d : UD) (xs : List Value) (S : List Nat) (L : List HL), hH w d xs S L → ∀ g ∈ S, g < w.heap.size
  | .nil, _, _, _, h, g, hg => by rw [h.2.1] at hg; cases hg
  | .p v r, _, S, L, ⟨ys, e, h⟩, g, hg => hH.lt r ys S L h g hg
  | .l k n cs r, _, _, _, ⟨c, ys, S1, S2, L1, L2, e, eS, eL, hk, h1, h2⟩, g, hg => by
    subst eS
    rcases List.mem_append.1 hg with hg | hg
    · rcases h1 with ⟨t, zs, S0, rfl, g1, g2⟩ | ⟨_, rfl, _⟩
      · rcases List.mem_append.1 hg with hg | hg
        · exact (ublk_lt g1 g hg).2
        · exact hH.lt cs zs S0 L1 g2 g hg
      · cases hg
    · exact hH.lt r ys S2 L2 h2 g hg
theorem hH.app {w : World} : ∀ {a b : UD} {xs ys : List Value} {S T : List Nat} {L M : List HL}, hH w a xs S L → hH w b ys T M → hH w (a.app b) (xs ++ ys) (S ++ T) (L ++ M)
  | .nil, b, xs, ys, S, T, L, M, h, k => by rw [UD.app_nil, h.1, h.2.1, h.2.2]; exact k
  | .p v r, b, _, ys, S, T, L, M, ⟨zs, e, h⟩, k => by subst e; rw [UD.app_p]; exact ⟨zs ++ ys, rfl, hH.app h k⟩
  | .l m n cs r, b, _, ys, _, T, _, M, ⟨c, zs, S1, S2, L1, L2, e, eS, eL, hk, h1, h3⟩, k => by
    subst e eS eL
    rw [UD.app_l]
    exact ⟨c, zs ++ ys, S1, S2 ++ T, L1, L2 ++ M, rfl, by simp, by simp, hk, h1, hH.app h3 k⟩
/-- the last row that is open comes to be filled -/
theorem hH.fill {w : World} {g n cap : Nat} {dc : UD} {e : TypeId} {zs : List Value} {T : List Nat} {M : List HL} (hown : w.ownsRow 0 e 5 (.slice (some ⟨g, 0, none⟩) n cap) n zs) (hc : hH w dc zs T M) :
    ∀ (d : UD) (xs : List Value) (S : List Nat) (L : List HL) (L' : List HL), hH w d xs S L → L = L' ++ [⟨g, n, dc, cap⟩] → ∃ S', hH w d xs S' (L' ++ M) ∧ S'.Perm (S ++ g :: T)
  | .nil, _, _, L, L', h, hL => by rw [h.2.2] at hL; simp at hL
  | .p v r, _, S, L, L', ⟨ys, e, h⟩, hL => by
    obtain ⟨S', h1, h2⟩ := hH.fill hown hc r ys S L L' h hL
    exact ⟨S', ⟨ys, e, h1⟩, h2⟩
  | .l k m cs r, _, _, _, L', ⟨c, ys, S1, S2, L1, L2, e', eS, eL, hk, h1, h2⟩, hL => by
    subst eS eL e'
    rcases List.eq_nil_or_concat L2 with rfl | ⟨L2', b, rfl⟩
    · rw [List.append_nil] at hL
      rcases h1 with ⟨t, xs1, S0, rfl, g1, g2⟩ | ⟨rfl, rfl, g', cap', rfl, rfl⟩
      · obtain ⟨S', h3, h4⟩ := hH.fill hown hc cs xs1 S0 L1 L' g2 hL
        refine ⟨(blkOf c ++ S') ++ S2, ⟨c, ys, blkOf c ++ S', S2, L' ++ M, [], rfl, rfl, by simp, hk, .inl ⟨t, xs1, S', rfl, g1, h3⟩, h2⟩, ?_⟩
        have e1 : ((blkOf c ++ S') ++ S2).Perm ((blkOf c ++ (S0 ++ g :: T)) ++ S2) := ((h4.append_left _).append_right _)
        refine e1.trans ?_
        simp only [List.append_assoc]
        exact (((List.perm_append_comm (l₁ := g :: T) (l₂ := S2)).append_left S0).append_left (blkOf c))
      · have e1 : L' = [] ∧ (⟨g', m, cs, cap'⟩ : HL) = ⟨g, n, dc, cap⟩ := by
          cases L' with
          | nil => exact ⟨rfl, by simpa using hL⟩
          | cons a b => simp at hL
        obtain ⟨rfl, e2⟩ := e1
        cases e2
        refine ⟨([g] ++ T) ++ S2, ⟨_, ys, [g] ++ T, S2, M, [], rfl, rfl, by simp, hk, .inl ⟨e, zs, T, rfl, hown, hc⟩, h2⟩, ?_⟩
        rw [List.nil_append]
        exact List.perm_append_comm
    · rw [List.concat_eq_append, ← List.append_assoc] at hL
      have e1 := List.append_inj_right' hL rfl
      have e2 := List.append_inj_left' hL rfl
      obtain ⟨S', h3, h4⟩ := hH.fill hown hc r ys S2 (L2' ++ [b]) L2' (by rw [← List.concat_eq_append]; exact h2) (by rw [e1])
      refine ⟨S1 ++ S', ⟨c, ys, S1, S', L1, L2' ++ M, rfl, rfl, by rw [← e2]; simp, hk, h1, h3⟩, ?_⟩
      rw [List.append_assoc]
      exact h4.append_left _
/-- the rows that are left: each in a block of its own, what stands in it is still another one's -/
def Srcs (w : World) (T : TypeId) (H : Nat) : List HL → List Nat → Prop
  | [], S => S = []
  | h :: L, S => ∃ zs S1 S2, S = S1 ++ S2 ∧ 0 < h.n ∧ tyS 5 h.n h.cs 6 ∧ w.ownsRow H T 5 h.v h.n zs ∧ oH w h.cs zs S1 ∧ Srcs w T H L S2
theorem Srcs.app {w : World} {T : TypeId} {H : Nat} : ∀ {L M : List HL} {S R : List Nat}, Srcs w T H L S → Srcs w T H M R → Srcs w T H (L ++ M) (S ++ R)
  | [], M, S, R, h, k => by rw [show S = [] from h]; exact k
  | h :: L, M, _, R, ⟨zs, S1, S2, e, h1, h2, h3, h4, h5⟩, k => by
    subst e
    exact ⟨zs, S1, S2 ++ R, by simp, h1, h2, h3, h4, Srcs.app h5 k⟩
theorem Srcs.split {w : World} {T : TypeId} {H : Nat} : ∀ {L M : List HL} {S : List Nat}, Srcs w T H (L ++ M) S → ∃ S1 S2, S = S1 ++ S2 ∧ Srcs w T H L S1 ∧ Srcs w T H M S2
  | [], M, S, h => ⟨[], S, rfl, rfl, h⟩
  | h :: L, M, _, ⟨zs, S1, S2, e, h1, h2, h3, h4, h5⟩ => by
    subst e
    obtain ⟨R1, R2, rfl, k1, k2⟩ := Srcs.split h5
    exact ⟨S1 ++ R1, R2, by simp, ⟨zs, S1, R1, rfl, h1, h2, h3, h4, k1⟩, k2⟩
theorem Srcs.frame {w w' : World} {T : TypeId} {H : Nat} : ∀ {L : List HL} {S : List Nat}, Srcs w T H L S → (∀ g ∈ S, w'.heap[g]? = w.heap[g]?) → (∀ h ∈ L, w'.heap[h.g]? = w.heap[h.g]?) → Srcs w' T H L S
  | [], S, h, _, _ => h
  | h :: L, _, ⟨zs, S1, S2, e, h1, h2, h3, h4, h5⟩, hS, hL => by
    subst e
    refine ⟨zs, S1, S2, rfl, h1, h2, uowns_frame h3 (fun g hg => ?_), h4.frame _ _ _ (fun g hg => hS g (by simp [hg])), Srcs.frame h5 (fun g hg => hS g (by simp [hg])) (fun x hx => hL x (by simp [hx]))⟩
    have e : g = h.g := by simpa [HL.v, blkOf, Value.ownBlock] using hg
    subst e
    exact hL h (by simp)
theorem Srcs.lt {w : World} {T : TypeId} {H : Nat} : ∀ {L : List HL} {S : List Nat}, Srcs w T H L S → (∀ g ∈ S, g < w.heap.size) ∧ ∀ h ∈ L, H ≤ h.g ∧ h.g < w.heap.size
  | [], S, h => by rw [show S = [] from h]; exact ⟨fun g hg => (by cases hg), fun g hg => (by cases hg)⟩
  | h :: L, _, ⟨zs, S1, S2, e, h1, h2, h3, h4, h5⟩ => by
    subst e
    obtain ⟨k1, k2⟩ := Srcs.lt h5
    refine ⟨fun g hg => ?_, fun x hx => ?_⟩
    · rcases List.mem_append.1 hg with hg | hg
      · exact h4.lt _ _ _ g hg
      · exact k1 g hg
    · rcases List.mem_cons.1 hx with rfl | hx
      · exact ublk_lt h3 x.g (by simp [HL.v, blkOf, Value.ownBlock])
      · exact k2 x hx
def hWt (L : List HL) : Nat := (L.map fun r => uszD r.cs).sum
theorem hWt_nil : hWt [] = 0 := rfl
theorem hWt_app (L M : List HL) : hWt (L ++ M) = hWt L + hWt M := by simp [hWt]
theorem hWt_one (h : HL) : hWt [h] = uszD h.cs := by simp [hWt]
theorem Srcs.count {w : World} {T : TypeId} {H : Nat} : ∀ {L : List HL} {S : List Nat}, Srcs w T H L S → L.length ≤ hWt L
  | [], _, _ => Nat.le_refl _
  | h :: L, _, ⟨zs, S1, S2, e, h1, h2, h3, h4, h5⟩ => by
    have := Srcs.count h5
    have e := uszD_len h.cs
    rw [h2.2.2.2.1] at e
    rw [show h :: L = [h] ++ L from rfl, hWt_app, hWt_one, List.length_append, List.length_singleton]; omega
end Go.Proofs.YtdnodaoeflbfkaaGreat
/- A map keyed by structs of a pointer and a number: what is stored is found again. -/
namespace Go.Proofs.YtdnodaoeflbfkaaGreat
open Go.ChangeMaps Go.MapKept Go.RowKit
set_option linter.unusedVariables false

section
variable {P : Program} {K : TypeId} {f0 f1 : Field} (w : World)
theorem PKey.self (k : PKey P K f0 [f1]) (hn : numFld P f1.type) (ho : f1.offset = 1) (hm : f1.name ≠ "_") (a : Addr) (z : Int) :
    (Op.equal K (.agg #[.pointer (some a), .int .i64 z]) (.agg #[.pointer (some a), .int .i64 z])).run P w = .ok true w := by
  obtain ⟨fa, hu, hl⟩ := k.under
  have hfo : P.fieldsOf K = fa := by simp [Program.fieldsOf, hu]
  unfold Op.equal Op.maxDepth
  rw [show (10000 : Nat) = 9999 + 1 from rfl, run_equalIn_struct w 9999 K _ _ (by rw [hfo]; exact hu) k.held, hfo, hl]
  obtain ⟨te, j, h1, h2, h3⟩ := k.first
  obtain ⟨q, h4⟩ := hn
  have e0' : ∀ d : Nat, (Op.equalIn (d + 1) f0.type (.pointer (some a)) (.pointer (some a))).run P w = .ok true w := fun d => by simp [Op.equalIn, run_underlying h1, sizeOf, typeInfo, h2, run_sameAddr_same]
  have e0 := e0' 9998
  have e1' : ∀ d : Nat, (Op.equalIn (d + 1) f1.type (.int .i64 z) (.int .i64 z)).run P w = .ok true w := fun d => by rw [run_equalIn_int w d f1.type _ _ z z h4]; simp
  have e1 := e1' 9998
  have p0 : (part f0.type #[.pointer (some a), .int .i64 z] f0.offset).run P w = .ok (.pointer (some a)) w := run_part_fld w (.inl k.first) (by rw [k.off]; rfl)
  have p1 : (part f1.type #[.pointer (some a), .int .i64 z] f1.offset).run P w = .ok (.int .i64 z) w := run_part_fld w (.inr ⟨q, h4⟩) (by rw [ho]; rfl)
  rw [Op.eqFields, if_pos k.name]
  simp only [Sem.run_bind, p0, Result.andThen_ok, e0]
  rw [Op.eqFields, if_pos hm]
  simp [p1, e1, Result.andThen, Op.eqFields]
theorem PKey.askingLast (k : PKey P K f0 [f1]) (hn : numFld P f1.type) (hof : f1.offset = 1) (hm : f1.name ≠ "_") {a : Addr} {z : Int} (ho : openBlk w a.block) (val : Value) (born : Nat) : ∀ (es : List MapEntry) (i : Nat), noPtr w [f1] a es →
    (Instr.findAsking K (.agg #[.pointer (some a), .int .i64 z]) (es ++ [{ key := .agg #[.pointer (some a), .int .i64 z], val := val, born := born }]) i).run P w = .ok (some (i + es.length, val)) w
  | [], i, _ => by
    rw [List.nil_append, Instr.findAsking]
    simp [k.self w hn hof hm]
  | e :: es, i, h => by
    obtain ⟨b, ys, h1, h2, h3, h4⟩ := h e (.head _)
    rw [List.cons_append, Instr.findAsking, h1]
    simp only [Sem.run_bind, k.other w (xs := #[.pointer (some a), .int .i64 z]) rfl h2.1 h3 ho h4, Result.andThen_ok]
    have := k.askingLast hn hof hm ho val born es (i + 1) (fun x hx => h x (.tail _ hx)) (z := z)
    rw [List.length_cons, show i + (es.length + 1) = i + 1 + es.length by omega]
    exact this
/-- the key that was stored last, and what stands there -/
def PMapV (w : World) (f1 : Field) (b : Nat) (ok : Addr → Prop) (a : Addr) (z : Int) (val : Value) : Prop :=
  ∃ (es : Array MapEntry) (clock born : Nat), w.heap[b]? = some (.map (es.push { key := .agg #[.pointer (some a), .int .i64 z], val := val, born := born }) clock) ∧ openBlk w a.block ∧ ¬ ok a ∧ ∀ e ∈ es.toList, ∃ c ys, e.key = .agg ys ∧ keyCells [f1] c ys ∧ ok c ∧ openBlk w c.block
variable {w}
theorem PMapV.below {w' : World} {b : Nat} {ok : Addr → Prop} {a : Addr} {z : Int} {val : Value} (h : PMapV w f1 b ok a z val) (hb : Below w.heap.size w w') : PMapV w' f1 b ok a z val := by
  obtain ⟨es, clock, born, h1, ⟨cs, t, h2⟩, h3, h4⟩ := h
  refine ⟨es, clock, born, (hb.block b (Array.getElem?_eq_some_iff.1 h1).1).trans h1, ⟨cs, t, (hb.block _ (Array.getElem?_eq_some_iff.1 h2).1).trans h2⟩, h3, fun e he => ?_⟩
  obtain ⟨c, ys, g1, g2, g3, cs, t, g4⟩ := h4 e he
  exact ⟨c, ys, g1, g2, g3, cs, t, (hb.block _ (Array.getElem?_eq_some_iff.1 g4).1).trans g4⟩
theorem PMapV.map {b : Nat} {ok : Addr → Prop} {a : Addr} {z : Int} {val : Value} (ho : f1.offset = 1) (h : PMapV w f1 b ok a z val) : PMap w [f1] b (fun c => ok c ∨ c = a) := by
  obtain ⟨es, clock, born, h1, h2, h3, h4⟩ := h
  refine ⟨_, clock, h1, fun e he => ?_⟩
  rw [Array.toList_push, List.mem_append, List.mem_singleton] at he
  rcases he with he | rfl
  · obtain ⟨c, ys, g1, g2, g3, g4⟩ := h4 e he
    exact ⟨c, ys, g1, g2, .inl g3, g4⟩
  · exact ⟨a, _, rfl, ⟨rfl, fun f hf => by simp at hf; subst hf; exact ⟨.int .i64 z, by rw [ho]; rfl⟩⟩, .inr rfl, h2⟩
theorem PMapV.look (k : PKey P K f0 [f1]) (hn : numFld P f1.type) (hof : f1.offset = 1) (hm : f1.name ≠ "_") {b : Nat} {ok : Addr → Prop} {a : Addr} {z : Int} {val : Value} (h : PMapV w f1 b ok a z val) {t e : TypeId} (ht : P.underlying t = some (.map K e)) (cok : Bool) :
    (Instr.lookup t (.map (some b)) (.agg #[.pointer (some a), .int .i64 z]) cok).run P w = .ok (if cok then .tuple #[val, .bool true] else val) w := by
  obtain ⟨es, clock, born, h1, h2, h3, h4⟩ := h
  have hp : noPtr w [f1] a es.toList := fun e he => by
    obtain ⟨c, ys, g1, g2, g3, g4⟩ := h4 e he
    exact ⟨c, ys, g1, g2, fun hh => h3 (hh ▸ g3), g4⟩
  have hk : keyCells [f1] a #[.pointer (some a), .int .i64 z] := ⟨rfl, fun f hf => by simp at hf; subst hf; exact ⟨.int .i64 z, by rw [hof]; rfl⟩⟩
  have hf : (Instr.findKey K (.agg #[.pointer (some a), .int .i64 z]) (es.push { key := .agg #[.pointer (some a), .int .i64 z], val := val, born := born }).toList).run P w = .ok (some (es.toList.length, val)) w := by
    obtain ⟨fa, hu, hl⟩ := k.under
    have hq := k.askingLast w hn hof hm h2 val born es.toList 0 hp (z := z)
    rw [Nat.zero_add] at hq
    rw [Array.toList_push]
    unfold Instr.findKey
    simp only [Sem.run_bind, run_underlying hu, Result.andThen_ok]
    generalize hE : es.toList ++ [_] = E at hq ⊢
    cases E with
    | nil => simp at hE
    | cons e E =>
      rw [Instr.findNow, Instr.sameNow]
      · exact hq
      all_goals (intros; simp_all)
  rw [Array.toList_push] at hf
  simp [Instr.lookup, run_underlying ht, MapKept.run_getObj_map h1, k.check w _ hk, hf, Result.andThen]
theorem PMap.storeV {b : Nat} {ok : Addr → Prop} (h : PMap w [f1] b ok) (k : PKey P K f0 [f1]) (hof : f1.offset = 1) {t e : TypeId} (ht : P.underlying t = some (.map K e)) {a : Addr} {z : Int} (ho : openBlk w a.block) (hn : ¬ ok a) (hab : a.block ≠ b) (val : Value) :
    ∃ w', (Instr.mapUpdate t (.map (some b)) (.agg #[.pointer (some a), .int .i64 z]) val).run P w = .ok () w' ∧ PMapV w' f1 b ok a z val ∧ OutS [b] w w' := by
  obtain ⟨es, clock, h1, h2⟩ := h
  have hp : noPtr w [f1] a es.toList := fun e he => by
    obtain ⟨c, ys, g1, g2, g3, g4⟩ := h2 e he
    exact ⟨c, ys, g1, g2, fun hh => hn (hh ▸ g3), g4⟩
  have hk : keyCells [f1] a #[.pointer (some a), .int .i64 z] := ⟨rfl, fun f hf => by simp at hf; subst hf; exact ⟨.int .i64 z, by rw [hof]; rfl⟩⟩
  have hO : ∀ o, OutS [b] w { w with heap := w.heap.setIfInBounds b o } := fun o => ⟨rfl, rfl, rfl, by simp, fun k hk hr => by
    have hne : b ≠ k := fun e => hr (by simp [e])
    simp [hne]⟩
  have old : ∀ (o : Obj) (c : Addr), c.block ≠ b → openBlk w c.block → openBlk { w with heap := w.heap.setIfInBounds b o } c.block := fun o c hc ⟨cs, ty, hh⟩ => ⟨cs, ty, ((heap_set h1).2 _ hc).trans hh⟩
  have nb : ∀ c : Addr, openBlk w c.block → c.block ≠ b := fun c ⟨cs, ty, hh⟩ e => by rw [e, h1] at hh; cases hh
  refine ⟨{ w with heap := w.heap.setIfInBounds b (.map (es.push { key := .agg #[.pointer (some a), .int .i64 z], val := val, born := clock }) (clock + 1)) }, ?_, ⟨es, _, clock, (heap_set h1).1, old _ a hab ho, hn, fun e he => ?_⟩, hO _⟩
  · simp [Instr.mapUpdate, run_underlying ht, MapKept.run_getObj_map h1, k.check w _ hk, k.find w hk ho _ hp, run_setObj_map _ h1, Result.andThen]
  · obtain ⟨c, ys, g1, g2, g3, g4⟩ := h2 e he
    exact ⟨c, ys, g1, g2, g3, old _ c (nb c g4) g4⟩
end
section
variable {P : Program} {K : TypeId} {f0 f1 : Field} (w : World) {ops : Array Oper} {rest : List Oper} {o : Oper} {a : Act} {Q : Exit → Act → World → Prop}
theorem wpList_update_put (hg : o.guard = none) (m x v : Operand) (t : TypeId) (hop : o.op = Op.mapUpdate t m x v) (e : TypeId) (k : PKey P K f0 [f1]) (hof : f1.offset = 1) (ht : P.underlying t = some (.map K e))
    (b : Nat) (ok : Addr → Prop) (hm : a.eval m = .map (some b)) (hown : PMap w [f1] b ok) (ad : Addr) (z : Int) (hx : a.eval x = .agg #[.pointer (some ad), .int .i64 z]) (ho : openBlk w ad.block) (hn : ¬ ok ad) (hab : ad.block ≠ b)
    (hK : ∀ w', PMapV w' f1 b ok ad z (a.eval v) → OutS [b] w w' → wpList P ops Q rest (a.put o.dst undef) w') : wpList P ops Q (o :: rest) a w := by
  refine wpList_plain hg fun K' hK' => ?_
  obtain ⟨w', hrun, r1, r2⟩ := hown.storeV k hof ht (z := z) ho hn hab (a.eval v)
  unfold Oper.wp
  simp [execOp, hop, hm, hx, hrun, Result.andThen]
  exact hK' _ _ (hK w' r1 r2)
theorem wpList_lookup_put (hg : o.guard = none) (m x : Operand) (t : TypeId) (hop : o.op = Op.lookup t m x false) (e : TypeId) (k : PKey P K f0 [f1]) (hnf : numFld P f1.type) (hof : f1.offset = 1) (hnm : f1.name ≠ "_") (ht : P.underlying t = some (.map K e))
    (b : Nat) (ok : Addr → Prop) (hm : a.eval m = .map (some b)) (ad : Addr) (z : Int) (val : Value) (hown : PMapV w f1 b ok ad z val) (hx : a.eval x = .agg #[.pointer (some ad), .int .i64 z])
    (hK : wpList P ops Q rest (a.put o.dst val) w) : wpList P ops Q (o :: rest) a w := by
  refine wpList_plain hg fun K' hK' => ?_
  unfold Oper.wp
  have := hown.look k hnf hof hnm ht false
  simp [execOp, hop, hm, hx, this, Result.andThen]
  exact hK' _ _ hK
end
end Go.Proofs.YtdnodaoeflbfkaaGreat
/- Copying a tree row by row: what stands at the head of a round, without and within. -/
namespace Go.Proofs.YtdnodaoeflbfkaaGreat
open Go.RowKit
set_option linter.unusedVariables false

/-- addresses whose blocks are another's, and not among those that are yet to be met -/
def okS (H : Nat) (Ss : List Nat) (c : Addr) : Prop := c.block < H ∧ c.block ∉ Ss
/-- a copier: how much is left, and its map -/
def Cop (w : World) (t : TypeId) (f1 : Field) (b mm : Nat) (ok : Addr → Prop) : Prop := (∃ z, objU w b t [.int .i64 z, .map (some mm)]) ∧ PMap w [f1] mm ok
theorem Cop.mono {w : World} {t : TypeId} {f1 : Field} {b mm : Nat} {ok ok' : Addr → Prop} (h : Cop w t f1 b mm ok) (hm : ∀ c, ok c → ok' c) : Cop w t f1 b mm ok' := ⟨h.1, h.2.mono hm⟩
theorem Cop.outS {w w' : World} {t : TypeId} {f1 : Field} {b mm : Nat} {ok : Addr → Prop} {Q : List Nat} (h : Cop w t f1 b mm ok) (ho : OutS Q w w') (hb : b ∉ Q) (hmm : mm ∉ Q) (hq : ∀ c, ok c → c.block ∉ Q) : Cop w' t f1 b mm ok := by
  obtain ⟨⟨z, h1⟩, es, clock, h2, h3⟩ := h
  refine ⟨⟨z, h1.outS ho hb⟩, es, clock, (ho.block mm (Array.getElem?_eq_some_iff.1 h2).1 hmm).trans h2, fun e he => ?_⟩
  obtain ⟨c, ys, g1, g2, g3, cs, ty, g4⟩ := h3 e he
  exact ⟨c, ys, g1, g2, g3, cs, ty, (ho.block _ (Array.getElem?_eq_some_iff.1 g4).1 (hq c g3)).trans g4⟩
theorem Cop.below {w w' : World} {t : TypeId} {f1 : Field} {b mm : Nat} {ok : Addr → Prop} (h : Cop w t f1 b mm ok) (hb : Below w.heap.size w w') : Cop w' t f1 b mm ok := by
  obtain ⟨⟨z, h1⟩, h2⟩ := h
  exact ⟨⟨z, h1.below hb⟩, h2.below hb⟩
structure CpC where
  H : Nat
  T : TypeId
  Tl : TypeId
  tk : TypeId
  td : TypeId
  fk : Field
  fd : Field
  bk : Nat
  mp : Nat
  bd : Nat
  md : Nat
def CpC.fix (c : CpC) : List Nat := [c.bk, c.mp, c.bd, c.md]
structure CpO (c : CpC) (w wr : World) (d : UD) (vw lv : Value) (m : Nat) (L : List HL) (S Ss : List Nat) (gl capl : Nat) : Prop where
  elv : lv = .slice (some ⟨gl, 0, none⟩) L.length capl
  left : wr.ownsRow c.H c.Tl 1 (.slice (some ⟨gl, 0, none⟩) L.length capl) L.length (L.map HL.v)
  tree : hH wr (.l 5 1 d .nil) [vw] S L
  src : Srcs wr c.T c.H L Ss
  nnew : (S ++ L.map HL.g).Nodup
  anew : ∀ s ∈ S ++ L.map HL.g, c.H ≤ s ∧ s < wr.heap.size ∧ s ∉ c.fix ∧ s ≠ gl
  nsrc : Ss.Nodup
  asrc : ∀ s ∈ Ss, s < c.H
  ck : Cop wr c.tk c.fk c.bk c.mp (okS c.H Ss)
  cd : Cop wr c.td c.fd c.bd c.md (okS c.H Ss)
  fx : ∀ s ∈ c.fix, c.H ≤ s ∧ s < wr.heap.size ∧ s ≠ gl
  nfx : c.fix.Nodup
  mea : hWt L ≤ m
  bel : Below c.H w wr
structure CpI (c : CpC) (w wr : World) (d : UD) (vw lv : Value) (m : Nat) (h : HL) (q : Nat) (L0 : List HL) (S0 Ss0 : List Nat) (Lq : List HL) (Sq Ssq Sr : List Nat) (zs : List Value) (gl capl : Nat) : Prop where
  elv : lv = .slice (some ⟨gl, 0, none⟩) (L0 ++ Lq).length capl
  left : wr.ownsRow c.H c.Tl 1 (.slice (some ⟨gl, 0, none⟩) (L0 ++ Lq).length capl) (L0 ++ Lq).length ((L0 ++ Lq).map HL.v)
  tree : hH wr (.l 5 1 d .nil) [vw] S0 (L0 ++ [h])
  ty : tyS 5 h.n h.cs 6
  row : wr.ownsRow c.H c.T 5 h.v h.n zs
  done : hH wr (h.cs.takeN (q * 5)) (zs.take (q * 5)) Sq Lq
  rest : oH wr (h.cs.dropN (q * 5)) (zs.drop (q * 5)) Sr
  src0 : Srcs wr c.T c.H L0 Ss0
  srcq : Srcs wr c.T c.H Lq Ssq
  nnew : ((S0 ++ L0.map HL.g) ++ (h.g :: (Sq ++ Lq.map HL.g))).Nodup
  anew : ∀ s ∈ (S0 ++ L0.map HL.g) ++ (h.g :: (Sq ++ Lq.map HL.g)), c.H ≤ s ∧ s < wr.heap.size ∧ s ∉ c.fix ∧ s ≠ gl
  nsrc : ((Ss0 ++ Ssq) ++ Sr).Nodup
  asrc : ∀ s ∈ (Ss0 ++ Ssq) ++ Sr, s < c.H
  ck : Cop wr c.tk c.fk c.bk c.mp (okS c.H ((Ss0 ++ Ssq) ++ Sr))
  cd : Cop wr c.td c.fd c.bd c.md (okS c.H ((Ss0 ++ Ssq) ++ Sr))
  fx : ∀ s ∈ c.fix, c.H ≤ s ∧ s < wr.heap.size ∧ s ≠ gl
  nfx : c.fix.Nodup
  mea : hWt L0 + hWt Lq + uszD (h.cs.dropN (q * 5)) + q ≤ m
  bel : Below c.H w wr
theorem owns_base {w : World} {B : Nat} {e : TypeId} {k n : Nat} {v : Value} {xs : List Value} (h : w.ownsRow B e k v n xs) : w.ownsRow 0 e k v n xs := by
  refine ⟨h.1, ?_⟩
  rcases h.2 with hh | ⟨g, cap, cur, a1, a2, a3⟩
  · exact .inl hh
  · exact .inr ⟨g, cap, cur, a1, Nat.zero_le _, a3⟩
/-- the last row is taken off -/
theorem CpI.start {c : CpC} {w wr : World} {d : UD} {vw lv : Value} {m : Nat} {L : List HL} {h : HL} {S Ss : List Nat} {gl capl : Nat} (o : CpO c w wr d vw lv m (L ++ [h]) S Ss gl capl) :
    ∃ Ss0 Sr zs, CpI c w wr d vw (.slice (some ⟨gl, 0, none⟩) L.length capl) m h 0 L S Ss0 [] [] [] Sr zs gl capl ∧ 0 < h.n := by
  obtain ⟨Ss0, S1, rfl, h1, ⟨zs, Sr, S3, rfl, h2, h3, h4, h5, rfl⟩⟩ := o.src.split
  refine ⟨Ss0, Sr, zs, ⟨by simp, ?_, o.tree, h3, h4, ?_, ?_, h1, rfl, ?_, ?_, ?_, ?_, ?_, ?_, o.fx, o.nfx, ?_, o.bel⟩, h2⟩
  · have := owns_short o.left (m := L.length) (by simp)
    rw [List.append_nil]
    have e : ((L ++ [h]).map HL.v).take (L.length * 1) = L.map HL.v := by simp
    rw [e] at this
    exact this
  · rw [Nat.zero_mul]; exact ⟨by simp, rfl, rfl⟩
  · rw [Nat.zero_mul, UD.dropN_zero, List.drop_zero]; exact h5
  · have := o.nnew
    simp only [List.map_append, List.map_cons, List.map_nil, List.append_nil] at this ⊢
    rw [List.append_assoc]; exact this
  · intro s hs
    apply o.anew s
    simp only [List.map_append, List.map_cons, List.map_nil, List.append_nil, List.mem_append, List.mem_cons, List.not_mem_nil, or_false] at hs ⊢
    grind
  · have := o.nsrc; simpa using this
  · have := o.asrc; simpa using this
  · have := o.ck; simpa using this
  · have := o.cd; simpa using this
  · have := o.mea; rw [hWt_app, hWt_one] at this; rw [hWt_nil, Nat.zero_mul, UD.dropN_zero]; omega
/-- the row is through -/
theorem CpI.over {c : CpC} {w wr : World} {d : UD} {vw lv : Value} {m : Nat} {h : HL} {L0 : List HL} {S0 Ss0 : List Nat} {Lq : List HL} {Sq Ssq Sr : List Nat} {zs : List Value} {gl capl : Nat} (i : CpI c w wr d vw lv m h h.n L0 S0 Ss0 Lq Sq Ssq Sr zs gl capl) (hn : 0 < h.n) :
    ∃ S' m', m' < m ∧ CpO c w wr d vw lv m' (L0 ++ Lq) S' (Ss0 ++ Ssq) gl capl := by
  have hlen : h.cs.len = h.n * 5 := i.ty.2.2.2.1
  have e1 : h.cs.takeN (h.n * 5) = h.cs := by apply UD.ext; unfold UD.takeN; rw [UD.toL_ofL]; exact List.take_of_length_le (Nat.le_of_eq hlen)
  have e2 : zs.take (h.n * 5) = zs := List.take_of_length_le (by rw [i.row.1]; exact Nat.le_refl _)
  have hd := i.done
  rw [e1, e2] at hd
  obtain ⟨S', h1, h2⟩ := hH.fill (g := h.g) (n := h.n) (cap := h.cap) (dc := h.cs) (owns_base i.row) hd _ _ _ _ L0 i.tree rfl
  have hmem : ∀ s ∈ S', s ∈ S0 ++ h.g :: Sq := fun s hs => h2.mem_iff.1 hs
  have hm := i.mea
  refine ⟨S', hWt L0 + hWt Lq, by omega, ⟨i.elv, i.left, h1, i.src0.app i.srcq, ?_, ?_, ?_, ?_, ?_, ?_, i.fx, i.nfx, by rw [hWt_app]; exact Nat.le_refl _, i.bel⟩⟩
  · have hp : (S' ++ (L0 ++ Lq).map HL.g).Perm ((S0 ++ L0.map HL.g) ++ (h.g :: (Sq ++ Lq.map HL.g))) := by
      refine (h2.append_right _).trans ?_
      simp only [List.map_append, List.append_assoc, List.cons_append]
      refine List.Perm.append_left S0 ?_
      have : (h.g :: (Sq ++ (L0.map HL.g ++ Lq.map HL.g))).Perm ((h.g :: Sq) ++ L0.map HL.g ++ Lq.map HL.g) := by simp
      refine this.trans ?_
      have : ((h.g :: Sq) ++ L0.map HL.g ++ Lq.map HL.g).Perm ((L0.map HL.g ++ (h.g :: Sq)) ++ Lq.map HL.g) := List.Perm.append_right _ List.perm_append_comm
      refine this.trans ?_
      simp
    exact hp.nodup_iff.2 i.nnew
  · intro s hs
    apply i.anew s
    simp only [List.map_append, List.mem_append, List.mem_cons] at hs ⊢
    rcases hs with hs | hs | hs
    · have := hmem s hs
      simp only [List.mem_append, List.mem_cons] at this
      grind
    · grind
    · grind
  · exact (List.nodup_append.1 i.nsrc).1
  · exact fun s hs => i.asrc s (by simp at hs ⊢; grind)
  · exact i.ck.mono (fun a ha => ⟨ha.1, fun hs => ha.2 (List.mem_append_left _ hs)⟩)
  · exact i.cd.mono (fun a ha => ⟨ha.1, fun hs => ha.2 (List.mem_append_left _ hs)⟩)
theorem mWt_row5 (da : UD) (q : Nat) : uszD (da.dropN (q * 5)) = uszD (rowU da 5 q) + uszD (da.dropN ((q + 1) * 5)) := by rw [← uszD_app, ← UD.drop_row]
theorem set34 (A ys : List Value) (n : Nat) (hA : A.length = n) (z0 z1 z2 s3 s4 kv dv : Value) : ((A ++ (z0 :: z1 :: z2 :: s3 :: s4 :: ys)).set (n + 3) kv).set (n + 4) dv = A ++ (z0 :: z1 :: z2 :: kv :: dv :: ys) := by
  subst hA
  simp
theorem CpI.step {c : CpC} {w wr w' : World} {d : UD} {vw lv : Value} {m : Nat} {h : HL} {q : Nat} {L0 : List HL} {S0 Ss0 : List Nat} {Lq : List HL} {Sq Ssq Sr : List Nat} {zs : List Value} {gl capl : Nat} (i : CpI c w wr d vw lv m h q L0 S0 Ss0 Lq Sq Ssq Sr zs gl capl) (hq : q < h.n)
    {z0 z1 z2 s3 s4 kv dv : Value} {n3 n4 : Nat} {c3 c4 : UD} (hR : rowU h.cs 5 q = .p z0 (.p z1 (.p z2 (.l 1 n3 c3 (.l 5 n4 c4 .nil))))) {ys : List Value} (hz : zs.drop (q * 5) = z0 :: z1 :: z2 :: s3 :: s4 :: ys) {S3 S4 Sb : List Nat} (hSr : Sr = (S3 ++ S4) ++ Sb) (hb : oH wr (h.cs.dropN ((q + 1) * 5)) ys Sb)
    (hout : OutS (c.fix ++ [gl, h.g]) wr w') (hrow : w'.ownsRow c.H c.T 5 h.v h.n ((zs.set (q * 5 + 3) kv).set (q * 5 + 4) dv)) {Sk : List Nat} (hk : hH w' (.l 1 n3 c3 .nil) [kv] Sk []) (hSk : own2 Sk wr.heap.size w'.heap.size)
    {M : List HL} {S4' : List Nat} (hd : hH w' (.l 5 n4 c4 .nil) [dv] [] M) (hM : Srcs w' c.T c.H M S4') (hMn : (M.map HL.g).Nodup) (hMs : ∀ s ∈ M.map HL.g, wr.heap.size ≤ s ∧ s < w'.heap.size ∧ s ∉ Sk) (hS4 : S4'.Nodup) (hS4' : ∀ s ∈ S4', s ∈ S4)
    {gl' capl' : Nat} (hleft : w'.ownsRow c.H c.Tl 1 (.slice (some ⟨gl', 0, none⟩) (L0 ++ (Lq ++ M)).length capl') (L0 ++ (Lq ++ M)).length ((L0 ++ (Lq ++ M)).map HL.v)) (hgl : gl' = gl ∨ (wr.heap.size ≤ gl' ∧ gl' ∉ Sk ∧ gl' ∉ M.map HL.g))
    (hck : Cop w' c.tk c.fk c.bk c.mp (okS c.H ((Ss0 ++ (Ssq ++ S4')) ++ Sb))) (hcd : Cop w' c.td c.fd c.bd c.md (okS c.H ((Ss0 ++ (Ssq ++ S4')) ++ Sb))) (hwt : hWt M ≤ uszD c4) :
    ∃ Sq' zs', CpI c w w' d vw (.slice (some ⟨gl', 0, none⟩) (L0 ++ (Lq ++ M)).length capl') m h (q + 1) L0 S0 Ss0 (Lq ++ M) Sq' (Ssq ++ S4') Sb zs' gl' capl' := by
  have hsz := hout.size
  have hlen := i.row.1
  have hle : (q + 1) * 5 ≤ h.n * 5 := Nat.mul_le_mul_right 5 hq
  have hgln : c.H ≤ gl ∧ gl < wr.heap.size := ublk_lt i.left gl (by simp [blkOf, Value.ownBlock])
  have hgH : c.H ≤ h.g ∧ h.g < wr.heap.size := ublk_lt i.row h.g (by simp [HL.v, blkOf, Value.ownBlock])
  have hA : (zs.take (q * 5)).length = q * 5 := by rw [List.length_take]; omega
  have hzs : zs = zs.take (q * 5) ++ (z0 :: z1 :: z2 :: s3 :: s4 :: ys) := by rw [← hz, List.take_append_drop]
  have hset : (zs.set (q * 5 + 3) kv).set (q * 5 + 4) dv = zs.take (q * 5) ++ (z0 :: z1 :: z2 :: kv :: dv :: ys) := by
    have := set34 (zs.take (q * 5)) ys (q * 5) hA z0 z1 z2 s3 s4 kv dv
    rw [← hzs] at this; exact this
  rw [hset] at hrow
  have hnew := i.anew
  have hnn := i.nnew
  have hQ : ∀ s, s ∈ (S0 ++ L0.map HL.g) ++ (Sq ++ Lq.map HL.g) → s ∉ c.fix ++ [gl, h.g] := by
    intro s hs hx
    have h1 : s ∈ (S0 ++ L0.map HL.g) ++ (h.g :: (Sq ++ Lq.map HL.g)) := by simp only [List.mem_append, List.mem_cons] at hs ⊢; grind
    have h2 := hnew s h1
    simp only [List.mem_append, List.mem_cons, List.not_mem_nil, or_false] at hx
    rcases hx with hx | rfl | rfl
    · exact h2.2.2.1 hx
    · exact h2.2.2.2 rfl
    · have := List.nodup_append.1 hnn
      have h3 := List.nodup_cons.1 this.2.1
      simp only [List.mem_append] at hs
      rcases hs with hs | hs
      · exact this.2.2 _ (by simpa using hs) h.g (by simp) rfl
      · exact h3.1 (by simpa using hs)
  have hQH : ∀ s, s < c.H → s ∉ c.fix ++ [gl, h.g] := by
    intro s hs hx
    simp only [List.mem_append, List.mem_cons, List.not_mem_nil, or_false] at hx
    rcases hx with hx | rfl | rfl
    · have := (i.fx s hx).1; omega
    · omega
    · omega
  have fr : ∀ s, s < wr.heap.size → s ∉ c.fix ++ [gl, h.g] → w'.heap[s]? = wr.heap[s]? := fun s h1 h2 => hout.block s h1 h2
  refine ⟨Sq ++ (Sk ++ []), _, ⟨rfl, hleft, i.tree.frame _ _ _ _ (fun s hs => fr s (i.tree.lt _ _ _ _ s hs) (hQ s (by simp [hs]))), i.ty, hrow, ?_, ?_, i.src0.frame (fun s hs => fr s (i.src0.lt.1 s hs) (hQH s (i.asrc s (by simp [hs])))) (fun x hx => fr x.g (i.src0.lt.2 x hx).2 (hQ x.g (by simp only [List.mem_append, List.mem_map]; exact .inl (.inr ⟨x, hx, rfl⟩)))), ?_, ?_, ?_, ?_, ?_, hck, hcd, ?_, i.nfx, ?_, ?_⟩⟩
  · rw [UD.take_row, hR]
    have e : (zs.take (q * 5) ++ (z0 :: z1 :: z2 :: kv :: dv :: ys)).take ((q + 1) * 5) = zs.take (q * 5) ++ [z0, z1, z2, kv, dv] := by
      rw [Nat.succ_mul, List.take_append, hA, Nat.add_sub_cancel_left, List.take_of_length_le (by omega)]; rfl
    rw [e]
    refine hH.app (i.done.frame _ _ _ _ (fun s hs => fr s (i.done.lt _ _ _ _ s hs) (hQ s (by simp [hs])))) ?_
    obtain ⟨kc, kys, k1, k2, k3, k4, e1, e2, e3, k5, k6, e4, e5, e6⟩ := hk
    subst e4 e5 e6
    cases e1
    rw [List.append_nil] at e2 e3
    subst e2
    subst e3
    exact ⟨_, rfl, _, rfl, _, rfl, kv, [dv], Sk, [], [], M, rfl, rfl, rfl, k5, k6, hd⟩
  · have e : (zs.take (q * 5) ++ (z0 :: z1 :: z2 :: kv :: dv :: ys)).drop ((q + 1) * 5) = ys := by
      rw [Nat.succ_mul, List.drop_append, hA, Nat.add_sub_cancel_left, List.drop_of_length_le (by omega)]; rfl
    rw [e]
    exact hb.frame _ _ _ (fun s hs => fr s (hb.lt _ _ _ s hs) (hQH s (i.asrc s (by simp [hSr, hs]))))
  · exact (i.srcq.frame (fun s hs => fr s (i.srcq.lt.1 s hs) (hQH s (i.asrc s (by simp [hs])))) (fun x hx => fr x.g (i.srcq.lt.2 x hx).2 (hQ x.g (by simp only [List.mem_append, List.mem_map]; exact .inr (.inr ⟨x, hx, rfl⟩))))).app hM
  · simp only [List.map_append, List.append_nil]
    have hk1 := hSk.1
    have hk2 := hSk.2
    have hlt : ∀ s ∈ (S0 ++ L0.map HL.g) ++ (h.g :: (Sq ++ Lq.map HL.g)), s < wr.heap.size := fun s hs => (hnew s hs).2.1
    simp only [List.nodup_append, List.nodup_cons, List.mem_append, List.mem_cons] at hnn hlt ⊢
    grind
  · intro s hs
    have hfx := i.fx
    have hk2 := hSk.2
    simp only [List.map_append, List.append_nil, List.mem_append, List.mem_cons] at hs hnew
    have hold : ∀ s, s < wr.heap.size → s ≠ gl → s ≠ gl' := by
      intro s h1 h2
      rcases hgl with rfl | ⟨h3, _, _⟩
      · exact h2
      · omega
    have hnf : ∀ s, wr.heap.size ≤ s → s ∉ c.fix ∧ s ≠ gl := fun s h1 => ⟨fun h2 => by have := (hfx s h2).2.1; omega, by omega⟩
    grind
  · have hn2 := i.nsrc
    rw [hSr] at hn2
    simp only [List.nodup_append, List.mem_append] at hn2 ⊢
    grind
  · intro s hs
    apply i.asrc s
    rw [hSr]
    simp only [List.mem_append] at hs ⊢
    grind
  · intro s hs
    have := i.fx s hs
    refine ⟨this.1, by omega, ?_⟩
    rcases hgl with rfl | ⟨h3, _, _⟩
    · exact this.2.2
    · omega
  · have hm := i.mea
    have e := mWt_row5 h.cs q
    rw [hR] at e
    have e2 : uszD (UD.p z0 (.p z1 (.p z2 (.l 1 n3 c3 (.l 5 n4 c4 .nil))))) = uszD c3 + uszD c4 + 5 := by simp only [uszD]; omega
    rw [e2] at e
    rw [hWt_app]
    omega
  · exact i.bel.trans (hout.below (fun t ht => by
      simp only [List.mem_append, List.mem_cons, List.not_mem_nil, or_false] at ht
      rcases ht with ht | rfl | rfl
      · exact (i.fx t ht).1
      · exact hgln.1
      · exact hgH.1) (by omega))
end Go.Proofs.YtdnodaoeflbfkaaGreat
/- A struct of many cells loaded whole: one letter. -/
namespace Go.Proofs.YtdnodaoeflbfkaaGreat
open Go.RowKit Go.BigFrame
set_option linter.unusedVariables false
theorem wpList_load_eq {P : Program} {ops : Array Oper} {rest : List Oper} {o : Oper} {a : Act} {w : World} {Q : Exit → Act → World → Prop} (hgd : o.guard = none) (t : TypeId) (x : Operand) (ho : o.op = .load t x) (ad : Addr) (hx : a.eval x = .pointer (some ad)) (v : Value)
    (hl : Sem.run P (Instr.loadAt t (.pointer (some ad))) w = .ok v w) (h : wpList P ops Q rest (a.put o.dst v) w) : wpList P ops Q (o :: rest) a w := by
  refine wpList_plain hgd fun K hK => ?_
  unfold Oper.wp execOp
  simp only [ho, Sem.run_bind, Sem.run_pure, hx, hl, Result.andThen_ok]
  exact hK _ _ h
theorem split_head {n : Nat} {xs : List Value} (h : xs.length = n + 1) : ∃ x r, xs = x :: r ∧ r.length = n := by
  cases xs with
  | nil => cases h
  | cons x r => exact ⟨x, r, rfl, by simpa using h⟩
theorem split_end {xs : List Value} (h : xs.length = 0) : xs = [] := List.eq_nil_of_length_eq_zero h
theorem step_load_eq {P : Program} {w : World} {ops : Array Oper} {o : Oper} {a : Act} {K : Act → World → Prop} {Q : Exit → Act → World → Prop} {E : Prop} (hgd : o.guard = none) (t : TypeId) (x : Operand) (ho : o.op = .load t x) (ad : Addr) (hx : a.eval x = .pointer (some ad)) (v : Value)
    (hl : Sem.run P (Instr.loadAt t (.pointer (some ad))) w = .ok v w) (h : K (a.put o.dst v) w) : if Region.wanted o (yielded ops a.tmps) = true then Oper.wp P o a w K Q else E := by
  have hw : Region.wanted o (yielded ops a.tmps) = true := by simp [Region.wanted, hgd]
  rw [if_pos hw]
  unfold Oper.wp execOp
  simp only [ho, Sem.run_bind, Sem.run_pure, hx, hl, Result.andThen_ok]
  exact h
theorem load_whole {P : Program} {t : TypeId} {k : Nat} {ad : Addr} {w : World} {xs : List Value} (ha : ∀ w, (isAgg t).run P w = .ok true w) (hs : ∀ w, (Go.sizeOf t).run P w = .ok k w) (hk : xs.length = k) (h : ∀ j v, xs[j]? = some v → w.cell? (ad.add j) = some v) : Sem.run P (Instr.loadAt t (.pointer (some ad))) w = .ok (.agg xs.toArray) w := by
  have hl := run_loadCellsFrom_list P w ad xs k hk h
  simp only [Instr.loadAt, Instr.sureAddr, Sem.run_bind, Sem.run_pure, Result.andThen_ok, loadVar, ha, hs, loadCells, hl, if_true]
end Go.Proofs.YtdnodaoeflbfkaaGreat
/- Data as cells: structs of many cells, loaded and stored whole; copying field by field, each step one law. -/
namespace Go.Proofs.YtdnodaoeflbfkaaGreat
open Go.RowKit Go.BigFrame
set_option linter.unusedVariables false

theorem OutS.setCells {b : Nat} : ∀ (vs : List Value) (o : Nat) (w : World), OutS [b] w (w.setCells b o vs)
  | [], o, w => OutS.refl _ _
  | v :: r, o, w => ((OutS.refl [b] w).setCell (p := ⟨b, o, none⟩) (by simp) v).trans (OutS.setCells r (o + 1) _)
theorem objU.there {w : World} {b : Nat} {t : TypeId} {xs : List Value} (h : objU w b t xs) (o n : Nat) (hn : o + n ≤ xs.length) : w.there b o n := fun j hj =>
  ⟨by rw [h.cell (o + j) xs[o + j] (List.getElem?_eq_getElem (by omega))]; rfl, h.fz _⟩
theorem objU.range {w : World} {b : Nat} {t : TypeId} {xs : List Value} (h : objU w b t xs) (o : Nat) (ys : List Value) (hy : ∀ j v, ys[j]? = some v → xs[o + j]? = some v) : w.rangeAt b o ys := fun j v hv => h.cell _ _ (hy j v hv)
theorem objU.whole {w : World} {b : Nat} {t : TypeId} {xs : List Value} (h : objU w b t xs) : w.rangeAt b 0 xs := h.range 0 xs (fun j v hv => by rw [Nat.zero_add]; exact hv)
theorem objU.setCells {b : Nat} {t : TypeId} : ∀ (ys zs : List Value) (pre post : List Value) (w : World), objU w b t (pre ++ (zs ++ post)) → zs.length = ys.length → objU (w.setCells b pre.length ys) b t (pre ++ (ys ++ post))
  | [], zs, pre, post, w, h, hl => by
    have : zs = [] := List.eq_nil_of_length_eq_zero hl
    subst this
    exact h
  | y :: ys, [], pre, post, w, h, hl => by cases hl
  | y :: ys, z :: zs, pre, post, w, h, hl => by
    have h1 := h.set pre.length y
    have e1 : (pre ++ (z :: zs ++ post)).set pre.length y = (pre ++ [y]) ++ (zs ++ post) := by
      rw [List.set_append_right _ _ (Nat.le_refl _), Nat.sub_self]; simp
    rw [e1] at h1
    have h2 := objU.setCells ys zs (pre ++ [y]) post _ h1 (by simpa using hl)
    rw [World.setCells]
    have e2 : (pre ++ [y]).length = pre.length + 1 := by simp
    rw [e2] at h2
    have e3 : pre ++ [y] ++ (ys ++ post) = pre ++ (y :: ys ++ post) := by simp
    rw [e3] at h2
    exact h2
/-- loads and stores, each a step; the value and the place said by the caller -/
theorem wpList_load_one {P : Program} {ops : Array Oper} {rest : List Oper} {o : Oper} {a : Act} {w : World} {Q : Exit → Act → World → Prop} (hgd : o.guard = none) (t : TypeId) (x : Operand) (ho : o.op = .load t x)
    (b j : Nat) (hx : a.eval x = .pointer (some ⟨b, j, none⟩)) (v : Value) (hu : (P.underlying t).map TypeDesc.isRow = some false) (hc : w.cell? ⟨b, j, none⟩ = some v) (h : wpList P ops Q rest (a.put o.dst v) w) : wpList P ops Q (o :: rest) a w := by
  refine wpList_load_eq hgd t x ho ⟨b, j, none⟩ hx v ?_ h
  cases hd : P.underlying t with
  | none => rw [hd] at hu; cases hu
  | some d =>
    rw [hd] at hu
    have hagg : (isAgg t).run P w = .ok false w := by
      unfold isAgg
      rw [Sem.run_bind, run_underlying hd w]
      cases d <;> simp_all [TypeDesc.isRow]
    simp only [Instr.loadAt, Instr.sureAddr, Sem.run_bind, Sem.run_pure, Result.andThen_ok, loadVar, hagg, Bool.false_eq_true, if_false, run_load, hc]
theorem load_row_eq {P : Program} {t : TypeId} {b j : Nat} {w : World} {ys : List Value} (hu : (P.underlying t).map TypeDesc.isRow = some true) (hi : (P.info? t).map (·.size) = some ys.length) (hr : w.rangeAt b j ys) : Sem.run P (Instr.loadAt t (.pointer (some ⟨b, j, none⟩))) w = .ok (.agg ys.toArray) w := by
  cases hd : P.underlying t with
  | none => rw [hd] at hu; cases hu
  | some d =>
    rw [hd] at hu
    exact run_loadAt_mid w b j t ys d hr hd (by simpa using hu) hi
theorem wpList_load_row2 {P : Program} {ops : Array Oper} {rest : List Oper} {o : Oper} {a : Act} {w : World} {Q : Exit → Act → World → Prop} (hgd : o.guard = none) (t : TypeId) (x : Operand) (ho : o.op = .load t x)
    (b j : Nat) (hx : a.eval x = .pointer (some ⟨b, j, none⟩)) (ys : List Value) (hu : (P.underlying t).map TypeDesc.isRow = some true) (hi : (P.info? t).map (·.size) = some ys.length) (hr : w.rangeAt b j ys) (h : wpList P ops Q rest (a.put o.dst (.agg ys.toArray)) w) : wpList P ops Q (o :: rest) a w :=
  wpList_load_eq hgd t x ho ⟨b, j, none⟩ hx _ (load_row_eq hu hi hr) h
theorem yieldsIf_load_row {P : Program} {ops : Array Oper} {S : World → Prop} {op : Oper} {a : Act} (hw : Region.wanted op (yielded ops a.tmps) = true) (t : TypeId) (x : Operand) (ho : op.op = .load t x)
    (b o : Nat) (hx : a.eval x = .pointer (some ⟨b, o, none⟩)) (ys : List Value) (hS : ∀ w, S w → w.rangeAt b o ys)
    (hu : (P.underlying t).map TypeDesc.isRow = some true) (hi : (P.info? t).map (·.size) = some ys.length) : YieldsIf P ops S op (.agg ys.toArray) a := by
  cases hd : P.underlying t with
  | none => rw [hd] at hu; cases hu
  | some d =>
    rw [hd] at hu
    exact yieldsIf_load_mid hw t x ho b o hx ys d hS hd (by simpa using hu) hi
theorem run_storeAt_cells {P : Program} {w : World} {b j : Nat} {t : TypeId} {v : Value} {ys : List Value} (hv : v.cells = ys.toArray) (h1 : ∀ u ∈ ys, u.oneCell' = true) (hi : (P.info? t).map (·.size) = some ys.length) (ht : w.there b j ys.length) :
    (Instr.storeAt t (.pointer (some ⟨b, j, none⟩)) v).run P w = .ok () (w.setCells b j ys) := by
  have := run_storeCells_cells (P := P) b j ys 0 w (fun q hq => by simpa using (ht q hq).1) (fun q hq => by simpa using (ht q hq).2) h1
  cases hq : P.info? t with
  | none => simp [hq] at hi
  | some i =>
    have hs : ys.length = i.size := by simp [hq] at hi; omega
    simp only [Nat.add_zero] at this
    simp [Instr.storeAt, Instr.sureAddr, storeVar, sizeOf, typeInfo, hq, hv, hs, this]
/-- behind a store the world is a letter -/
def Behind (φ : World → Prop) (w : World) : Prop := ∀ w', w' = w → φ w'
theorem wpList_store_cells {P : Program} {ops : Array Oper} {rest : List Oper} {o : Oper} {a : Act} {w : World} {Q : Exit → Act → World → Prop} (hgd : o.guard = none) (t : TypeId) (x y : Operand) (ho : o.op = .store t x y) (hd : o.dst = none)
    (b j : Nat) (hx : a.eval x = .pointer (some ⟨b, j, none⟩)) (v : Value) (hy : a.eval y = v) (ys : List Value) (hv : v.cells = ys.toArray) (h1 : ∀ u ∈ ys, u.oneCell' = true) (hi : (P.info? t).map (·.size) = some ys.length) (ht : w.there b j ys.length)
    (h : Behind (wpList P ops Q rest a) (w.setCells b j ys)) : wpList P ops Q (o :: rest) a w := by
  refine wpList_plain hgd fun K hK => ?_
  unfold Oper.wp execOp
  simp only [ho, hx, hy, Sem.run_bind, run_storeAt_cells hv h1 hi ht, Result.andThen_ok]
  exact hK _ _ (by rw [hd]; exact h _ rfl)
theorem one1 {v : Value} (h : v.oneCell' = true) : ∀ u ∈ [v], u.oneCell' = true := fun u hu => by simp at hu; subst hu; exact h
theorem one_int {k : IntKind} {z : Int} : (Value.int k z).oneCell' = true := rfl
theorem one_string {z : ByteArray} : (Value.string z).oneCell' = true := rfl
theorem one_bool {z : Bool} : (Value.bool z).oneCell' = true := rfl
theorem one_slice {a : Option Addr} {n p : Nat} : (Value.slice a n p).oneCell' = true := rfl
theorem cells_one {v : Value} (h : v.oneCell' = true) : v.cells = [v].toArray := by cases v <;> first | rfl | cases h
theorem wpList_store_v {P : Program} {ops : Array Oper} {rest : List Oper} {o : Oper} {a : Act} {w : World} {Q : Exit → Act → World → Prop} (hgd : o.guard = none) (t : TypeId) (x y : Operand) (ho : o.op = .store t x y) (hd : o.dst = none)
    (b j : Nat) (hx : a.eval x = .pointer (some ⟨b, j, none⟩)) (v : Value) (hy : a.eval y = v) (h1 : v.oneCell' = true) (hi : (P.info? t).map (·.size) = some 1) (ht : w.there b j 1)
    (h : Behind (wpList P ops Q rest a) (w.setCells b j [v])) : wpList P ops Q (o :: rest) a w :=
  wpList_store_cells hgd t x y ho hd b j hx v hy [v] (cells_one h1) (one1 h1) hi ht h
theorem ones_own {w : World} : ∀ {d : UD} {fs : List UF} {xs : List Value} {S : List Nat}, tyL d fs → oH w d xs S → ∀ u ∈ xs, u.oneCell' = true
  | .nil, _, _, _, _, h, u, hu => by rw [h.1] at hu; cases hu
  | .p v r, _, _, S, ⟨f, fr, e, h1, h2⟩, ⟨ys, e2, h⟩, u, hu => by
    subst e2
    rcases List.mem_cons.1 hu with rfl | hu
    · cases f with
      | i k => obtain ⟨z, rfl, _⟩ := h1; rfl
      | s => obtain ⟨z, rfl, _⟩ := h1; rfl
      | b => obtain ⟨z, rfl⟩ := h1; rfl
      | l k t => cases h1
    · exact ones_own h2 h u hu
  | .l k n cs r, _, _, _, ⟨t, fr, e, h1, h2⟩, ⟨c, ys, S1, S2, e2, eS, hk, ⟨t', zs, g1, g2⟩, h⟩, u, hu => by
    subst e2
    rcases List.mem_cons.1 hu with rfl | hu
    · obtain ⟨a, cap, rfl⟩ := uowns_slice g1; rfl
    · exact ones_own h2 h u hu
theorem cells_agg {ys : List Value} : (Value.agg ys.toArray).cells = ys.toArray := rfl

/-- where the copying of a struct, field by field, stands: j cells are copied, dd is what they are -/
def CP (w0 w : World) (A R O : Nat) (TA TO : TypeId) (AX Z : List Value) (dd : UD) (j : Nat) : Prop :=
  ∃ done S, objU w A TA AX ∧ objU w R TO Z ∧ objU w O TO (done ++ Z.drop j) ∧ done.length = j ∧ oH w dd done S ∧ own2 S (O + 1) w.heap.size ∧ Below w0.heap.size w0 w ∧ w0.heap.size ≤ A ∧ A < O ∧ w0.heap.size ≤ R ∧ R < O ∧ O < w.heap.size
theorem CP.start {w : World} {TA TO : TypeId} {AX Z : List Value} : CP w (((w.alloc (.cells AX.toArray TA)).alloc (.cells Z.toArray TO)).alloc (.cells Z.toArray TO)) w.heap.size (w.heap.size + 1) (w.heap.size + 1 + 1) TA TO AX Z .nil 0 := by
  refine ⟨[], [], ((objU.new2 _ _ rfl).old _).old _, (objU.new2 _ _ (by simp)).old _, ?_, rfl, oH.nil _, own2.nil _ _, (((Below.refl _ _).alloc (Nat.le_refl _) _).alloc (by simp) _).alloc (by simp; omega) _, Nat.le_refl _, by omega, by omega, by omega, by simp⟩
  simpa using objU.new2 (w := (w.alloc (.cells AX.toArray TA)).alloc (.cells Z.toArray TO)) TO Z (b := w.heap.size + 1 + 1) (by simp)
theorem CP.below {w0 w w' : World} {A R O : Nat} {TA TO : TypeId} {AX Z : List Value} {dd : UD} {j : Nat} (h : CP w0 w A R O TA TO AX Z dd j) (hb : Below w.heap.size w w') : CP w0 w' A R O TA TO AX Z dd j := by
  obtain ⟨done, S, h1, h2, h3, h4, h5, h6, h7, h8, h9, h10, h11, h12⟩ := h
  exact ⟨done, S, h1.below hb, h2.below hb, h3.below hb, h4, h5.below hb, h6.mono (Nat.le_refl _) hb.size, h7.trans (hb.mono h7.size), h8, h9, h10, h11, Nat.lt_of_lt_of_le h12 hb.size⟩
theorem CP.bel {w0 w : World} {A R O : Nat} {TA TO : TypeId} {AX Z : List Value} {dd : UD} {j : Nat} (h : CP w0 w A R O TA TO AX Z dd j) : Below w0.heap.size w0 w := by
  obtain ⟨done, S, h1, h2, h3, h4, h5, h6, h7, _⟩ := h; exact h7
theorem CP.cell {w0 w : World} {A R O : Nat} {TA TO : TypeId} {AX Z : List Value} {dd : UD} {j : Nat} (h : CP w0 w A R O TA TO AX Z dd j) {q : Nat} {v : Value} (hv : AX[q]? = some v) : w.cell? ⟨A, q, none⟩ = some v := by
  obtain ⟨done, S, h1, _⟩ := h; exact h1.cell q v hv
theorem CP.range {w0 w : World} {A R O : Nat} {TA TO : TypeId} {AX Z : List Value} {dd : UD} {j : Nat} (h : CP w0 w A R O TA TO AX Z dd j) {q : Nat} {ys : List Value} (hv : ∀ i v, ys[i]? = some v → AX[q + i]? = some v) : w.rangeAt A q ys := by
  obtain ⟨done, S, h1, _⟩ := h; exact h1.range q ys hv
theorem CP.there {w0 w : World} {A R O : Nat} {TA TO : TypeId} {AX Z : List Value} {dd : UD} {j : Nat} (h : CP w0 w A R O TA TO AX Z dd j) (n : Nat) (hn : j + n ≤ Z.length) : w.there O j n := by
  obtain ⟨done, S, h1, h2, h3, h4, _⟩ := h
  exact h3.there j n (by rw [List.length_append, List.length_drop, h4]; omega)
/-- cells are stored behind those that are copied: ys came of a call that ended in w1 (or w1 is w, where it is plain) -/
theorem CP.step {w0 w w1 : World} {A R O : Nat} {TA TO : TypeId} {AX Z : List Value} {dd : UD} {j : Nat} (h : CP w0 w A R O TA TO AX Z dd j) (hb : Below w.heap.size w w1) {dp : UD} {ys : List Value} {T : List Nat} (ho : oH w1 dp ys T) (hT : own2 T w.heap.size w1.heap.size) {w' : World} (e : w' = w1.setCells O j ys) {j' : Nat} (hj : j' = j + ys.length) (hn : j' ≤ Z.length) : CP w0 w' A R O TA TO AX Z (dd.app dp) j' := by
  have hlt := h
  obtain ⟨done, S, h1, h2, h3, h4, h5, h6, h7, h8, h9, h10, h11, h12⟩ := h.below hb
  obtain ⟨done', S', g1, g2, g3, g4, g5, g6, g7, g8, g9, g10, g11, g12⟩ := hlt
  subst e hj
  have hout : OutS [O] w1 (w1.setCells O j ys) := OutS.setCells ys j w1
  have hS' : ∀ s ∈ S', s < w.heap.size := g5.lt _ _ _
  refine ⟨done' ++ ys, S' ++ T, (g1.below hb).outS hout (by simp; omega), (g2.below hb).outS hout (by simp; omega), ?_, by rw [List.length_append, g4], oH.app ((g5.below hb).outS hout (fun g hg hx => ?_)) (ho.outS hout (fun g hg hx => ?_)), ?_, ?_, h8, h9, h10, h11, ?_⟩
  · have e1 : Z.drop j = (Z.drop j).take ys.length ++ Z.drop (j + ys.length) := by rw [← List.drop_drop]; exact (List.take_append_drop _ _).symm
    have g3' := g3.below hb
    rw [e1] at g3'
    have := objU.setCells ys ((Z.drop j).take ys.length) done' (Z.drop (j + ys.length)) w1 g3' (by rw [List.length_take, List.length_drop]; omega)
    rw [g4] at this
    rw [List.append_assoc]; exact this
  · simp at hx; have := g6.2 g hg; omega
  · simp at hx; have := hT.2 g hg; omega
  · have hsz := hout.size
    exact (g6.app hT (Nat.le_refl _) (by omega) hb.size).mono (Nat.le_refl _) hsz
  · exact h7.trans (hout.below (B := w0.heap.size) (fun t ht => by simp at ht; omega) h7.size)
  · exact Nat.lt_of_lt_of_le h12 hout.size
theorem CP.plain {w0 w : World} {A R O : Nat} {TA TO : TypeId} {AX Z : List Value} {dd : UD} {j : Nat} (h : CP w0 w A R O TA TO AX Z dd j) {v : Value} {w' : World} (e : w' = w.setCells O j [v]) {j' : Nat} (hj : j' = j + 1) (hn : j' ≤ Z.length) : CP w0 w' A R O TA TO AX Z (dd.app (.p v .nil)) j' :=
  h.step (Below.refl _ _) (oH.consP v (oH.nil _)) (own2.nil _ _) e hj hn
theorem CP.list {w0 w w1 : World} {A R O : Nat} {TA TO : TypeId} {AX Z : List Value} {dd : UD} {j : Nat} (h : CP w0 w A R O TA TO AX Z dd j) (hb : Below w.heap.size w w1) {k n : Nat} {cs : UD} {c : Value} {T : List Nat} (ho : oS w1 k n cs c T) (hT : own2 T w.heap.size w1.heap.size) {w' : World} (e : w' = w1.setCells O j [c]) {j' : Nat} (hj : j' = j + 1) (hn : j' ≤ Z.length) : CP w0 w' A R O TA TO AX Z (dd.app (.l k n cs .nil)) j' := by
  have := oH.consS ho (oH.nil _)
  rw [List.append_nil] at this
  exact h.step hb this hT e hj hn
/-- all is copied -/
theorem CP.fin {w0 w : World} {A R O : Nat} {TA TO : TypeId} {AX Z : List Value} {dd : UD} {j : Nat} (h : CP w0 w A R O TA TO AX Z dd j) {D : UD} (hD : dd = D) (hj : j = Z.length) : ∃ done S, Hid (w.rangeAt O 0 done) ∧ done.length = j ∧ Hid (w.there R 0 done.length) ∧ oH w D done S ∧ ∀ w', w' = w.setCells R 0 done → objU w' R TO done ∧ oH w' D done S ∧ S.Nodup ∧ (∀ s ∈ S, w0.heap.size ≤ s) ∧ Below w0.heap.size w0 w' := by
  subst hD
  obtain ⟨done, S, h1, h2, h3, h4, h5, h6, h7, h8, h9, h10, h11, h12⟩ := h
  have e0 : Z.drop j = [] := List.drop_eq_nil_of_le (by omega)
  rw [e0, List.append_nil] at h3
  refine ⟨done, S, h3.whole, h4, h2.there 0 _ (by omega), h5, fun w' e => ?_⟩
  subst e
  have hout : OutS [R] w (w.setCells R 0 done) := OutS.setCells done 0 w
  have h2' := objU.setCells done Z [] [] w (by simpa using h2) (by omega)
  refine ⟨by simpa using h2', h5.outS hout (fun g hg hx => ?_), h6.1, fun s hs => by have := h6.2 s hs; omega, h7.trans (hout.below (B := w0.heap.size) (fun t ht => by simp at ht; omega) h7.size)⟩
  simp at hx; have := h6.2 g hg; omega
theorem results_row {P : Program} {fn : Func} {p : Tmp} {ty : TypeId} (h : fn.results = #[.cell p ty]) (tmps : Array Value) (w : World) (g : Nat) (t : TypeId) (ys : List Value)
    (hp : tmps.getD p undef = .pointer (some ⟨g, 0, none⟩)) (hg : objU w g t ys) (hu : (P.underlying ty).map TypeDesc.isRow = some true) (hi : (P.info? ty).map (·.size) = some ys.length) :
    (results fn tmps).run P w = .ok (.agg ys.toArray) w := by
  cases hd : P.underlying ty with
  | none => rw [hd] at hu; cases hu
  | some d =>
    rw [hd] at hu
    exact results_cell_row h tmps w g t ys.toArray (0, 0) d hp hg hd (by cases d <;> simp_all [TypeDesc.isRow]) (by simpa using hi)

/-! rows of structs -/
theorem wSet_eq : ∀ (ys : List Value) (w : World) (g i : Nat), w.setCells g i ys = wSet w g i ys
  | [], w, g, i => rfl
  | y :: ys, w, g, i => by rw [World.setCells, wSet, wSet_eq ys]
theorem range_below {w w' : World} {b o : Nat} {xs : List Value} (h : w.rangeAt b o xs) (hb : Below w.heap.size w w') : w'.rangeAt b o xs := fun j v hv =>
  (hb.cell (p := ⟨b, o + j, none⟩) (World.block_lt_of_cell? _ _ (h j v hv))).trans (h j v hv)
theorem TS.there {w0 w : World} {e : TypeId} {k n : Nat} {cs : UD} {q : Nat} (h : TS w0 w e k n cs q) (p m : Nat) (hm : p + m ≤ n * k) : w.there w0.heap.size p m := fun j hj => by
  obtain ⟨v, hv⟩ := h.cell (p + j) (by omega)
  exact ⟨by rw [hv]; rfl, h.fz _⟩
theorem TS.row {w0 w w2 w' : World} {e : TypeId} {k n : Nat} {cs : UD} {q : Nat} (h : TS w0 w e k n cs q) (hb : Below w.heap.size w w2) {ys : List Value} {T : List Nat} (ho : oH w2 (rowU cs k q) ys T) (hnd : T.Nodup) (hT : ∀ t ∈ T, w.heap.size ≤ t) (hl : cs.len = n * k) (hq : q < n) (e' : w' = w2.setCells w0.heap.size (q * k) ys) : TS w0 w' e k n cs (q + 1) := by
  subst e'
  rw [wSet_eq]
  exact h.step hb ho hnd hT hl hq
theorem MS.there {w0 w : World} {e : TypeId} {k n : Nat} {cap : Nat} {g : Nat} {cs : UD} {j0 : Nat} {S : List Nat} {xs0 : List Value} {i : Nat} (h : MS w0 w e k n (.slice (some ⟨g, 0, none⟩) n cap) g cs j0 S xs0 i) (p : Nat) (hn : p < n * k) : w.there g p 1 := fun j hj => by
  obtain ⟨xs, h1, _⟩ := h
  have : j = 0 := by omega
  subst this
  exact ⟨by rw [Nat.add_zero, h1.cellAt p hn, List.getElem?_eq_getElem (by rw [h1.1]; exact hn)]; rfl, h1.frozenAt p⟩
theorem setCells_one (w : World) (b o : Nat) (v : Value) : w.setCells b o [v] = w.setCell ⟨b, o, none⟩ v := by rw [World.setCells, World.setCells]
theorem MS.cellS {w0 wx wy : World} {e : TypeId} {k n : Nat} {cap : Nat} {g : Nat} {cs : UD} {j0 : Nat} {S : List Nat} {xs0 : List Value} {i i' : Nat} (h : MS w0 wx e k n (.slice (some ⟨g, 0, none⟩) n cap) g cs j0 S xs0 i) {v u : Value} (he : cs.at? i = some (.p v)) {m : Nat} (hc : j0 + cnt (cs.takeN i) = m) (hu : u = mkP m v) (ey : wy = wx.setCells g i [u]) (hi : i' = i + 1) : MS w0 wy e k n (.slice (some ⟨g, 0, none⟩) n cap) g cs j0 S xs0 i' := by
  subst hi ey hc
  rw [setCells_one]
  exact h.plain he hu
theorem at_row {cs : UD} {K q : Nat} {R : UD} (hR : rowU cs K q = R) {j : Nat} {e : UE} (hj : j < K) (h : R.at? j = some e) : cs.at? (q * K + j) = some e := by
  rw [← rowU_at cs K q j hj, hR]; exact h
theorem ct_next {cs : UD} {k0 i m : Nat} {e : UE} (hc : k0 + cnt (cs.takeN i) = m) (h : cs.at? i = some e) : k0 + cnt (cs.takeN (i + 1)) = m + cntE e := by
  rw [cnt_succ cs i e h, ← Nat.add_assoc, hc]
theorem ct_end {cs : UD} {k0 q K m : Nat} (h : k0 + cnt (cs.takeN (q * K + K)) = m) : k0 + cnt (cs.takeN ((q + 1) * K)) = m := by
  rw [Nat.succ_mul]; exact h
/-! structs taken apart -/
theorem at_mid {pre ys post AX : List Value} {j i : Nat} {v : Value} (hA : AX = pre ++ (ys ++ post)) (hj : pre.length = j) (h : ys[i]? = some v) : AX[j + i]? = some v := by
  subst hA hj
  have hi := (List.getElem?_eq_some_iff.1 h).1
  rw [List.getElem?_append_right (by omega), List.getElem?_append_left (by omega), ← h]
  congr 1; omega
theorem tyL.split : ∀ {d : UD} {f1 f2 : List UF}, tyL d (f1 ++ f2) → ∃ d1 d2, d = d1.app d2 ∧ tyL d1 f1 ∧ tyL d2 f2
  | d, [], f2, h => ⟨.nil, d, (UD.app_nil d).symm, rfl, h⟩
  | .nil, f :: fr, f2, h => by cases h
  | .p v r, f :: fr, f2, h => by
    obtain ⟨g, gr, e, h1, h2⟩ := h
    cases e
    obtain ⟨d1, d2, rfl, h3, h4⟩ := tyL.split (f1 := fr) (f2 := f2) h2
    exact ⟨.p v d1, d2, (UD.app_p v d1 d2).symm, ⟨_, _, rfl, h1, h3⟩, h4⟩
  | .l k n cs r, f :: fr, f2, h => by
    obtain ⟨t, gr, e, h1, h2⟩ := h
    cases e
    obtain ⟨d1, d2, rfl, h3, h4⟩ := tyL.split (f1 := fr) (f2 := f2) h2
    exact ⟨.l k n cs d1, d2, (UD.app_l k n cs d1 d2).symm, ⟨_, _, rfl, h1, h3⟩, h4⟩
theorem uH.split {w : World} {lo hi : Nat} : ∀ {d1 d2 : UD} {xs : List Value}, uH w lo hi (d1.app d2) xs → ∃ x1 x2, xs = x1 ++ x2 ∧ x1.length = d1.len ∧ uH w lo hi d1 x1 ∧ uH w lo hi d2 x2
  | .nil, d2, xs, h => ⟨[], xs, rfl, rfl, rfl, by rw [UD.app_nil] at h; exact h⟩
  | .p v r, d2, xs, h => by
    rw [UD.app_p] at h
    obtain ⟨ys, rfl, h⟩ := h
    obtain ⟨x1, x2, rfl, hl, h1, h2⟩ := uH.split h
    exact ⟨v :: x1, x2, rfl, by rw [UD.len_p, ← hl]; rfl, ⟨x1, rfl, h1⟩, h2⟩
  | .l k n cs r, d2, xs, h => by
    rw [UD.app_l] at h
    obtain ⟨c, ys, rfl, hc, h⟩ := h
    obtain ⟨x1, x2, rfl, hl, h1, h2⟩ := uH.split h
    exact ⟨c :: x1, x2, rfl, by rw [UD.len_l, ← hl]; rfl, ⟨c, x1, rfl, hc, h1⟩, h2⟩
theorem UD.app_assoc (a b c : UD) : (a.app b).app c = a.app (b.app c) := by apply UD.ext; simp only [UD.app_toL, List.append_assoc]
theorem UD.app_nil_r (a : UD) : a.app .nil = a := by apply UD.ext; rw [UD.app_toL]; simp [UD.toL]
theorem tyL_cast {a b : UD} {fs : List UF} (e : a = b) (h : tyL a fs) : tyL b fs := e ▸ h
theorem oH_cast {w : World} {a b : UD} {xs : List Value} {S : List Nat} (e : a = b) (h : oH w b xs S) : oH w a xs S := e ▸ h
theorem mk_app : ∀ (a b : UD) (j : Nat), mk (a.app b) j = (mk a j).app (mk b (j + cnt a))
  | .nil, b, j => by rw [UD.app_nil]; simp only [mk, cnt, Nat.add_zero, UD.app_nil]
  | .p v r, b, j => by rw [UD.app_p, mk, mk, UD.app_p, mk_app r, cnt]; congr 2; congr 1; omega
  | .l k n cs r, b, j => by rw [UD.app_l, mk, mk, UD.app_l, mk_app r, cnt]; congr 2; congr 1; omega
theorem mkT_app : ∀ (a b : UD) (j : Nat), mkT (a.app b) j = (mkT a j).app (mkT b (j + cntT a))
  | .nil, b, j => by rw [UD.app_nil]; simp only [mkT, cntT, Nat.add_zero, UD.app_nil]
  | .p v r, b, j => by rw [UD.app_p, mkT, mkT, UD.app_p, mkT_app r, cntT]
  | .l k n cs r, b, j => by rw [UD.app_l, mkT, mkT, UD.app_l, mkT_app r, cntT]; congr 2; congr 1; omega
theorem cntT_app : ∀ (a b : UD), cntT (a.app b) = cntT a + cntT b
  | .nil, b => by rw [UD.app_nil]; simp [cntT]
  | .p v r, b => by rw [UD.app_p, cntT, cntT, cntT_app r]
  | .l k n cs r, b => by rw [UD.app_l, cntT, cntT, cntT_app r]; omega
end Go.Proofs.YtdnodaoeflbfkaaGreat
/- The copier of lists: what it asks of its map, in regions that draw; what it answers. -/
namespace Go.Proofs.YtdnodaoeflbfkaaGreat
open Go.RowKit Go.BigFrame Go.ChangeMaps Go.MapKept
set_option linter.unusedVariables false

section
variable {P : Program} {K : TypeId} {f0 f1 : Field} (w : World) {ops : Array Oper} {rest : List Oper} {o : Oper} {a : Act}
theorem yieldsIf_lookup_none {fs : List Field} {S : World → Prop} (hw : Region.wanted o (yielded ops a.tmps) = true) (m x : Operand) (t : TypeId) (hop : o.op = Op.lookup t m x true) (e : TypeId) (k : PKey P K f0 fs) (ht : P.underlying t = some (.map K e)) {z : Value} (hz : ∀ w, (zeroValue e).run P w = .ok z w)
    (b : Nat) (ok : Addr → Prop) (hm : a.eval m = .map (some b)) (ad : Addr) (xs : Array Value) (hx : a.eval x = .agg xs) (hk : keyCells fs ad xs) (hn : ¬ ok ad) (hS : ∀ w, S w → PMap w fs b ok ∧ openBlk w ad.block) : YieldsIf P ops S o (.tuple #[z, .bool false]) a :=
  .inl ⟨hw, fun w hs => by simp [execOp, hop, hm, hx, (hS w hs).1.look k ht (hz w) hk (hS w hs).2 hn, Result.andThen]⟩
theorem yieldsIf_lookup_put {S : World → Prop} (hw : Region.wanted o (yielded ops a.tmps) = true) (m x : Operand) (t : TypeId) (hop : o.op = Op.lookup t m x false) (e : TypeId) (k : PKey P K f0 [f1]) (hnf : numFld P f1.type) (hof : f1.offset = 1) (hnm : f1.name ≠ "_") (ht : P.underlying t = some (.map K e))
    (b : Nat) (ok : Addr → Prop) (hm : a.eval m = .map (some b)) (ad : Addr) (z : Int) (val : Value) (hx : a.eval x = .agg #[.pointer (some ad), .int .i64 z]) (hS : ∀ w, S w → PMapV w f1 b ok ad z val) : YieldsIf P ops S o val a :=
  .inl ⟨hw, fun w hs => by
    have := (hS w hs).look k hnf hof hnm ht false
    simp [execOp, hop, hm, hx, this, Result.andThen]⟩
/-- a store into a map, at a step of a region that draws -/
theorem step_update_put {K1 : Act → World → Prop} {E : Prop} {Q : Exit → Act → World → Prop} (hw : Region.wanted o (yielded ops a.tmps) = true) (m x v : Operand) (t : TypeId) (hop : o.op = Op.mapUpdate t m x v) (e : TypeId) (k : PKey P K f0 [f1]) (hof : f1.offset = 1) (ht : P.underlying t = some (.map K e))
    (b : Nat) (ok : Addr → Prop) (hm : a.eval m = .map (some b)) (hown : PMap w [f1] b ok) (ad : Addr) (z : Int) (hx : a.eval x = .agg #[.pointer (some ad), .int .i64 z]) (ho : openBlk w ad.block) (hn : ¬ ok ad) (hab : ad.block ≠ b)
    (hK : ∀ w', PMapV w' f1 b ok ad z (a.eval v) → OutS [b] w w' → K1 (a.put o.dst undef) w') : if Region.wanted o (yielded ops a.tmps) = true then Oper.wp P o a w K1 Q else E := by
  rw [if_pos hw]
  obtain ⟨w', hrun, r1, r2⟩ := hown.storeV k hof ht (z := z) ho hn hab (a.eval v)
  unfold Oper.wp
  simp [execOp, hop, hm, hx, hrun, Result.andThen]
  exact hK w' r1 r2
end
/-- append of a list that came in (or of nil) behind a row of one's own, at a step of a region that draws -/
theorem step_append_rows {P : Program} {w : World} {ops : Array Oper} {o : Oper} {a : Act} {K : Act → World → Prop} {Q : Exit → Act → World → Prop} {E : Prop} (hgd : o.guard = none) (s x : Operand) (t : TypeId)
    (ho : o.op = .call { callee := .builtin .append, args := #[s, x], argTypes := #[t, t] })
    (base : Nat) (e : TypeId) (i : TypeInfo) (z : Value) (size bytes : Nat) (ht : P.underlying t = some (.slice e)) (hi : P.info? e = some i) (hz : i.zero = some z)
    (hsize : i.size = size) (hby : i.bytes = bytes) (hzs : z.cells.size = size) (hsz : 0 < size)
    (v : Value) (n : Nat) (xs : List Value) (hs : a.eval s = v) (hown : w.ownsRow base e size v n xs)
    (xv : Value) (hx : a.eval x = xv) (m : Nat) (news : List Value) (hl : news.length = m * size) (h1 : ∀ u ∈ news, u.oneCell' = true)
    (hsrc : (xv = .slice none 0 0 ∧ m = 0) ∨ ∃ ad c, xv = .slice (some ad) m c ∧ ∀ j u, news[j]? = some u → w.cell? (ad.add j) = some u)
    (h63 : n + m ≤ maxLen) (hbytes : (n + m) * bytes ≤ 140737488355328) (hbase : base ≤ w.heap.size)
    (h : ∀ v' w', w'.ownsRow base e size v' (n + m) (xs ++ news) → w.grownBy w' v.ownBlock → (v'.ownBlock = v.ownBlock ∨ v'.ownBlock = some w.heap.size) → K (a.put o.dst v') w') :
    if Region.wanted o (yielded ops a.tmps) = true then Oper.wp P o a w K Q else E := by
  have hw : Region.wanted o (yielded ops a.tmps) = true := by simp [Region.wanted, hgd]
  rw [if_pos hw]
  rcases hsrc with ⟨rfl, rfl⟩ | ⟨ad, c, rfl, hnews⟩
  · have hn0 : news = [] := by simpa using hl
    subst hn0
    have hrun := run_append_owned_none (P := P) (w := w) base t o.type e i size ht hi v n xs hown
    have := h v w (by simpa using hown) (World.grownBy.refl w _) (Or.inl rfl)
    unfold Oper.wp
    simp [execOp, ho, resolve, invoke, builtin, hs, hx, hrun, Result.andThen]
    exact this
  · obtain ⟨v', w', hr, h2, h3, _, h5⟩ := run_append_own_at (P := P) w base t o.type e i z size bytes ht hi hz hsize hby hzs hsz v n xs hown ad m c news hl hnews h1 h63 hbytes hbase
    unfold Oper.wp execOp
    simp only [ho, resolve, invoke, builtin, Sem.run_bind, Sem.run_pure, Result.andThen_ok, List.map_toArray, List.map_cons, List.map_nil, hs, hx, hr]
    exact h v' w' h2 h3 h5
theorem oH.ones {w : World} : ∀ {d : UD} {fs : List UF} {i : Nat} {xs : List Value} {S : List Nat}, tyU d fs i → oH w d xs S → ∀ u ∈ xs, u.oneCell' = true
  | .nil, _, _, _, _, _, h, u, hu => by rw [h.1] at hu; cases hu
  | .p v r, fs, i, _, S, ⟨⟨f, _, h1⟩, h2⟩, ⟨ys, e2, h⟩, u, hu => by
    subst e2
    rcases List.mem_cons.1 hu with rfl | hu
    · cases f with
      | i k => obtain ⟨z, rfl, _⟩ := h1; rfl
      | s => obtain ⟨z, rfl, _⟩ := h1; rfl
      | b => obtain ⟨z, rfl⟩ := h1; rfl
      | l k t => cases h1
    · exact oH.ones h2 h u hu
  | .l k n cs r, fs, i, _, S, ⟨_, h2⟩, ⟨c, ys, S1, S2, e2, _, _, ⟨t, zs, g, _⟩, h⟩, u, hu => by
    subst e2
    rcases List.mem_cons.1 hu with rfl | hu
    · obtain ⟨a, cap, rfl⟩ := uowns_slice g; rfl
    · exact oH.ones h2 h u hu
theorem cellB {w w' : World} {b o : Nat} {v : Value} (h : w.cell? ⟨b, o, none⟩ = some v) (hb : Below w.heap.size w w') : w'.cell? ⟨b, o, none⟩ = some v := (hb.cell (p := ⟨b, o, none⟩) (World.block_lt_of_cell? _ _ h)).trans h
theorem yields_cell {P : Program} {ops : Array Oper} {S : World → Prop} {op : Oper} {a : Act} (hw : Region.wanted op (yielded ops a.tmps) = true) (t : TypeId) (x : Operand) (ho : op.op = .load t x)
    (b o : Nat) (hx : a.eval x = .pointer (some ⟨b, o, none⟩)) (v : Value) (hS : ∀ w, S w → w.cell? ⟨b, o, none⟩ = some v) (hu : (P.underlying t).map TypeDesc.isRow = some false) : YieldsIf P ops S op v a :=
  .inl ⟨hw, fun w hs => by
    have hl : Sem.run P (Instr.loadAt t (.pointer (some ⟨b, o, none⟩))) w = .ok v w := by
      cases hd : P.underlying t with
      | none => rw [hd] at hu; cases hu
      | some d =>
        rw [hd] at hu
        have hagg : (isAgg t).run P w = .ok false w := by
          unfold isAgg
          rw [Sem.run_bind, run_underlying hd w]
          cases d <;> simp_all [TypeDesc.isRow]
        simp only [Instr.loadAt, Instr.sureAddr, Sem.run_bind, Sem.run_pure, Result.andThen_ok, loadVar, hagg, Bool.false_eq_true, if_false, run_load, hS w hs]
    unfold execOp
    simp only [ho, Sem.run_bind, Sem.run_pure, hx, hl, Result.andThen_ok]⟩
theorem openBlkB {w w' : World} {g : Nat} (h : openBlk w g) (hb : Below w.heap.size w w') : openBlk w' g := by
  obtain ⟨cs, t, h⟩ := h
  exact ⟨cs, t, (hb.block g (Array.getElem?_eq_some_iff.1 h).1).trans h⟩
theorem PMap.outS {w w' : World} {fs : List Field} {b : Nat} {ok : Addr → Prop} {Q : List Nat} (h : PMap w fs b ok) (ho : OutS Q w w') (hb : b ∉ Q) (hq : ∀ c, ok c → c.block ∉ Q) : PMap w' fs b ok := by
  obtain ⟨es, clock, h2, h3⟩ := h
  refine ⟨es, clock, (ho.block b (Array.getElem?_eq_some_iff.1 h2).1 hb).trans h2, fun e he => ?_⟩
  obtain ⟨c, ys, g1, g2, g3, cs, ty, g4⟩ := h3 e he
  exact ⟨c, ys, g1, g2, g3, cs, ty, (ho.block _ (Array.getElem?_eq_some_iff.1 g4).1 (hq c g3)).trans g4⟩
theorem openBlkS {w w' : World} {g : Nat} {Q : List Nat} (h : openBlk w g) (ho : OutS Q w w') (hg : g ∉ Q) : openBlk w' g := by
  obtain ⟨cs, t, h⟩ := h
  exact ⟨cs, t, (ho.block g (Array.getElem?_eq_some_iff.1 h).1 hg).trans h⟩
theorem OutS.grownNone {w w' : World} (h : w.grownBy w' none) : OutS [] w w' := ⟨h.os, h.tape, h.output, h.size, fun k hk _ => h.block k hk (fun e => by cases e)⟩
theorem OutS.drew (w : World) (Q : List Nat) : OutS Q w w.drew := OutS.of_below (Below.drew (Below.refl _ _))
theorem new_row {w' : World} {B : Nat} {e : TypeId} {k n N : Nat} {v : Value} {zs : List Value} (h : w'.ownsRow B e k v n zs) (hn : 0 < n) (hat : v.ownBlock = none ∨ v.ownBlock = some N) : ∃ cap, v = .slice (some ⟨N, 0, none⟩) n cap := by
  rcases h.2 with ⟨_, h0⟩ | ⟨g, cap, cur, rfl, _⟩
  · omega
  · rcases hat with h1 | h1
    · cases h1
    · cases h1; exact ⟨cap, rfl⟩
/-- what a copier answers: nothing of nothing, else a list of its own with the same cells; the list's head is among those met -/
structure CpyR (w w' : World) (te tc : TypeId) (f1 : Field) (k n : Nat) (zs : List Value) (bc bm : Nat) (ok : Addr → Prop) (a : Option Addr) (kv : Value) (fl : Bool) : Prop where
  out : OutS [bc, bm] w w'
  cop : Cop w' tc f1 bc bm (fun c => ok c ∨ (0 < n ∧ some c = a))
  res : (n = 0 ∧ kv = .slice none 0 0 ∧ fl = false) ∨ (0 < n ∧ fl = true ∧ ∃ g' cap, kv = .slice (some ⟨g', 0, none⟩) n cap ∧ w.heap.size ≤ g' ∧ w'.ownsRow w.heap.size te k kv n zs)
def cpyAns (w w' : World) (te tc : TypeId) (f1 : Field) (k n : Nat) (zs : List Value) (bc bm : Nat) (ok : Addr → Prop) (a : Option Addr) (e : Ending) : Prop :=
  ∃ kv fl, e = .returned (.tuple #[kv, .bool fl]) ∧ CpyR w w' te tc f1 k n zs bc bm ok a kv fl
theorem cpyAns.mk' {w w' : World} {te tc : TypeId} {f1 : Field} {k n : Nat} {zs : List Value} {bc bm : Nat} {ok : Addr → Prop} {a : Option Addr} {kv : Value} {fl : Bool} (h : CpyR w w' te tc f1 k n zs bc bm ok a kv fl) : cpyAns w w' te tc f1 k n zs bc bm ok a (.returned (.tuple #[kv, .bool fl])) := ⟨kv, fl, rfl, h⟩
end Go.Proofs.YtdnodaoeflbfkaaGreat
/- The copier of lists of texts: what it answers. -/
namespace Go.Proofs.YtdnodaoeflbfkaaGreat
open Go.RowKit Go.BigFrame Go.ChangeMaps Go.MapKept
set_option linter.unusedVariables false

theorem infoCpS : ∃ i, Tryz.prog.info? 9 = some i ∧ i.zero = some (.string ByteArray.empty) ∧ i.size = 1 ∧ i.bytes = 16 := by
  have h : (Tryz.prog.info? 9).map (fun i => (i.zero, i.size, i.bytes)) = some (some (.string ByteArray.empty), 1, 16) := by kernel_rfl
  cases e : Tryz.prog.info? 9 with
  | none => rw [e] at h; cases h
  | some i => rw [e] at h; simp at h; exact ⟨i, rfl, h.1, h.2.1, h.2.2⟩
def cpS0 : Field := ⟨"first", 313, 0, false, "", "loop.example/g00119/impl", 0⟩
def cpS1 : Field := ⟨"count", 3, 1, false, "", "loop.example/g00119/impl", 8⟩
theorem cpS_num : numFld Tryz.prog cpS1.type := ⟨.i64, by kernel_rfl⟩
theorem cpS_key : PKey Tryz.prog 315 cpS0 [cpS1] where
  under := ⟨_, by kernel_rfl, rfl⟩
  held := by kernel_rfl
  name := by decide
  off := rfl
  first := by
    obtain ⟨i, h1, _, h2, _⟩ := infoCpS
    exact ⟨_, i, by kernel_rfl, h1, by rw [h2]; decide⟩
  rest := fun f hf => by
    simp only [List.mem_cons, List.mem_nil_iff, or_false] at hf
    subst hf
    exact .inr cpS_num
theorem cpS_map : ∃ e, Tryz.prog.underlying 307 = some (.map 315 e) ∧ ∀ w, (zeroValue e).run Tryz.prog w = .ok (.slice none 0 0) w := ⟨23, by kernel_rfl, fun w => by kernel_rfl⟩
theorem cpS_cells (a : Addr) (n : Int) : keyCells [cpS1] a #[.pointer (some a), .int .i64 n] := ⟨rfl, fun f hf => by
  simp only [List.mem_cons, List.mem_nil_iff, or_false] at hf
  subst hf
  exact ⟨_, rfl⟩⟩
theorem cpS_row : (Tryz.prog.info? 315).map (·.size) = some 2 := by kernel_rfl
set_option maxRecDepth 20000 in
set_option maxHeartbeats 3200000 in
theorem cpyS_any (n : Nat) (zs : List Value) (a : Option Addr) (p : Nat) (z : Int) (bc bm : Nat) (ok : Addr → Prop) (e0 : TypeId) (w : World) (hz : w.ownsRow 0 e0 1 (.slice a n p) n zs) (h1 : ∀ u ∈ zs, u.oneCell' = true) (hc : objU w bc 309 [.int .i64 z, .map (some bm)])
    (hm : PMap w [cpS1] bm ok) (hcm : bc ≠ bm) (hok : ∀ g ∈ blkOf (.slice a n p), g ≠ bm ∧ g ≠ bc ∧ ∀ o, ¬ ok ⟨g, o, none⟩) (hokc : ∀ c, ok c → c.block ≠ bc ∧ c.block ≠ bm) (hn : n ≤ 100000000) :
    Calls Tryz.prog 240 #[.pointer (some ⟨bc, 0, none⟩), .slice a n p] w fun e w' => cpyAns w w' 9 309 cpS1 1 n zs bc bm ok a e := by
  by_cases h0 : n = 0
  · subst h0
    have cn : (((0 : Nat) : Int) == 0) = true := by simp
    have HC : Hid (cpyAns w w 9 309 cpS1 1 0 zs bc bm ok a (.returned (.tuple #[.slice none 0 0, .bool false]))) := cpyAns.mk' ⟨OutS.refl _ _, ⟨⟨z, hc⟩, hm.mono (fun c h => .inl h)⟩, .inl ⟨rfl, rfl, rfl⟩⟩
    clear hz h1 hc hm hcm hok hokc
    go_enter Tryz.func240, Tryz.ntmps240
    go_wp2
    go_ret2
    exact HC.out
  have hpos : 0 < n := Nat.pos_of_ne_zero h0
  have cn : ((n : Int) == 0) = false := by simp; omega
  obtain ⟨g, rfl⟩ : ∃ g, a = some ⟨g, 0, none⟩ := by
    rcases hz.2 with ⟨_, h⟩ | ⟨g, cap, cur, h, _⟩
    · omega
    · cases h; exact ⟨g, rfl⟩
  have hgl : g < w.heap.size := (ublk_lt hz g (by simp [blkOf, Value.ownBlock])).2
  obtain ⟨hgm, hgc, hgo⟩ := hok g (by simp [blkOf, Value.ownBlock])
  have Hop : Hid (openBlk w g) := by
    rcases hz.2 with ⟨h, _⟩ | ⟨g', cap, cur, h, _, hh, _⟩
    · cases h
    · cases h; exact ⟨_, _, hh⟩
  have hcl := hc.lt
  have hml := hm.lt
  have Hz := uhide hz
  have H1 := uhide h1
  have Hc := uhide hc
  have Hm := uhide hm
  have Hgo : Hid (¬ ok ⟨g, 0, none⟩) := hgo 0
  have Hokc := uhide hokc
  have HI : Hid ((Tryz.prog.info? 315).map (·.size) = some 2) := cpS_row
  clear hz h1 hc hm hok hgo hokc h0
  go_enter Tryz.func240, Tryz.ntmps240
  go_wp2_with fail
  have O1 : Hid (objU (w.alloc (.cells #[.pointer (some ⟨g, 0, none⟩), .int .i64 n] 315)) w.heap.size 315 [.pointer (some ⟨g, 0, none⟩), .int .i64 n]) := objU.new _ _ _
  have B1 : Hid (Below w.heap.size w (w.alloc (.cells #[.pointer (some ⟨g, 0, none⟩), .int .i64 n] 315))) := (Below.refl _ _).alloc (Nat.le_refl _) _
  generalize w.alloc (.cells #[.pointer (some ⟨g, 0, none⟩), .int .i64 n] 315) = w1 at *
  obtain ⟨eM, hme, hze⟩ := cpS_map
  refine wp_region_held_drew (S := fun w' => w'.cell? ⟨bc, 1, none⟩ = some (.map (some bm)) ∧ w'.rangeAt w.heap.size 0 [.pointer (some ⟨g, 0, none⟩), .int .i64 n] ∧ PMap w' [cpS1] bm ok ∧ openBlk w' g) (by kernel_rfl) ⟨cellB ((Hc.out.below B1.out).cell 1 _ rfl) (Below.drew (Below.refl _ _)), (World.rangeAt_drew _ _ _ _).2 (O1.out.range 0 _ (fun j v h => by rw [Nat.zero_add]; exact h)), (Hm.out.below B1.out).below (Below.drew (Below.refl _ _)), openBlkB (openBlkB Hop.out B1.out) (Below.drew (Below.refl _ _))⟩ (fun hHeld => ?_)
  refine wpAnyH_take (i := 0) (oi := ⟨some 18, .move (.tmp 0), _, _, _, _⟩) (v := .pointer (some ⟨bc, 0, none⟩)) rfl (by kernel_rfl) (by kernel_rfl) (by kernel_rfl) (fun _ _ _ h => h) (Or.inl ⟨by rfl, by intro w hSw; (try dsimp only at hSw); go_split_ands; go_simp⟩) hHeld ?_
  simp only [Act.put, List.setIfInBounds_toArray, List.set_cons_zero, List.set_cons_succ]
  refine wpAnyH_take (i := 1) (oi := ⟨some 19, .nilCheck (.tmp 18), _, _, _, _⟩) (v := .pointer (some ⟨bc, 0, none⟩)) rfl (by kernel_rfl) (by kernel_rfl) (by kernel_rfl) (fun _ _ _ h => h) (Or.inl ⟨by rfl, by intro w hSw; (try dsimp only at hSw); go_split_ands; go_simp⟩) hHeld ?_
  simp only [Act.put, List.setIfInBounds_toArray, List.set_cons_zero, List.set_cons_succ]
  refine wpAnyH_take (i := 2) (oi := ⟨some 20, .fieldAddr _ (.tmp 19) 1, _, _, _, _⟩) (v := .pointer (some ⟨bc, 1, none⟩)) rfl (by kernel_rfl) (by kernel_rfl) (by kernel_rfl) (fun _ _ _ h => h) (Or.inl ⟨by rfl, by intro w hSw; (try dsimp only at hSw); go_split_ands; go_simp⟩) hHeld ?_
  simp only [Act.put, List.setIfInBounds_toArray, List.set_cons_zero, List.set_cons_succ]
  refine wpAnyH_take (i := 3) (oi := ⟨some 21, .load _ (.tmp 20), _, _, _, _⟩) (v := .map (some bm)) rfl (by kernel_rfl) (by kernel_rfl) (by kernel_rfl) (fun _ _ _ h => h) (yields_cell (by rfl) _ _ rfl bc 1 rfl _ (fun w hS => hS.1) (by kernel_rfl)) hHeld ?_
  simp only [Act.put, List.setIfInBounds_toArray, List.set_cons_zero, List.set_cons_succ]
  refine wpAnyH_take (i := 4) (oi := ⟨some 22, .load _ (.tmp 6), _, _, _, _⟩) (v := .agg #[.pointer (some ⟨g, 0, none⟩), .int .i64 n]) rfl (by kernel_rfl) (by kernel_rfl) (by kernel_rfl) (fun _ _ _ h => h) (yieldsIf_load_row (by rfl) 315 _ rfl w.heap.size 0 rfl [.pointer (some ⟨g, 0, none⟩), .int .i64 n] (fun w hS => hS.2.1) (by kernel_rfl) HI.out) hHeld ?_
  simp only [Act.put, List.setIfInBounds_toArray, List.set_cons_zero, List.set_cons_succ]
  refine wpAnyH_take (i := 5) (oi := ⟨some 23, .lookup _ (.tmp 21) (.tmp 22) true, _, _, _, _⟩) (v := .tuple #[.slice none 0 0, .bool false]) rfl (by kernel_rfl) (by kernel_rfl) (by kernel_rfl) (fun _ _ _ h => h) (yieldsIf_lookup_none (by rfl) _ _ _ rfl eM cpS_key hme hze bm ok rfl ⟨g, 0, none⟩ _ rfl (cpS_cells _ _) Hgo.out (fun w hS => hS.2.2)) hHeld ?_
  simp only [Act.put, List.setIfInBounds_toArray, List.set_cons_zero, List.set_cons_succ]
  refine wpAnyH_take (i := 6) (oi := ⟨some 17, .move (.tmp 23), _, _, _, _⟩) (v := .tuple #[.slice none 0 0, .bool false]) rfl (by kernel_rfl) (by kernel_rfl) (by kernel_rfl) (fun _ _ _ h => h) (Or.inl ⟨by rfl, by intro w hSw; (try dsimp only at hSw); go_split_ands; go_simp⟩) hHeld ?_
  simp only [Act.put, List.setIfInBounds_toArray, List.set_cons_zero, List.set_cons_succ]
  refine wpAnyH_take (i := 7) (oi := ⟨some 24, .extract (.tmp 17) 0, _, _, _, _⟩) (v := .slice none 0 0) rfl (by kernel_rfl) (by kernel_rfl) (by kernel_rfl) (fun _ _ _ h => h) (Or.inl ⟨by rfl, by intro w hSw; (try dsimp only at hSw); go_split_ands; go_simp⟩) hHeld ?_
  simp only [Act.put, List.setIfInBounds_toArray, List.set_cons_zero, List.set_cons_succ]
  refine wpAnyH_take (i := 8) (oi := ⟨some 25, .extract (.tmp 17) 1, _, _, _, _⟩) (v := .bool false) rfl (by kernel_rfl) (by kernel_rfl) (by kernel_rfl) (fun _ _ _ h => h) (Or.inl ⟨by rfl, by intro w hSw; (try dsimp only at hSw); go_split_ands; go_simp⟩) hHeld ?_
  simp only [Act.put, List.setIfInBounds_toArray, List.set_cons_zero, List.set_cons_succ]
  refine wpAnyH_take (i := 9) (oi := ⟨some 7, .assign (.tmp 24), _, _, _, _⟩) (v := .slice none 0 0) rfl (by kernel_rfl) (by kernel_rfl) (by kernel_rfl) (fun _ _ _ h => h) (Or.inl ⟨by rfl, by intro w hSw; (try dsimp only at hSw); go_split_ands; go_simp⟩) hHeld ?_
  simp only [Act.put, List.setIfInBounds_toArray, List.set_cons_zero, List.set_cons_succ]
  refine wpAnyH_take (i := 10) (oi := ⟨some 8, .assign (.tmp 25), _, _, _, _⟩) (v := .bool false) rfl (by kernel_rfl) (by kernel_rfl) (by kernel_rfl) (fun _ _ _ h => h) (Or.inl ⟨by rfl, by intro w hSw; (try dsimp only at hSw); go_split_ands; go_simp⟩) hHeld ?_
  simp only [Act.put, List.setIfInBounds_toArray, List.set_cons_zero, List.set_cons_succ]
  refine wpAnyH_done (by kernel_rfl) ?_ _
  clear hHeld
  have B2 : Hid (Below w.heap.size w w1.drew) := Below.drew B1.out
  have O2 : Hid (objU w1.drew w.heap.size 315 [.pointer (some ⟨g, 0, none⟩), .int .i64 n]) := O1.out.below (Below.drew (Below.refl _ _))
  clear O1 B1
  generalize w1.drew = w2 at *
  have c0 := (Hc.out.below B2.out).cell 0 _ rfl
  have f0 := (Hc.out.below B2.out).fz 0
  go_wp2_with fail
  generalize wrap64 (z - (n : Int)) = zz
  have O3 : Hid (objU (w2.setCell ⟨bc, 0, none⟩ (.int .i64 zz)) bc 309 [.int .i64 zz, .map (some bm)]) := (Hc.out.below B2.out).set 0 _
  have E3 : Hid (OutS [bc] w2 (w2.setCell ⟨bc, 0, none⟩ (.int .i64 zz))) := (OutS.refl _ _).setCell (by simp) _
  generalize w2.setCell ⟨bc, 0, none⟩ (.int .i64 zz) = w3 at *
  have E3d : Hid (OutS [bc] w2 w3.drew) := E3.out.trans (OutS.drew _ _)
  have O3d : Hid (objU w3.drew bc 309 [.int .i64 zz, .map (some bm)]) := O3.out.below (Below.drew (Below.refl _ _))
  have hws : w.heap.size ≤ w3.drew.heap.size := Nat.le_trans B2.out.size E3d.out.size
  have hcw : bc ≠ w.heap.size := by omega
  have hmw : bm ≠ w.heap.size := by omega
  have Oh : Hid (objU w3.drew w.heap.size 315 [.pointer (some ⟨g, 0, none⟩), .int .i64 n]) := O2.out.outS E3d.out (by simp; omega)
  have Pd : Hid (PMap w3.drew [cpS1] bm ok) := (Hm.out.below B2.out).outS E3d.out (by simp; omega) (fun c h => by have := Hokc.out c h; simp; omega)
  have Gd : Hid (openBlk w3.drew g) := openBlkS (openBlkB Hop.out B2.out) E3d.out (by simp; omega)
  have Zd : Hid (w3.drew.ownsRow 0 e0 1 (.slice (some ⟨g, 0, none⟩) n p) n zs) := uowns_frame Hz.out (fun x hx => by
    have e : x = g := by simpa [blkOf, Value.ownBlock] using hx
    subst e
    exact (E3d.out.block x (by have := B2.out.size; omega) (by simp; omega)).trans (B2.out.block x hgl))
  have Ec : Hid (OutS [bc, bm] w w3.drew) := (OutS.of_below B2.out).trans (E3d.out.mono (fun t ht => by simp at ht; simp [ht]))
  clear O2 E3 O3 E3d c0 f0 B2
  refine wp_region_held_drew (S := fun w' => w'.cell? ⟨bc, 1, none⟩ = some (.map (some bm)) ∧ w'.rangeAt w.heap.size 0 [.pointer (some ⟨g, 0, none⟩), .int .i64 n] ∧ True) (by kernel_rfl) ⟨O3d.out.cell 1 _ rfl, Oh.out.range 0 _ (fun j v h => by rw [Nat.zero_add]; exact h), trivial⟩ (fun hHeld => ?_)
  refine wpAnyH_take (i := 0) (oi := ⟨some 44, .move (.tmp 0), _, _, _, _⟩) (v := .pointer (some ⟨bc, 0, none⟩)) rfl (by kernel_rfl) (by kernel_rfl) (by kernel_rfl) (fun _ _ _ h => h) (Or.inl ⟨by rfl, by intro w hSw; (try dsimp only at hSw); go_split_ands; go_simp⟩) hHeld ?_
  simp only [Act.put, List.setIfInBounds_toArray, List.set_cons_zero, List.set_cons_succ]
  refine wpAnyH_take (i := 1) (oi := ⟨some 45, .nilCheck (.tmp 44), _, _, _, _⟩) (v := .pointer (some ⟨bc, 0, none⟩)) rfl (by kernel_rfl) (by kernel_rfl) (by kernel_rfl) (fun _ _ _ h => h) (Or.inl ⟨by rfl, by intro w hSw; (try dsimp only at hSw); go_split_ands; go_simp⟩) hHeld ?_
  simp only [Act.put, List.setIfInBounds_toArray, List.set_cons_zero, List.set_cons_succ]
  refine wpAnyH_take (i := 2) (oi := ⟨some 46, .fieldAddr _ (.tmp 45) 1, _, _, _, _⟩) (v := .pointer (some ⟨bc, 1, none⟩)) rfl (by kernel_rfl) (by kernel_rfl) (by kernel_rfl) (fun _ _ _ h => h) (Or.inl ⟨by rfl, by intro w hSw; (try dsimp only at hSw); go_split_ands; go_simp⟩) hHeld ?_
  simp only [Act.put, List.setIfInBounds_toArray, List.set_cons_zero, List.set_cons_succ]
  refine wpAnyH_take (i := 3) (oi := ⟨some 47, .load _ (.tmp 46), _, _, _, _⟩) (v := .map (some bm)) rfl (by kernel_rfl) (by kernel_rfl) (by kernel_rfl) (fun _ _ _ h => h) (yields_cell (by rfl) _ _ rfl bc 1 rfl _ (fun w hS => hS.1) (by kernel_rfl)) hHeld ?_
  simp only [Act.put, List.setIfInBounds_toArray, List.set_cons_zero, List.set_cons_succ]
  refine wpAnyH_take (i := 4) (oi := ⟨some 48, .load _ (.tmp 6), _, _, _, _⟩) (v := .agg #[.pointer (some ⟨g, 0, none⟩), .int .i64 n]) rfl (by kernel_rfl) (by kernel_rfl) (by kernel_rfl) (fun _ _ _ h => h) (yieldsIf_load_row (by rfl) 315 _ rfl w.heap.size 0 rfl [.pointer (some ⟨g, 0, none⟩), .int .i64 n] (fun w hS => hS.2.1) (by kernel_rfl) HI.out) hHeld ?_
  simp only [Act.put, List.setIfInBounds_toArray, List.set_cons_zero, List.set_cons_succ]
  refine wpAnyH_take (i := 5) (oi := ⟨some 49, .move (.tmp 1), _, _, _, _⟩) (v := .slice (some ⟨g, 0, none⟩) n p) rfl (by kernel_rfl) (by kernel_rfl) (by kernel_rfl) (fun _ _ _ h => h) (Or.inl ⟨by rfl, by intro w hSw; (try dsimp only at hSw); go_split_ands; go_simp⟩) hHeld ?_
  simp only [Act.put, List.setIfInBounds_toArray, List.set_cons_zero, List.set_cons_succ]
  obtain ⟨i0, hi0, hi1, hi2, hi3⟩ := infoCpS
  refine wpAnyH_ready (rs := [6]) (by kernel_rfl) (by simp) (AllReadyH.cons (o := ⟨some 50, .call { callee := .builtin .append, args := #[.const (.slice none 0 0), .tmp 49], argTypes := #[23, 23] }, _, _, _, _⟩) rfl (fun K hK => ?_) AllReadyH.nil)
  refine step_append_rows rfl (.const (.slice none 0 0)) (.tmp 49) 23 rfl w.heap.size 9 i0 (.string ByteArray.empty) 1 16 (by kernel_rfl) hi0 hi1 hi2 hi3 (by decide) (by decide) (.slice none 0 0) 0 [] (by simp [Act.eval]) (World.ownsRow_nil _ _ _ _) (.slice (some ⟨g, 0, none⟩) n p) (by simp [Act.eval]) n zs Zd.out.1 H1.out (.inr ⟨⟨g, 0, none⟩, p, rfl, fun j u hj => ?cells⟩) (by unfold maxLen; omega) (by omega) hws ?_
  case cells =>
    have hj2 : j < n * 1 := by have := (List.getElem?_eq_some_iff.1 hj).1; rw [Zd.out.1] at this; exact this
    rw [Go.WideShapes.add_plain, Nat.zero_add, Zd.out.cellAt j hj2]; exact hj
  intro v4 w4 hown4 hgrow4 hat4
  rw [Nat.zero_add, List.nil_append] at hown4
  obtain ⟨cap4, rfl⟩ := new_row hown4 hpos hat4
  have E4 : Hid (OutS [] w3.drew w4) := OutS.grownNone hgrow4
  have R4 := uhide hown4
  clear hown4 hgrow4 hat4
  have O4 : Hid (objU w4 bc 309 [.int .i64 zz, .map (some bm)]) := O3d.out.outS E4.out (by simp)
  have Oh4 : Hid (objU w4 w.heap.size 315 [.pointer (some ⟨g, 0, none⟩), .int .i64 n]) := Oh.out.outS E4.out (by simp)
  have P4 : Hid (PMap w4 [cpS1] bm ok) := Pd.out.outS E4.out (by simp) (fun c h => by simp)
  have G4 : Hid (openBlk w4 g) := openBlkS Gd.out E4.out (by simp)
  have Ec4 : Hid (OutS [bc, bm] w w4) := Ec.out.trans (E4.out.mono (fun t ht => by cases ht))
  have hmN : bm < w3.drew.heap.size := by omega
  refine hK.out _ _ ⟨O4.out.cell 1 _ rfl, Oh4.out.range 0 _ (fun j v h => by rw [Nat.zero_add]; exact h), trivial⟩ (fun hHeld => ?_)
  clear hK K Pd Gd Zd Ec O3d Oh
  simp only [Act.put, List.setIfInBounds_toArray, List.set_cons_zero, List.set_cons_succ]
  generalize w3.drew.heap.size = N4 at *
  refine wpAnyH_ready (rs := [7]) (by kernel_rfl) (by simp) (AllReadyH.cons (o := ⟨none, .mapUpdate 307 (.tmp 47) (.tmp 48) (.tmp 50), _, _, _, _⟩) rfl (fun K hK => ?_) AllReadyH.nil)
  refine step_update_put (a := _) _ (by rfl) (.tmp 47) (.tmp 48) (.tmp 50) 307 rfl eM cpS_key rfl hme bm ok (by simp [Act.eval]) P4.out ⟨g, 0, none⟩ (n : Int) (by simp [Act.eval]) G4.out Hgo.out hgm ?_
  intro w5 hV hO5
  have V5 : Hid (PMapV w5 cpS1 bm ok ⟨g, 0, none⟩ n (.slice (some ⟨N4, 0, none⟩) n cap4)) := hV
  have O5 : Hid (objU w5 bc 309 [.int .i64 zz, .map (some bm)]) := O4.out.outS hO5 (by simp; omega)
  have Oh5 : Hid (objU w5 w.heap.size 315 [.pointer (some ⟨g, 0, none⟩), .int .i64 n]) := Oh4.out.outS hO5 (by simp; omega)
  have R5 : Hid (w5.ownsRow w.heap.size 9 1 (.slice (some ⟨N4, 0, none⟩) n cap4) n zs) := uowns_frame R4.out (fun x hx => hO5.block x (ublk_lt R4.out x hx).2 (by
    have e : x = N4 := by simpa [blkOf, Value.ownBlock] using hx
    subst e
    simp; omega))
  have Ec5 : Hid (OutS [bc, bm] w w5) := Ec4.out.trans (hO5.mono (fun t ht => by simp at ht; simp [ht]))
  refine hK.out _ _ ⟨O5.out.cell 1 _ rfl, Oh5.out.range 0 _ (fun j v h => by rw [Nat.zero_add]; exact h), trivial⟩ (fun hHeld => ?_)
  clear hK K hV hO5 O4 Oh4 R4 P4 G4 Ec4 E4
  simp only [Act.put]
  refine wpAnyH_done (by kernel_rfl) ?_ _
  clear hHeld
  go_wp2_with fail
  refine wp_region_held_drew (S := fun w' => w'.cell? ⟨bc, 1, none⟩ = some (.map (some bm)) ∧ w'.rangeAt w.heap.size 0 [.pointer (some ⟨g, 0, none⟩), .int .i64 n] ∧ PMapV w' cpS1 bm ok ⟨g, 0, none⟩ n (.slice (some ⟨N4, 0, none⟩) n cap4)) (by kernel_rfl) ⟨cellB (O5.out.cell 1 _ rfl) (Below.drew (Below.refl _ _)), (World.rangeAt_drew _ _ _ _).2 (Oh5.out.range 0 _ (fun j v h => by rw [Nat.zero_add]; exact h)), V5.out.below (Below.drew (Below.refl _ _))⟩ (fun hHeld => ?_)
  refine wpAnyH_take (i := 0) (oi := ⟨some 51, .move (.tmp 0), _, _, _, _⟩) (v := .pointer (some ⟨bc, 0, none⟩)) rfl (by kernel_rfl) (by kernel_rfl) (by kernel_rfl) (fun _ _ _ h => h) (Or.inl ⟨by rfl, by intro w hSw; (try dsimp only at hSw); go_split_ands; go_simp⟩) hHeld ?_
  simp only [Act.put, List.setIfInBounds_toArray, List.set_cons_zero, List.set_cons_succ]
  refine wpAnyH_take (i := 1) (oi := ⟨some 52, .nilCheck (.tmp 51), _, _, _, _⟩) (v := .pointer (some ⟨bc, 0, none⟩)) rfl (by kernel_rfl) (by kernel_rfl) (by kernel_rfl) (fun _ _ _ h => h) (Or.inl ⟨by rfl, by intro w hSw; (try dsimp only at hSw); go_split_ands; go_simp⟩) hHeld ?_
  simp only [Act.put, List.setIfInBounds_toArray, List.set_cons_zero, List.set_cons_succ]
  refine wpAnyH_take (i := 2) (oi := ⟨some 53, .fieldAddr _ (.tmp 52) 1, _, _, _, _⟩) (v := .pointer (some ⟨bc, 1, none⟩)) rfl (by kernel_rfl) (by kernel_rfl) (by kernel_rfl) (fun _ _ _ h => h) (Or.inl ⟨by rfl, by intro w hSw; (try dsimp only at hSw); go_split_ands; go_simp⟩) hHeld ?_
  simp only [Act.put, List.setIfInBounds_toArray, List.set_cons_zero, List.set_cons_succ]
  refine wpAnyH_take (i := 3) (oi := ⟨some 54, .load _ (.tmp 53), _, _, _, _⟩) (v := .map (some bm)) rfl (by kernel_rfl) (by kernel_rfl) (by kernel_rfl) (fun _ _ _ h => h) (yields_cell (by rfl) _ _ rfl bc 1 rfl _ (fun w hS => hS.1) (by kernel_rfl)) hHeld ?_
  simp only [Act.put, List.setIfInBounds_toArray, List.set_cons_zero, List.set_cons_succ]
  refine wpAnyH_take (i := 4) (oi := ⟨some 55, .load _ (.tmp 6), _, _, _, _⟩) (v := .agg #[.pointer (some ⟨g, 0, none⟩), .int .i64 n]) rfl (by kernel_rfl) (by kernel_rfl) (by kernel_rfl) (fun _ _ _ h => h) (yieldsIf_load_row (by rfl) 315 _ rfl w.heap.size 0 rfl [.pointer (some ⟨g, 0, none⟩), .int .i64 n] (fun w hS => hS.2.1) (by kernel_rfl) HI.out) hHeld ?_
  simp only [Act.put, List.setIfInBounds_toArray, List.set_cons_zero, List.set_cons_succ]
  refine wpAnyH_take (i := 5) (oi := ⟨some 56, .lookup _ (.tmp 54) (.tmp 55) false, _, _, _, _⟩) (v := .slice (some ⟨N4, 0, none⟩) n cap4) rfl (by kernel_rfl) (by kernel_rfl) (by kernel_rfl) (fun _ _ _ h => h) (yieldsIf_lookup_put (by rfl) _ _ _ rfl eM cpS_key cpS_num rfl (by decide) hme bm ok rfl ⟨g, 0, none⟩ n _ rfl (fun w hS => hS.2.2)) hHeld ?_
  simp only [Act.put, List.setIfInBounds_toArray, List.set_cons_zero, List.set_cons_succ]
  refine wpAnyH_take (i := 6) (oi := ⟨some 4, .assign (.tmp 56), _, _, _, _⟩) (v := .slice (some ⟨N4, 0, none⟩) n cap4) rfl (by kernel_rfl) (by kernel_rfl) (by kernel_rfl) (fun _ _ _ h => h) (Or.inl ⟨by rfl, by intro w hSw; (try dsimp only at hSw); go_split_ands; go_simp⟩) hHeld ?_
  simp only [Act.put, List.setIfInBounds_toArray, List.set_cons_zero, List.set_cons_succ]
  refine wpAnyH_take (i := 7) (oi := ⟨some 5, .assign (.const (.bool true)), _, _, _, _⟩) (v := .bool true) rfl (by kernel_rfl) (by kernel_rfl) (by kernel_rfl) (fun _ _ _ h => h) (Or.inl ⟨by rfl, by intro w hSw; (try dsimp only at hSw); go_split_ands; go_simp⟩) hHeld ?_
  simp only [Act.put, List.setIfInBounds_toArray, List.set_cons_zero, List.set_cons_succ]
  refine wpAnyH_done (by kernel_rfl) ?_ _
  clear hHeld
  have HF : Hid (cpyAns w w5.drew 9 309 cpS1 1 n zs bc bm ok (some ⟨g, 0, none⟩) (.returned (.tuple #[.slice (some ⟨N4, 0, none⟩) n cap4, .bool true]))) := cpyAns.mk' ⟨Ec5.out.trans (OutS.drew _ _), ⟨⟨zz, O5.out.below (Below.drew (Below.refl _ _))⟩, ((V5.out.below (Below.drew (Below.refl _ _))).map rfl).mono (fun c h => h.imp id (fun e => ⟨hpos, by rw [e]⟩))⟩, .inr ⟨hpos, rfl, N4, cap4, rfl, hws, uowns_frame R5.out (fun x hx => (Below.drew (Below.refl _ _)).block x (ublk_lt R5.out x hx).2)⟩⟩
  go_wp2
  go_ret2
  exact HF.out
end Go.Proofs.YtdnodaoeflbfkaaGreat
/- The copier of lists of values: what it answers. -/
namespace Go.Proofs.YtdnodaoeflbfkaaGreat
open Go.RowKit Go.BigFrame Go.ChangeMaps Go.MapKept
set_option linter.unusedVariables false

theorem infoCpV : ∃ i, Tryz.prog.info? 90 = some i ∧ i.zero = some (.agg #[.int .i64 0, .string ByteArray.empty, .int .i64 0, .slice none 0 0, .slice none 0 0]) ∧ i.size = 5 ∧ i.bytes = 80 := by
  have h : (Tryz.prog.info? 90).map (fun i => (i.zero, i.size, i.bytes)) = some (some (.agg #[.int .i64 0, .string ByteArray.empty, .int .i64 0, .slice none 0 0, .slice none 0 0]), 5, 80) := by kernel_rfl
  cases e : Tryz.prog.info? 90 with
  | none => rw [e] at h; cases h
  | some i => rw [e] at h; simp at h; exact ⟨i, rfl, h.1, h.2.1, h.2.2⟩
def cpV0 : Field := ⟨"first", 316, 0, false, "", "loop.example/g00119/impl", 0⟩
def cpV1 : Field := ⟨"count", 3, 1, false, "", "loop.example/g00119/impl", 8⟩
theorem cpV_num : numFld Tryz.prog cpV1.type := ⟨.i64, by kernel_rfl⟩
theorem cpV_key : PKey Tryz.prog 318 cpV0 [cpV1] where
  under := ⟨_, by kernel_rfl, rfl⟩
  held := by kernel_rfl
  name := by decide
  off := rfl
  first := by
    obtain ⟨i, h1, _, h2, _⟩ := infoCpV
    exact ⟨_, i, by kernel_rfl, h1, by rw [h2]; decide⟩
  rest := fun f hf => by
    simp only [List.mem_cons, List.mem_nil_iff, or_false] at hf
    subst hf
    exact .inr cpV_num
theorem cpV_map : ∃ e, Tryz.prog.underlying 310 = some (.map 318 e) ∧ ∀ w, (zeroValue e).run Tryz.prog w = .ok (.slice none 0 0) w := ⟨88, by kernel_rfl, fun w => by kernel_rfl⟩
theorem cpV_cells (a : Addr) (n : Int) : keyCells [cpV1] a #[.pointer (some a), .int .i64 n] := ⟨rfl, fun f hf => by
  simp only [List.mem_cons, List.mem_nil_iff, or_false] at hf
  subst hf
  exact ⟨_, rfl⟩⟩
theorem cpV_row : (Tryz.prog.info? 318).map (·.size) = some 2 := by kernel_rfl
set_option maxRecDepth 20000 in
set_option maxHeartbeats 3200000 in
theorem cpyV_any (n : Nat) (zs : List Value) (a : Option Addr) (p : Nat) (z : Int) (bc bm : Nat) (ok : Addr → Prop) (e0 : TypeId) (w : World) (hz : w.ownsRow 0 e0 5 (.slice a n p) n zs) (h1 : ∀ u ∈ zs, u.oneCell' = true) (hc : objU w bc 312 [.int .i64 z, .map (some bm)])
    (hm : PMap w [cpV1] bm ok) (hcm : bc ≠ bm) (hok : ∀ g ∈ blkOf (.slice a n p), g ≠ bm ∧ g ≠ bc ∧ ∀ o, ¬ ok ⟨g, o, none⟩) (hokc : ∀ c, ok c → c.block ≠ bc ∧ c.block ≠ bm) (hn : n ≤ 100000000) :
    Calls Tryz.prog 241 #[.pointer (some ⟨bc, 0, none⟩), .slice a n p] w fun e w' => cpyAns w w' 90 312 cpV1 5 n zs bc bm ok a e := by
  by_cases h0 : n = 0
  · subst h0
    have cn : (((0 : Nat) : Int) == 0) = true := by simp
    have HC : Hid (cpyAns w w 90 312 cpV1 5 0 zs bc bm ok a (.returned (.tuple #[.slice none 0 0, .bool false]))) := cpyAns.mk' ⟨OutS.refl _ _, ⟨⟨z, hc⟩, hm.mono (fun c h => .inl h)⟩, .inl ⟨rfl, rfl, rfl⟩⟩
    clear hz h1 hc hm hcm hok hokc
    go_enter Tryz.func241, Tryz.ntmps241
    go_wp2
    go_ret2
    exact HC.out
  have hpos : 0 < n := Nat.pos_of_ne_zero h0
  have cn : ((n : Int) == 0) = false := by simp; omega
  obtain ⟨g, rfl⟩ : ∃ g, a = some ⟨g, 0, none⟩ := by
    rcases hz.2 with ⟨_, h⟩ | ⟨g, cap, cur, h, _⟩
    · omega
    · cases h; exact ⟨g, rfl⟩
  have hgl : g < w.heap.size := (ublk_lt hz g (by simp [blkOf, Value.ownBlock])).2
  obtain ⟨hgm, hgc, hgo⟩ := hok g (by simp [blkOf, Value.ownBlock])
  have Hop : Hid (openBlk w g) := by
    rcases hz.2 with ⟨h, _⟩ | ⟨g', cap, cur, h, _, hh, _⟩
    · cases h
    · cases h; exact ⟨_, _, hh⟩
  have hcl := hc.lt
  have hml := hm.lt
  have Hz := uhide hz
  have H1 := uhide h1
  have Hc := uhide hc
  have Hm := uhide hm
  have Hgo : Hid (¬ ok ⟨g, 0, none⟩) := hgo 0
  have Hokc := uhide hokc
  have HI : Hid ((Tryz.prog.info? 318).map (·.size) = some 2) := cpV_row
  clear hz h1 hc hm hok hgo hokc h0
  go_enter Tryz.func241, Tryz.ntmps241
  go_wp2_with fail
  have O1 : Hid (objU (w.alloc (.cells #[.pointer (some ⟨g, 0, none⟩), .int .i64 n] 318)) w.heap.size 318 [.pointer (some ⟨g, 0, none⟩), .int .i64 n]) := objU.new _ _ _
  have B1 : Hid (Below w.heap.size w (w.alloc (.cells #[.pointer (some ⟨g, 0, none⟩), .int .i64 n] 318))) := (Below.refl _ _).alloc (Nat.le_refl _) _
  generalize w.alloc (.cells #[.pointer (some ⟨g, 0, none⟩), .int .i64 n] 318) = w1 at *
  obtain ⟨eM, hme, hze⟩ := cpV_map
  refine wp_region_held_drew (S := fun w' => w'.cell? ⟨bc, 1, none⟩ = some (.map (some bm)) ∧ w'.rangeAt w.heap.size 0 [.pointer (some ⟨g, 0, none⟩), .int .i64 n] ∧ PMap w' [cpV1] bm ok ∧ openBlk w' g) (by kernel_rfl) ⟨cellB ((Hc.out.below B1.out).cell 1 _ rfl) (Below.drew (Below.refl _ _)), (World.rangeAt_drew _ _ _ _).2 (O1.out.range 0 _ (fun j v h => by rw [Nat.zero_add]; exact h)), (Hm.out.below B1.out).below (Below.drew (Below.refl _ _)), openBlkB (openBlkB Hop.out B1.out) (Below.drew (Below.refl _ _))⟩ (fun hHeld => ?_)
  refine wpAnyH_take (i := 0) (oi := ⟨some 18, .move (.tmp 0), _, _, _, _⟩) (v := .pointer (some ⟨bc, 0, none⟩)) rfl (by kernel_rfl) (by kernel_rfl) (by kernel_rfl) (fun _ _ _ h => h) (Or.inl ⟨by rfl, by intro w hSw; (try dsimp only at hSw); go_split_ands; go_simp⟩) hHeld ?_
  simp only [Act.put, List.setIfInBounds_toArray, List.set_cons_zero, List.set_cons_succ]
  refine wpAnyH_take (i := 1) (oi := ⟨some 19, .nilCheck (.tmp 18), _, _, _, _⟩) (v := .pointer (some ⟨bc, 0, none⟩)) rfl (by kernel_rfl) (by kernel_rfl) (by kernel_rfl) (fun _ _ _ h => h) (Or.inl ⟨by rfl, by intro w hSw; (try dsimp only at hSw); go_split_ands; go_simp⟩) hHeld ?_
  simp only [Act.put, List.setIfInBounds_toArray, List.set_cons_zero, List.set_cons_succ]
  refine wpAnyH_take (i := 2) (oi := ⟨some 20, .fieldAddr _ (.tmp 19) 1, _, _, _, _⟩) (v := .pointer (some ⟨bc, 1, none⟩)) rfl (by kernel_rfl) (by kernel_rfl) (by kernel_rfl) (fun _ _ _ h => h) (Or.inl ⟨by rfl, by intro w hSw; (try dsimp only at hSw); go_split_ands; go_simp⟩) hHeld ?_
  simp only [Act.put, List.setIfInBounds_toArray, List.set_cons_zero, List.set_cons_succ]
  refine wpAnyH_take (i := 3) (oi := ⟨some 21, .load _ (.tmp 20), _, _, _, _⟩) (v := .map (some bm)) rfl (by kernel_rfl) (by kernel_rfl) (by kernel_rfl) (fun _ _ _ h => h) (yields_cell (by rfl) _ _ rfl bc 1 rfl _ (fun w hS => hS.1) (by kernel_rfl)) hHeld ?_
  simp only [Act.put, List.setIfInBounds_toArray, List.set_cons_zero, List.set_cons_succ]
  refine wpAnyH_take (i := 4) (oi := ⟨some 22, .load _ (.tmp 6), _, _, _, _⟩) (v := .agg #[.pointer (some ⟨g, 0, none⟩), .int .i64 n]) rfl (by kernel_rfl) (by kernel_rfl) (by kernel_rfl) (fun _ _ _ h => h) (yieldsIf_load_row (by rfl) 318 _ rfl w.heap.size 0 rfl [.pointer (some ⟨g, 0, none⟩), .int .i64 n] (fun w hS => hS.2.1) (by kernel_rfl) HI.out) hHeld ?_
  simp only [Act.put, List.setIfInBounds_toArray, List.set_cons_zero, List.set_cons_succ]
  refine wpAnyH_take (i := 5) (oi := ⟨some 23, .lookup _ (.tmp 21) (.tmp 22) true, _, _, _, _⟩) (v := .tuple #[.slice none 0 0, .bool false]) rfl (by kernel_rfl) (by kernel_rfl) (by kernel_rfl) (fun _ _ _ h => h) (yieldsIf_lookup_none (by rfl) _ _ _ rfl eM cpV_key hme hze bm ok rfl ⟨g, 0, none⟩ _ rfl (cpV_cells _ _) Hgo.out (fun w hS => hS.2.2)) hHeld ?_
  simp only [Act.put, List.setIfInBounds_toArray, List.set_cons_zero, List.set_cons_succ]
  refine wpAnyH_take (i := 6) (oi := ⟨some 17, .move (.tmp 23), _, _, _, _⟩) (v := .tuple #[.slice none 0 0, .bool false]) rfl (by kernel_rfl) (by kernel_rfl) (by kernel_rfl) (fun _ _ _ h => h) (Or.inl ⟨by rfl, by intro w hSw; (try dsimp only at hSw); go_split_ands; go_simp⟩) hHeld ?_
  simp only [Act.put, List.setIfInBounds_toArray, List.set_cons_zero, List.set_cons_succ]
  refine wpAnyH_take (i := 7) (oi := ⟨some 24, .extract (.tmp 17) 0, _, _, _, _⟩) (v := .slice none 0 0) rfl (by kernel_rfl) (by kernel_rfl) (by kernel_rfl) (fun _ _ _ h => h) (Or.inl ⟨by rfl, by intro w hSw; (try dsimp only at hSw); go_split_ands; go_simp⟩) hHeld ?_
  simp only [Act.put, List.setIfInBounds_toArray, List.set_cons_zero, List.set_cons_succ]
  refine wpAnyH_take (i := 8) (oi := ⟨some 25, .extract (.tmp 17) 1, _, _, _, _⟩) (v := .bool false) rfl (by kernel_rfl) (by kernel_rfl) (by kernel_rfl) (fun _ _ _ h => h) (Or.inl ⟨by rfl, by intro w hSw; (try dsimp only at hSw); go_split_ands; go_simp⟩) hHeld ?_
  simp only [Act.put, List.setIfInBounds_toArray, List.set_cons_zero, List.set_cons_succ]
  refine wpAnyH_take (i := 9) (oi := ⟨some 7, .assign (.tmp 24), _, _, _, _⟩) (v := .slice none 0 0) rfl (by kernel_rfl) (by kernel_rfl) (by kernel_rfl) (fun _ _ _ h => h) (Or.inl ⟨by rfl, by intro w hSw; (try dsimp only at hSw); go_split_ands; go_simp⟩) hHeld ?_
  simp only [Act.put, List.setIfInBounds_toArray, List.set_cons_zero, List.set_cons_succ]
  refine wpAnyH_take (i := 10) (oi := ⟨some 8, .assign (.tmp 25), _, _, _, _⟩) (v := .bool false) rfl (by kernel_rfl) (by kernel_rfl) (by kernel_rfl) (fun _ _ _ h => h) (Or.inl ⟨by rfl, by intro w hSw; (try dsimp only at hSw); go_split_ands; go_simp⟩) hHeld ?_
  simp only [Act.put, List.setIfInBounds_toArray, List.set_cons_zero, List.set_cons_succ]
  refine wpAnyH_done (by kernel_rfl) ?_ _
  clear hHeld
  have B2 : Hid (Below w.heap.size w w1.drew) := Below.drew B1.out
  have O2 : Hid (objU w1.drew w.heap.size 318 [.pointer (some ⟨g, 0, none⟩), .int .i64 n]) := O1.out.below (Below.drew (Below.refl _ _))
  clear O1 B1
  generalize w1.drew = w2 at *
  have c0 := (Hc.out.below B2.out).cell 0 _ rfl
  have f0 := (Hc.out.below B2.out).fz 0
  go_wp2_with fail
  generalize wrap64 (z - (n : Int)) = zz
  have O3 : Hid (objU (w2.setCell ⟨bc, 0, none⟩ (.int .i64 zz)) bc 312 [.int .i64 zz, .map (some bm)]) := (Hc.out.below B2.out).set 0 _
  have E3 : Hid (OutS [bc] w2 (w2.setCell ⟨bc, 0, none⟩ (.int .i64 zz))) := (OutS.refl _ _).setCell (by simp) _
  generalize w2.setCell ⟨bc, 0, none⟩ (.int .i64 zz) = w3 at *
  have E3d : Hid (OutS [bc] w2 w3.drew) := E3.out.trans (OutS.drew _ _)
  have O3d : Hid (objU w3.drew bc 312 [.int .i64 zz, .map (some bm)]) := O3.out.below (Below.drew (Below.refl _ _))
  have hws : w.heap.size ≤ w3.drew.heap.size := Nat.le_trans B2.out.size E3d.out.size
  have hcw : bc ≠ w.heap.size := by omega
  have hmw : bm ≠ w.heap.size := by omega
  have Oh : Hid (objU w3.drew w.heap.size 318 [.pointer (some ⟨g, 0, none⟩), .int .i64 n]) := O2.out.outS E3d.out (by simp; omega)
  have Pd : Hid (PMap w3.drew [cpV1] bm ok) := (Hm.out.below B2.out).outS E3d.out (by simp; omega) (fun c h => by have := Hokc.out c h; simp; omega)
  have Gd : Hid (openBlk w3.drew g) := openBlkS (openBlkB Hop.out B2.out) E3d.out (by simp; omega)
  have Zd : Hid (w3.drew.ownsRow 0 e0 5 (.slice (some ⟨g, 0, none⟩) n p) n zs) := uowns_frame Hz.out (fun x hx => by
    have e : x = g := by simpa [blkOf, Value.ownBlock] using hx
    subst e
    exact (E3d.out.block x (by have := B2.out.size; omega) (by simp; omega)).trans (B2.out.block x hgl))
  have Ec : Hid (OutS [bc, bm] w w3.drew) := (OutS.of_below B2.out).trans (E3d.out.mono (fun t ht => by simp at ht; simp [ht]))
  clear O2 E3 O3 E3d c0 f0 B2
  refine wp_region_held_drew (S := fun w' => w'.cell? ⟨bc, 1, none⟩ = some (.map (some bm)) ∧ w'.rangeAt w.heap.size 0 [.pointer (some ⟨g, 0, none⟩), .int .i64 n] ∧ True) (by kernel_rfl) ⟨O3d.out.cell 1 _ rfl, Oh.out.range 0 _ (fun j v h => by rw [Nat.zero_add]; exact h), trivial⟩ (fun hHeld => ?_)
  refine wpAnyH_take (i := 0) (oi := ⟨some 44, .move (.tmp 0), _, _, _, _⟩) (v := .pointer (some ⟨bc, 0, none⟩)) rfl (by kernel_rfl) (by kernel_rfl) (by kernel_rfl) (fun _ _ _ h => h) (Or.inl ⟨by rfl, by intro w hSw; (try dsimp only at hSw); go_split_ands; go_simp⟩) hHeld ?_
  simp only [Act.put, List.setIfInBounds_toArray, List.set_cons_zero, List.set_cons_succ]
  refine wpAnyH_take (i := 1) (oi := ⟨some 45, .nilCheck (.tmp 44), _, _, _, _⟩) (v := .pointer (some ⟨bc, 0, none⟩)) rfl (by kernel_rfl) (by kernel_rfl) (by kernel_rfl) (fun _ _ _ h => h) (Or.inl ⟨by rfl, by intro w hSw; (try dsimp only at hSw); go_split_ands; go_simp⟩) hHeld ?_
  simp only [Act.put, List.setIfInBounds_toArray, List.set_cons_zero, List.set_cons_succ]
  refine wpAnyH_take (i := 2) (oi := ⟨some 46, .fieldAddr _ (.tmp 45) 1, _, _, _, _⟩) (v := .pointer (some ⟨bc, 1, none⟩)) rfl (by kernel_rfl) (by kernel_rfl) (by kernel_rfl) (fun _ _ _ h => h) (Or.inl ⟨by rfl, by intro w hSw; (try dsimp only at hSw); go_split_ands; go_simp⟩) hHeld ?_
  simp only [Act.put, List.setIfInBounds_toArray, List.set_cons_zero, List.set_cons_succ]
  refine wpAnyH_take (i := 3) (oi := ⟨some 47, .load _ (.tmp 46), _, _, _, _⟩) (v := .map (some bm)) rfl (by kernel_rfl) (by kernel_rfl) (by kernel_rfl) (fun _ _ _ h => h) (yields_cell (by rfl) _ _ rfl bc 1 rfl _ (fun w hS => hS.1) (by kernel_rfl)) hHeld ?_
  simp only [Act.put, List.setIfInBounds_toArray, List.set_cons_zero, List.set_cons_succ]
  refine wpAnyH_take (i := 4) (oi := ⟨some 48, .load _ (.tmp 6), _, _, _, _⟩) (v := .agg #[.pointer (some ⟨g, 0, none⟩), .int .i64 n]) rfl (by kernel_rfl) (by kernel_rfl) (by kernel_rfl) (fun _ _ _ h => h) (yieldsIf_load_row (by rfl) 318 _ rfl w.heap.size 0 rfl [.pointer (some ⟨g, 0, none⟩), .int .i64 n] (fun w hS => hS.2.1) (by kernel_rfl) HI.out) hHeld ?_
  simp only [Act.put, List.setIfInBounds_toArray, List.set_cons_zero, List.set_cons_succ]
  refine wpAnyH_take (i := 5) (oi := ⟨some 49, .move (.tmp 1), _, _, _, _⟩) (v := .slice (some ⟨g, 0, none⟩) n p) rfl (by kernel_rfl) (by kernel_rfl) (by kernel_rfl) (fun _ _ _ h => h) (Or.inl ⟨by rfl, by intro w hSw; (try dsimp only at hSw); go_split_ands; go_simp⟩) hHeld ?_
  simp only [Act.put, List.setIfInBounds_toArray, List.set_cons_zero, List.set_cons_succ]
  obtain ⟨i0, hi0, hi1, hi2, hi3⟩ := infoCpV
  refine wpAnyH_ready (rs := [6]) (by kernel_rfl) (by simp) (AllReadyH.cons (o := ⟨some 50, .call { callee := .builtin .append, args := #[.const (.slice none 0 0), .tmp 49], argTypes := #[88, 88] }, _, _, _, _⟩) rfl (fun K hK => ?_) AllReadyH.nil)
  refine step_append_rows rfl (.const (.slice none 0 0)) (.tmp 49) 88 rfl w.heap.size 90 i0 (.agg #[.int .i64 0, .string ByteArray.empty, .int .i64 0, .slice none 0 0, .slice none 0 0]) 5 80 (by kernel_rfl) hi0 hi1 hi2 hi3 (by decide) (by decide) (.slice none 0 0) 0 [] (by simp [Act.eval]) (World.ownsRow_nil _ _ _ _) (.slice (some ⟨g, 0, none⟩) n p) (by simp [Act.eval]) n zs Zd.out.1 H1.out (.inr ⟨⟨g, 0, none⟩, p, rfl, fun j u hj => ?cells⟩) (by unfold maxLen; omega) (by omega) hws ?_
  case cells =>
    have hj2 : j < n * 5 := by have := (List.getElem?_eq_some_iff.1 hj).1; rw [Zd.out.1] at this; exact this
    rw [Go.WideShapes.add_plain, Nat.zero_add, Zd.out.cellAt j hj2]; exact hj
  intro v4 w4 hown4 hgrow4 hat4
  rw [Nat.zero_add, List.nil_append] at hown4
  obtain ⟨cap4, rfl⟩ := new_row hown4 hpos hat4
  have E4 : Hid (OutS [] w3.drew w4) := OutS.grownNone hgrow4
  have R4 := uhide hown4
  clear hown4 hgrow4 hat4
  have O4 : Hid (objU w4 bc 312 [.int .i64 zz, .map (some bm)]) := O3d.out.outS E4.out (by simp)
  have Oh4 : Hid (objU w4 w.heap.size 318 [.pointer (some ⟨g, 0, none⟩), .int .i64 n]) := Oh.out.outS E4.out (by simp)
  have P4 : Hid (PMap w4 [cpV1] bm ok) := Pd.out.outS E4.out (by simp) (fun c h => by simp)
  have G4 : Hid (openBlk w4 g) := openBlkS Gd.out E4.out (by simp)
  have Ec4 : Hid (OutS [bc, bm] w w4) := Ec.out.trans (E4.out.mono (fun t ht => by cases ht))
  have hmN : bm < w3.drew.heap.size := by omega
  refine hK.out _ _ ⟨O4.out.cell 1 _ rfl, Oh4.out.range 0 _ (fun j v h => by rw [Nat.zero_add]; exact h), trivial⟩ (fun hHeld => ?_)
  clear hK K Pd Gd Zd Ec O3d Oh
  simp only [Act.put, List.setIfInBounds_toArray, List.set_cons_zero, List.set_cons_succ]
  generalize w3.drew.heap.size = N4 at *
  refine wpAnyH_ready (rs := [7]) (by kernel_rfl) (by simp) (AllReadyH.cons (o := ⟨none, .mapUpdate 310 (.tmp 47) (.tmp 48) (.tmp 50), _, _, _, _⟩) rfl (fun K hK => ?_) AllReadyH.nil)
  refine step_update_put (a := _) _ (by rfl) (.tmp 47) (.tmp 48) (.tmp 50) 310 rfl eM cpV_key rfl hme bm ok (by simp [Act.eval]) P4.out ⟨g, 0, none⟩ (n : Int) (by simp [Act.eval]) G4.out Hgo.out hgm ?_
  intro w5 hV hO5
  have V5 : Hid (PMapV w5 cpV1 bm ok ⟨g, 0, none⟩ n (.slice (some ⟨N4, 0, none⟩) n cap4)) := hV
  have O5 : Hid (objU w5 bc 312 [.int .i64 zz, .map (some bm)]) := O4.out.outS hO5 (by simp; omega)
  have Oh5 : Hid (objU w5 w.heap.size 318 [.pointer (some ⟨g, 0, none⟩), .int .i64 n]) := Oh4.out.outS hO5 (by simp; omega)
  have R5 : Hid (w5.ownsRow w.heap.size 90 5 (.slice (some ⟨N4, 0, none⟩) n cap4) n zs) := uowns_frame R4.out (fun x hx => hO5.block x (ublk_lt R4.out x hx).2 (by
    have e : x = N4 := by simpa [blkOf, Value.ownBlock] using hx
    subst e
    simp; omega))
  have Ec5 : Hid (OutS [bc, bm] w w5) := Ec4.out.trans (hO5.mono (fun t ht => by simp at ht; simp [ht]))
  refine hK.out _ _ ⟨O5.out.cell 1 _ rfl, Oh5.out.range 0 _ (fun j v h => by rw [Nat.zero_add]; exact h), trivial⟩ (fun hHeld => ?_)
  clear hK K hV hO5 O4 Oh4 R4 P4 G4 Ec4 E4
  simp only [Act.put]
  refine wpAnyH_done (by kernel_rfl) ?_ _
  clear hHeld
  go_wp2_with fail
  refine wp_region_held_drew (S := fun w' => w'.cell? ⟨bc, 1, none⟩ = some (.map (some bm)) ∧ w'.rangeAt w.heap.size 0 [.pointer (some ⟨g, 0, none⟩), .int .i64 n] ∧ PMapV w' cpV1 bm ok ⟨g, 0, none⟩ n (.slice (some ⟨N4, 0, none⟩) n cap4)) (by kernel_rfl) ⟨cellB (O5.out.cell 1 _ rfl) (Below.drew (Below.refl _ _)), (World.rangeAt_drew _ _ _ _).2 (Oh5.out.range 0 _ (fun j v h => by rw [Nat.zero_add]; exact h)), V5.out.below (Below.drew (Below.refl _ _))⟩ (fun hHeld => ?_)
  refine wpAnyH_take (i := 0) (oi := ⟨some 51, .move (.tmp 0), _, _, _, _⟩) (v := .pointer (some ⟨bc, 0, none⟩)) rfl (by kernel_rfl) (by kernel_rfl) (by kernel_rfl) (fun _ _ _ h => h) (Or.inl ⟨by rfl, by intro w hSw; (try dsimp only at hSw); go_split_ands; go_simp⟩) hHeld ?_
  simp only [Act.put, List.setIfInBounds_toArray, List.set_cons_zero, List.set_cons_succ]
  refine wpAnyH_take (i := 1) (oi := ⟨some 52, .nilCheck (.tmp 51), _, _, _, _⟩) (v := .pointer (some ⟨bc, 0, none⟩)) rfl (by kernel_rfl) (by kernel_rfl) (by kernel_rfl) (fun _ _ _ h => h) (Or.inl ⟨by rfl, by intro w hSw; (try dsimp only at hSw); go_split_ands; go_simp⟩) hHeld ?_
  simp only [Act.put, List.setIfInBounds_toArray, List.set_cons_zero, List.set_cons_succ]
  refine wpAnyH_take (i := 2) (oi := ⟨some 53, .fieldAddr _ (.tmp 52) 1, _, _, _, _⟩) (v := .pointer (some ⟨bc, 1, none⟩)) rfl (by kernel_rfl) (by kernel_rfl) (by kernel_rfl) (fun _ _ _ h => h) (Or.inl ⟨by rfl, by intro w hSw; (try dsimp only at hSw); go_split_ands; go_simp⟩) hHeld ?_
  simp only [Act.put, List.setIfInBounds_toArray, List.set_cons_zero, List.set_cons_succ]
  refine wpAnyH_take (i := 3) (oi := ⟨some 54, .load _ (.tmp 53), _, _, _, _⟩) (v := .map (some bm)) rfl (by kernel_rfl) (by kernel_rfl) (by kernel_rfl) (fun _ _ _ h => h) (yields_cell (by rfl) _ _ rfl bc 1 rfl _ (fun w hS => hS.1) (by kernel_rfl)) hHeld ?_
  simp only [Act.put, List.setIfInBounds_toArray, List.set_cons_zero, List.set_cons_succ]
  refine wpAnyH_take (i := 4) (oi := ⟨some 55, .load _ (.tmp 6), _, _, _, _⟩) (v := .agg #[.pointer (some ⟨g, 0, none⟩), .int .i64 n]) rfl (by kernel_rfl) (by kernel_rfl) (by kernel_rfl) (fun _ _ _ h => h) (yieldsIf_load_row (by rfl) 318 _ rfl w.heap.size 0 rfl [.pointer (some ⟨g, 0, none⟩), .int .i64 n] (fun w hS => hS.2.1) (by kernel_rfl) HI.out) hHeld ?_
  simp only [Act.put, List.setIfInBounds_toArray, List.set_cons_zero, List.set_cons_succ]
  refine wpAnyH_take (i := 5) (oi := ⟨some 56, .lookup _ (.tmp 54) (.tmp 55) false, _, _, _, _⟩) (v := .slice (some ⟨N4, 0, none⟩) n cap4) rfl (by kernel_rfl) (by kernel_rfl) (by kernel_rfl) (fun _ _ _ h => h) (yieldsIf_lookup_put (by rfl) _ _ _ rfl eM cpV_key cpV_num rfl (by decide) hme bm ok rfl ⟨g, 0, none⟩ n _ rfl (fun w hS => hS.2.2)) hHeld ?_
  simp only [Act.put, List.setIfInBounds_toArray, List.set_cons_zero, List.set_cons_succ]
  refine wpAnyH_take (i := 6) (oi := ⟨some 4, .assign (.tmp 56), _, _, _, _⟩) (v := .slice (some ⟨N4, 0, none⟩) n cap4) rfl (by kernel_rfl) (by kernel_rfl) (by kernel_rfl) (fun _ _ _ h => h) (Or.inl ⟨by rfl, by intro w hSw; (try dsimp only at hSw); go_split_ands; go_simp⟩) hHeld ?_
  simp only [Act.put, List.setIfInBounds_toArray, List.set_cons_zero, List.set_cons_succ]
  refine wpAnyH_take (i := 7) (oi := ⟨some 5, .assign (.const (.bool true)), _, _, _, _⟩) (v := .bool true) rfl (by kernel_rfl) (by kernel_rfl) (by kernel_rfl) (fun _ _ _ h => h) (Or.inl ⟨by rfl, by intro w hSw; (try dsimp only at hSw); go_split_ands; go_simp⟩) hHeld ?_
  simp only [Act.put, List.setIfInBounds_toArray, List.set_cons_zero, List.set_cons_succ]
  refine wpAnyH_done (by kernel_rfl) ?_ _
  clear hHeld
  have HF : Hid (cpyAns w w5.drew 90 312 cpV1 5 n zs bc bm ok (some ⟨g, 0, none⟩) (.returned (.tuple #[.slice (some ⟨N4, 0, none⟩) n cap4, .bool true]))) := cpyAns.mk' ⟨Ec5.out.trans (OutS.drew _ _), ⟨⟨zz, O5.out.below (Below.drew (Below.refl _ _))⟩, ((V5.out.below (Below.drew (Below.refl _ _))).map rfl).mono (fun c h => h.imp id (fun e => ⟨hpos, by rw [e]⟩))⟩, .inr ⟨hpos, rfl, N4, cap4, rfl, hws, uowns_frame R5.out (fun x hx => (Below.drew (Below.refl _ _)).block x (ublk_lt R5.out x hx).2)⟩⟩
  go_wp2
  go_ret2
  exact HF.out
end Go.Proofs.YtdnodaoeflbfkaaGreat
/- Data as cells: the helpers of the laws over rows of texts, numbers and bytes. -/
namespace Go.Proofs.YtdnodaoeflbfkaaGreat
open Go.RowKit Go.BigFrame
set_option linter.unusedVariables false

theorem infoU {P : Program} {t : TypeId} {z : Value} {k b : Nat} (h : (P.info? t).map (fun i => (i.zero, i.size, i.bytes)) = some (some z, k, b)) : ∃ i, P.info? t = some i ∧ i.zero = some z ∧ i.size = k ∧ i.bytes = b := by
  cases e : P.info? t with
  | none => rw [e] at h; cases h
  | some i => rw [e] at h; simp at h; exact ⟨i, rfl, h.1, h.2.1, h.2.2⟩
theorem tyS.one {n : Nat} {cs : UD} {t : Nat} {q : Nat} (h : tyS 1 n cs t) (hq : q < n) : tyL (rowU cs 1 q) (uE t) := h.row hq
theorem row1 {w : World} {lo hi b off : Nat} {cs : UD} (h : uM w lo hi cs b off) (q : Nat) {v : Value} (hr : rowU cs 1 q = .p v .nil) : w.cell? ⟨b, off + q, none⟩ = some v := by
  have := h.row 1 q
  rw [hr, Nat.mul_one] at this
  exact this.1
theorem at1 {cs : UD} {k q : Nat} {v : Value} (hk : k = 1) (hr : rowU cs k q = .p v .nil) : cs.at? q = some (.p v) := by
  subst hk
  have := rowU_at cs 1 q 0 (by omega)
  rw [hr, Nat.mul_one, Nat.add_zero] at this
  rw [← this]; rfl
theorem uconv_one (w : World) (x : Int) : (convert 208 9 (.slice (some ⟨w.heap.size, 0, none⟩) 1 1)).run Tryz.prog (w.alloc (.cells #[.int .u8 x] 5)) =
    .ok (.string ([x].foldl (fun r n => r.push (UInt8.ofNat n.toNat)) ByteArray.empty)) (w.alloc (.cells #[.int .u8 x] 5)) := by
  rw [run_convert_bytes_string _ _ _ _ _ _ _ Tryz.underlying208 Tryz.underlying5 Tryz.underlying9, run_bytesToString _ _ 1 1 [x]]
  simp [loadCells, go_sem]
set_option maxHeartbeats 400000 in
theorem umarkText_any (n : Nat) (w : World) (hn : n ≤ 1000000000) (h1 : 1 ≤ n) :
    Calls Tryz.prog 84 #[.int .i64 n] w fun e w' => e = .returned (.string (umtx n)) ∧ Below w.heap.size w w' := by
  have hpos : ¬ (n : Int) ≤ 0 := by omega
  have HT : Hid (umtx n = ⟨#[109]⟩ ++ umTo n n ⟨#[]⟩) := rfl
  go_enter Tryz.func84, Tryz.ntmps84
  go_wp2
  go_loopw [0, 3] (fun i v wr => ∃ (k : Nat) (s : ByteArray), k ≤ n ∧ i = .int .i64 k ∧ v = .string s ∧ s.size ≤ n - k ∧ Hid (∃ f, k ≤ f ∧ umTo f k s = umTo n n ⟨#[]⟩) ∧ Below w.heap.size w wr) (fun i _ _ => (intOf i).toNat)
  case atStart => exact ⟨n, _, by omega, rfl, rfl, Nat.zero_le _, ⟨n, Nat.le_refl _, rfl⟩, Below.refl _ _⟩
  case round =>
    obtain ⟨k, s, hk, rfl, rfl, hs, Hx, hbw⟩ := hrel
    by_cases hlt : 0 < k
    · have hlt' : (0 : Int) < (k : Int) := by omega
      have hcv := uconv_one wr (48 + (k : Int) % 10)
      have hd : ([48 + (k : Int) % 10]).foldl (fun r n => r.push (UInt8.ofNat n.toNat)) ByteArray.empty = umStep k := rfl
      rw [hd] at hcv
      have hds := umStep_size k
      have Hn : Hid (∃ f, k / 10 ≤ f ∧ umTo f (k / 10) (umStep k ++ s) = umTo n n ⟨#[]⟩) := by
        obtain ⟨f, hf, he⟩ := Hx.out
        cases f with
        | zero => omega
        | succ f => exact ⟨f, by omega, by rw [← he, umTo, if_neg (by omega)]⟩
      clear hd Hx
      generalize umStep k = D at *
      have hsz : (D ++ s).size ≤ n - k / 10 := by rw [ByteArray.size_append, hds]; omega
      have hds' : D.size ≤ 1 := by omega
      clear hds
      go_wp2
      go_roundw
      case rel => exact ⟨k / 10, _, by omega, by go_num, rfl, hsz, Hn, hbw.alloc hbw.size _⟩
      case measure => simp [intOf]; omega
    · have e : k = 0 := by omega
      subst e
      have Hs : Hid (umTo n n ⟨#[]⟩ = s) := by obtain ⟨f, _, he⟩ := Hx.out; show _ = _; rw [← he, umTo_zero]
      clear Hx
      go_wp2
      go_ret
      exact ⟨by rw [HT.out, Hs.out]; rfl, hbw⟩
def plainF (fs : List UF) : Bool := fs.all fun f => match f with | .i _ => true | .b => true | _ => false
theorem wt_plainU {fs : List UF} (hp : plainF fs = true) : ∀ (d : UD) (i : Nat), tyU d fs i → wt d = 0
  | .nil, _, _ => rfl
  | .p v r, i, ⟨⟨f, h1, h2⟩, h3⟩ => by
    have hf := List.all_eq_true.1 hp f (List.mem_of_getElem? h1)
    rw [wt, wt_plainU hp r (i + 1) h3]
    cases f with
    | i k => obtain ⟨z, rfl, _⟩ := h2; rfl
    | s => cases hf
    | b => obtain ⟨z, rfl⟩ := h2; rfl
    | l k t => cases hf
  | .l k n cs r, i, ⟨⟨t, h1, h2⟩, h3⟩ => by
    have hf := List.all_eq_true.1 hp _ (List.mem_of_getElem? h1)
    cases hf
theorem wt_plain {k n : Nat} {cs : UD} {t : Nat} (h : tyS k n cs t) (hp : plainF (uE t) = true) : wt cs = 0 := wt_plainU hp cs 0 h.2.2.2.2
theorem uszStringS_any {lo hi : Nat} (n : Nat) (cs : UD) (c : Value) (left : Int) (w : World) (ht : tyS 1 n cs 0) (h0 : 0 ≤ left) (h1 : left ≤ 1048576) (hx : uS w lo hi 1 n cs c) :
    Calls Tryz.prog 48 #[c, .int .i64 left] w fun e w' => e = .returned (.int .i64 (leftI left (n + wt cs))) ∧ Below w.heap.size w w' := by
  obtain ⟨a, cap, rfl, hx2⟩ := hx
  have Hx : Hid (uS w lo hi 1 n cs (.slice a n cap)) := ⟨a, cap, rfl, hx2⟩
  have hmx := ht.2.2.1
  unfold maxLen at hmx
  have Ht := uhide ht
  clear hx2 ht
  by_cases c1 : left - (n : Int) < 0
  · have E : Hid (leftI left (n + wt cs) = -1) := by show _ = _; unfold leftI; rw [if_pos (by omega)]
    go_enter Tryz.func48, Tryz.ntmps48
    go_wp2
    go_ret
    exact ⟨ret_intU E.out.symm, Below.refl _ _⟩
  have E : Hid (leftI left (n + wt cs) = leftI (left - n) (wt (cs.dropN (0 * 1)))) := by
    show _ = _
    obtain ⟨g1, g2, g3⟩ := leftI_pos (x := left) (a := n) (wt cs) (by unfold leftI; split <;> omega)
    rw [g1, g2, Nat.zero_mul, UD.dropN_zero]
  go_enter Tryz.func48, Tryz.ntmps48
  go_wp2
  go_loopw [1, 5] (fun l i wr => ∃ (q : Nat) (x : Int), q ≤ n ∧ i = .int .i64 q ∧ l = .int .i64 x ∧ 0 ≤ x ∧ x ≤ 1048576 ∧ Hid (leftI left (n + wt cs) = leftI x (wt (cs.dropN (q * 1)))) ∧ Below w.heap.size w wr) (fun _ i _ => n - (intOf i).toNat)
  case atStart => exact ⟨0, _, Nat.zero_le _, rfl, rfl, by omega, by omega, E, Below.refl _ _⟩
  case round =>
    obtain ⟨q, x, hq, rfl, rfl, hx0, hx1, Hs, hbw⟩ := hrel
    by_cases hlt : q < n
    · obtain ⟨b, off, rfl, hbb, hm⟩ := (Hx.out.below hbw).cells (by omega)
      obtain ⟨z0, hR, hz⟩ := partsString (Ht.out.row hlt)
      have q0 := row1 hm q hR
      have hw : wt (cs.dropN (q * 1)) = z0.size + wt (cs.dropN ((q + 1) * 1)) := by rw [UD.drop_row cs 1 q, wt_app, hR]; rfl
      unfold maxLen at hz
      clear hm hR
      by_cases hneg : x - (z0.size : Int) < 0
      · have hr : Hid (leftI left (n + wt cs) = -1) := by rw [show Hid _ = _ from rfl, Hs.out, hw]; exact leftI_neg _ hx0 (by unfold leftI; split <;> omega)
        clear hw Hs E
        go_wp2
        go_ret
        exact ⟨ret_intU hr.out.symm, hbw⟩
      · have hr : Hid (leftI left (n + wt cs) = leftI (x - z0.size) (wt (cs.dropN ((q + 1) * 1)))) := by
          obtain ⟨g1, g2, g3⟩ := leftI_pos (x := x) (a := z0.size) (wt (cs.dropN ((q + 1) * 1))) (by unfold leftI; split <;> omega)
          show _ = _
          rw [Hs.out, hw, g1, g2]
        clear hw Hs E
        go_wp2
        go_roundw
        case rel => exact ⟨q + 1, _, by omega, by go_num, rfl, by omega, by omega, hr, hbw⟩
        case measure => simp [intOf]; omega
    · have e : q = n := by omega
      subst e
      have hr : Hid (leftI left (q + wt cs) = x) := by
        show _ = _
        rw [Hs.out, ← Ht.out.2.2.2.1, UD.dropN_all]
        exact leftI_zero hx0
      clear Hs E
      go_wp2
      go_ret
      exact ⟨ret_intU hr.out.symm, hbw⟩
theorem Tryz.infoUString : (Tryz.prog.info? 9).map (fun i => (i.zero, i.size, i.bytes)) = some (some (.string ByteArray.empty), 1, 16) := by kernel_rfl
theorem utoStringS_any {lo hi : Nat} (n : Nat) (cs : UD) (c : Value) (w : World) (ht : tyS 1 n cs 0) (hn : n ≤ 1048576) (hx : uS w lo hi 1 n cs c) :
    Calls Tryz.prog 51 #[c] w fun e w' => ∃ c' S, e = .returned c' ∧ oS w' 1 n cs c' S ∧ S.Nodup ∧ (∀ s ∈ S, w.heap.size ≤ s) ∧ Below w.heap.size w w' := by
  obtain ⟨i0, hinf, hz0, hz1, hz2⟩ := infoU Tryz.infoUString
  obtain ⟨a, cap, rfl, hx2⟩ := hx
  have Hx : Hid (uS w lo hi 1 n cs (.slice a n cap)) := ⟨a, cap, rfl, hx2⟩
  have Ht := uhide ht
  clear hx2 ht
  go_enter Tryz.func51, Tryz.ntmps51
  go_wp2_with (at_make; refine wpList_make_full _ rfl _ _ 23 rfl w.heap.size 9 i0 _ 1 Tryz.underlying23 hinf hz0 hz1 _ _ _ _ n rfl rfl rfl rfl (by rw [hz2]; omega) (by unfold maxLen; omega) (Nat.le_refl _) ?_; intro w1 hown hgrow)
  have T0 := uhide (TS.start (cs := cs) hown (Below.grown (Below.refl _ _) hgrow (Nat.le_refl _) (fun k hk => by cases hk)))
  clear hown hgrow
  go_loopw [4] (fun i wr => ∃ (q : Nat), q ≤ n ∧ i = .int .i64 q ∧ Hid (TS w wr 9 1 n cs q)) (fun i _ => n - (intOf i).toNat)
  case atStart => exact ⟨0, Nat.zero_le _, rfl, T0⟩
  case round =>
    clear T0
    obtain ⟨q, hq, rfl, HT⟩ := hrel
    by_cases hlt : q < n
    · obtain ⟨b, off, rfl, hbb, hm⟩ := (Hx.out.below HT.out.bel).cells (by omega)
      obtain ⟨z0, hR, hz⟩ := partsString (Ht.out.row hlt)
      have q0 := row1 hm q hR
      obtain ⟨o0, p0⟩ := HT.out.cell q (by omega)
      have f0 := HT.out.fz q
      have T1 : Hid (TS w (wSet wr w.heap.size (q * 1) [.string z0]) 9 1 n cs (q + 1)) := HT.out.step (Below.refl _ _) (T := []) (by rw [hR]; exact ⟨_, rfl, rfl, rfl⟩) List.nodup_nil (fun t ht => by cases ht) Ht.out.2.2.2.1 hlt
      rw [Nat.mul_one] at T1
      clear hm hR hz
      go_wp2
      go_roundw
      case rel => exact ⟨q + 1, by omega, by go_num, T1⟩
      case measure => simp [intOf]; omega
    · have e : q = n := by omega
      subst e
      obtain ⟨S, h1, h2, h3, h4⟩ := HT.out.done (by decide) Ht.out.2.2.2.1
      have HS : Hid (oS wr 1 q cs (.slice (some ⟨w.heap.size, 0, none⟩) q q) S ∧ S.Nodup ∧ (∀ s ∈ S, w.heap.size ≤ s) ∧ Below w.heap.size w wr) := ⟨h1, h2, h3, h4⟩
      clear h1 h2 h3 h4
      go_wp2
      go_ret
      exact ⟨_, S, rfl, HS.out⟩
theorem ueqStringS_any {lo hi lo' hi' : Nat} (n : Nat) (cs : UD) (c c' : Value) (w : World) (ht : tyS 1 n cs 0) (hx : uS w lo hi 1 n cs c) (hy : uS w lo' hi' 1 n cs c') :
    Calls Tryz.prog 54 #[c, c'] w fun e w' => e = .returned (.bool true) ∧ Below w.heap.size w w' := by
  obtain ⟨a, cap, rfl, hx2⟩ := hx
  obtain ⟨a', cap', rfl, hy2⟩ := hy
  have Hx : Hid (uS w lo hi 1 n cs (.slice a n cap)) := ⟨a, cap, rfl, hx2⟩
  have Hy : Hid (uS w lo' hi' 1 n cs (.slice a' n cap')) := ⟨a', cap', rfl, hy2⟩
  have hmx := ht.2.2.1
  unfold maxLen at hmx
  have Ht := uhide ht
  have hb0 : ((n : Int) != (n : Int)) = false := by simp
  clear hx2 hy2 ht
  go_enter Tryz.func54, Tryz.ntmps54
  go_wp2
  go_loopw [5] (fun i wr => ∃ (q : Nat), q ≤ n ∧ i = .int .i64 q ∧ Below w.heap.size w wr) (fun i _ => n - (intOf i).toNat)
  case atStart => exact ⟨0, Nat.zero_le _, rfl, Below.refl _ _⟩
  case round =>
    obtain ⟨q, hq, rfl, hbw⟩ := hrel
    by_cases hlt : q < n
    · obtain ⟨b, off, rfl, hbb, hm⟩ := (Hx.out.below hbw).cells (by omega)
      obtain ⟨b', off', rfl, hbb', hm'⟩ := (Hy.out.below hbw).cells (by omega)
      obtain ⟨z0, hR, hz⟩ := partsString (Ht.out.row hlt)
      have q0 := row1 hm q hR
      have q0' := row1 hm' q hR
      have he : (z0.toList == z0.toList) = true := by simp
      clear hm hm' hR hz Hx Hy Ht
      go_wp2
      go_quiet (fail)
      go_wp2
      go_roundw
      case rel => exact ⟨q + 1, by omega, by go_num, below_drewN hbw _⟩
      case measure => simp [intOf]; omega
    · have e : q = n := by omega
      subst e
      go_wp2
      go_ret
      exact ⟨rfl, hbw⟩
set_option maxHeartbeats 400000 in
theorem umarkStringS_any (n k0 : Nat) (cs : UD) (c : Value) (S : List Nat) (w : World) (ht : tyS 1 n cs 0) (hnd : S.Nodup) (hk0 : 1 ≤ k0) (hk1 : k0 + cnt cs ≤ 100000000) (hx : oS w 1 n cs c S) :
    Calls Tryz.prog 56 #[c, .int .i64 k0] w fun e w' => e = .returned (.int .i64 (k0 + cnt cs : Nat)) ∧ oS w' 1 n (mk cs k0) c S ∧ OutS S w w' := by
  obtain ⟨a, cap, rfl⟩ := hx.slice
  have hmx := ht.2.2.1
  unfold maxLen at hmx
  rcases Nat.eq_zero_or_pos n with h0 | hpos
  · subst h0
    obtain ⟨e1, e2⟩ := hx.empty rfl k0
    rw [e1, e2]
    have Hx := uhide hx
    clear hx ht hnd e1 e2
    go_enter Tryz.func56, Tryz.ntmps56
    go_wp2
    go_loopw [1, 5] (fun s i wr => i = .int .i64 0 ∧ s = .int .i64 k0 ∧ wr = w) (fun _ _ _ => 0)
    case atStart => exact ⟨rfl, rfl, rfl⟩
    case round =>
      obtain ⟨rfl, rfl, rfl⟩ := hrel
      go_wp2
      go_ret
      exact ⟨rfl, Hx.out, OutS.refl _ _⟩
  obtain ⟨e, g, S1, xs0, M0, rfl, hp0, hl0⟩ := MS.start hx hnd hpos k0
  obtain ⟨cap, h1, hgl⟩ := M0.own
  cases h1
  have M0 := uhide M0
  have Ht := uhide ht
  have Hp0 := uhide hp0
  have Hkk : Hid (∀ q, k0 + cnt (cs.takeN (q * 1)) ≤ 100000000) := fun q => by have := cnt_le cs (q * 1); omega
  clear hx ht hnd hp0 hl0
  go_enter Tryz.func56, Tryz.ntmps56
  go_wp2
  go_loopw [1, 5] (fun s i wr => ∃ (q : Nat), q ≤ n ∧ i = .int .i64 q ∧ s = .int .i64 (k0 + cnt (cs.takeN (q * 1)) : Nat) ∧ Hid (MS w wr e 1 n (.slice (some ⟨g, 0, none⟩) n cap) g cs k0 S1 xs0 (q * 1))) (fun _ i _ => n - (intOf i).toNat)
  case atStart => exact ⟨0, Nat.zero_le _, rfl, rfl, by rw [Nat.zero_mul]; exact M0⟩
  case round =>
    clear M0
    obtain ⟨q, hq, rfl, rfl, HM⟩ := hrel
    by_cases hlt : q < n
    · obtain ⟨z0, hR, hz⟩ := partsString (Ht.out.row hlt)
      have he := at1 rfl hR
      have hkn : cnt (cs.takeN ((q + 1) * 1)) = cnt (cs.takeN (q * 1)) + 1 := by rw [cnt_row, hR]; rfl
      have hkb := Hkk.out (q + 1)
      have Hkn := uhide hkn
      have hm := HM.out
      rw [Nat.mul_one] at hm
      have HP : Hid (∀ (wx : World) (u : Value), MS w wx e 1 n (.slice (some ⟨g, 0, none⟩) n cap) g cs k0 S1 xs0 q → u = mkP (k0 + cnt (cs.takeN (q * 1))) (.string z0) → MS w (wx.setCell ⟨g, q, none⟩ u) e 1 n (.slice (some ⟨g, 0, none⟩) n cap) g cs k0 S1 xs0 ((q + 1) * 1)) := fun wx u h hu => by
        rw [Nat.mul_one] at hu ⊢
        exact h.plain he hu
      have hxv := Hp0.out q _ he
      rw [hkn] at hkb
      generalize hKd : k0 + cnt (cs.takeN (q * 1)) = K at *
      have hK1 : K + 1 ≤ 100000000 := by omega
      have hK0 : 1 ≤ K := by omega
      have HKn : Hid (k0 + cnt (cs.takeN ((q + 1) * 1)) = K + 1) := by show _ = _; rw [Hkn.out]; omega
      have HM2 : Hid (∀ wx, Below wr.heap.size wr wx → MS w wx e 1 n (.slice (some ⟨g, 0, none⟩) n cap) g cs k0 S1 xs0 q) := fun wx hb => hm.below hb
      have Hm0 : Hid (∀ (wx : World) (x : Int), x = (K : Int) → Calls Tryz.prog 84 #[.int .i64 x] wx fun e w' => e = .returned (.string (umtx K)) ∧ Below wx.heap.size wx w') := fun wx x hx => by rw [hx]; exact umarkText_any K wx (by omega) (by omega)
      have Hxv := uhide hxv
      clear hKd hR hkn he hz HM hkb hm hxv Hkn
      have HU : Hid (Value.string (umtx K) = mkP K (.string z0)) := rfl
      generalize umtx K = M0 at *
      go_wp2_with fail
      refine (Hm0.out _ _ rfl).mono ?_
      rintro e1 w2 ⟨rfl, hb2⟩
      have Hms := uhide (HM2.out w2 hb2)
      have q0 := Hms.out.cellAt q _ (Nat.le_refl _) Hxv.out (by omega)
      have f0 := Hms.out.fz q
      clear hb2 HM2
      go_wp2
      go_roundw
      case rel => exact ⟨q + 1, by omega, by go_num, by rw [HKn.out]; go_num, HP.out _ _ Hms.out HU.out⟩
      case measure => simp [intOf]; omega
    · have e : q = n := by omega
      subst e
      obtain ⟨h1, h2⟩ := HM.out.done (by decide)
      have HD := uhide (And.intro h1 h2)
      have hl : cs.takeN (q * 1) = cs := by apply UD.ext; unfold UD.takeN; rw [UD.toL_ofL]; exact List.take_of_length_le (Nat.le_of_eq Ht.out.2.2.2.1)
      rw [hl]
      clear h1 h2 hl HM Ht Hp0 Hkk
      go_wp2
      go_ret
      exact ⟨rfl, HD.out⟩
set_option maxHeartbeats 400000 in
theorem uheldStringS_any {lo hi : Nat} (n k0 : Nat) (cs : UD) (c : Value) (w : World) (ht : tyS 1 n cs 0) (hk0 : 1 ≤ k0) (hk1 : k0 + cnt cs ≤ 100000000) (hx : uS w lo hi 1 n (mk cs k0) c) :
    Calls Tryz.prog 105 #[c, .int .i64 k0] w fun e w' => e = .returned (.int .i64 (k0 + cnt cs : Nat)) ∧ Below w.heap.size w w' := by
  obtain ⟨a, cap, rfl, hx2⟩ := hx
  have Hx : Hid (uS w lo hi 1 n (mk cs k0) (.slice a n cap)) := ⟨a, cap, rfl, hx2⟩
  have hmx := ht.2.2.1
  unfold maxLen at hmx
  have Ht := uhide ht
  have Hkk : Hid (∀ q, k0 + cnt (cs.takeN (q * 1)) ≤ 100000000) := fun q => by have := cnt_le cs (q * 1); omega
  clear hx2 ht
  go_enter Tryz.func105, Tryz.ntmps105
  go_wp2
  go_loopw [1, 5] (fun s i wr => ∃ (q : Nat), q ≤ n ∧ i = .int .i64 q ∧ s = .int .i64 (k0 + cnt (cs.takeN (q * 1)) : Nat) ∧ Below w.heap.size w wr) (fun _ i _ => n - (intOf i).toNat)
  case atStart => exact ⟨0, Nat.zero_le _, rfl, rfl, Below.refl _ _⟩
  case round =>
    obtain ⟨q, hq, rfl, rfl, hbw⟩ := hrel
    by_cases hlt : q < n
    · obtain ⟨b, off, rfl, hbb, hm⟩ := (Hx.out.below hbw).cells (by omega)
      obtain ⟨z0, hR, hz⟩ := partsString (Ht.out.row hlt)
      have he := at1 rfl hR
      have hkn : cnt (cs.takeN ((q + 1) * 1)) = cnt (cs.takeN (q * 1)) + 1 := by rw [cnt_row, hR]; rfl
      have hkb := Hkk.out (q + 1)
      have Hkn := uhide hkn
      have q0 : wr.cell? ⟨b, off + q, none⟩ = some (mkP (k0 + cnt (cs.takeN (q * 1))) (.string z0)) := by
        obtain ⟨c0, g1, g2⟩ := hm.get q _ (mk_get cs k0 q _ he)
        rw [g1, show c0 = _ from g2, Nat.mul_one]
      rw [hkn] at hkb
      generalize hKd : k0 + cnt (cs.takeN (q * 1)) = K at *
      have hK1 : K + 1 ≤ 100000000 := by omega
      have hK0 : 1 ≤ K := by omega
      have HKn : Hid (k0 + cnt (cs.takeN ((q + 1) * 1)) = K + 1) := by show _ = _; rw [Hkn.out]; omega
      replace q0 : wr.cell? ⟨b, off + q, none⟩ = some (.string (umtx K)) := q0
      have Hq : Hid (∀ wx, Below wr.heap.size wr wx → wx.cell? ⟨b, off + q, none⟩ = some (.string (umtx K))) := fun wx hb => (hb.cell (p := ⟨b, off + q, none⟩) (World.block_lt_of_cell? _ _ q0)).trans q0
      have Hm0 : Hid (∀ (wx : World) (x : Int), Below wr.heap.size wr wx → x = (K : Int) → Calls Tryz.prog 84 #[.int .i64 x] wx fun e w' => e = .returned (.string (umtx K)) ∧ Hid (Below wr.heap.size wr w')) := fun wx x hb hx => by rw [hx]; exact (umarkText_any K wx (by omega) (by omega)).mono fun e w' h => ⟨h.1, hb.trans (h.2.mono hb.size)⟩
      clear hKd hR hkn he hz hkb hm Hkn Hx Ht Hkk
      generalize umtx K = M0 at *
      have hE : (M0.toList == M0.toList) = true := by simp
      go_wp2
      go_region_with (go_at_call 84; refine (Hm0.out _ _ (by repeat (first | exact Below.refl _ _ | refine Below.drew ?_ | refine below_drewN ?_ _)) rfl).mono ?_; rintro e1 w2 ⟨rfl, hb2⟩; have q1 := Hq.out _ hb2.out)
      all_goals (
        have Hb2 : Hid (Below w.heap.size w w2) := hbw.trans (hb2.out.mono hbw.size)
        go_wp2
        go_roundw
        case rel => exact ⟨q + 1, by omega, by go_num, by rw [HKn.out]; go_num, by repeat (first | exact Hb2.out | refine Below.drew ?_ | refine below_drewN ?_ _)⟩
        case measure => simp [intOf]; omega)
    · have e : q = n := by omega
      subst e
      have hl : cs.takeN (q * 1) = cs := by apply UD.ext; unfold UD.takeN; rw [UD.toL_ofL]; exact List.take_of_length_le (Nat.le_of_eq Ht.out.2.2.2.1)
      rw [hl]
      clear hl Ht Hkk Hx
      go_wp2
      go_ret
      exact ⟨rfl, hbw⟩
theorem Tryz.infoUInt : (Tryz.prog.info? 3).map (fun i => (i.zero, i.size, i.bytes)) = some (some (.int .i64 0), 1, 8) := by kernel_rfl
theorem utoIntS_any {lo hi : Nat} (n : Nat) (cs : UD) (c : Value) (w : World) (ht : tyS 1 n cs 1) (hn : n ≤ 1048576) (hx : uS w lo hi 1 n cs c) :
    Calls Tryz.prog 15 #[c] w fun e w' => ∃ c' S, e = .returned c' ∧ oS w' 1 n cs c' S ∧ S.Nodup ∧ (∀ s ∈ S, w.heap.size ≤ s) ∧ Below w.heap.size w w' := by
  obtain ⟨i0, hinf, hz0, hz1, hz2⟩ := infoU Tryz.infoUInt
  obtain ⟨a, cap, rfl, hx2⟩ := hx
  have Hx : Hid (uS w lo hi 1 n cs (.slice a n cap)) := ⟨a, cap, rfl, hx2⟩
  have Ht := uhide ht
  clear hx2 ht
  go_enter Tryz.func15, Tryz.ntmps15
  go_wp2_with (at_make; refine wpList_make_full _ rfl _ _ 28 rfl w.heap.size 3 i0 _ 1 Tryz.underlying28 hinf hz0 hz1 _ _ _ _ n rfl rfl rfl rfl (by rw [hz2]; omega) (by unfold maxLen; omega) (Nat.le_refl _) ?_; intro w1 hown hgrow)
  have T0 := uhide (TS.start (cs := cs) hown (Below.grown (Below.refl _ _) hgrow (Nat.le_refl _) (fun k hk => by cases hk)))
  clear hown hgrow
  go_loopw [4] (fun i wr => ∃ (q : Nat), q ≤ n ∧ i = .int .i64 q ∧ Hid (TS w wr 3 1 n cs q)) (fun i _ => n - (intOf i).toNat)
  case atStart => exact ⟨0, Nat.zero_le _, rfl, T0⟩
  case round =>
    clear T0
    obtain ⟨q, hq, rfl, HT⟩ := hrel
    by_cases hlt : q < n
    · obtain ⟨b, off, rfl, hbb, hm⟩ := (Hx.out.below HT.out.bel).cells (by omega)
      obtain ⟨z0, hR, hz⟩ := partsInt (Ht.out.row hlt)
      have q0 := row1 hm q hR
      obtain ⟨o0, p0⟩ := HT.out.cell q (by omega)
      have f0 := HT.out.fz q
      have T1 : Hid (TS w (wSet wr w.heap.size (q * 1) [.int .i64 z0]) 3 1 n cs (q + 1)) := HT.out.step (Below.refl _ _) (T := []) (by rw [hR]; exact ⟨_, rfl, rfl, rfl⟩) List.nodup_nil (fun t ht => by cases ht) Ht.out.2.2.2.1 hlt
      rw [Nat.mul_one] at T1
      clear hm hR hz
      go_wp2
      go_roundw
      case rel => exact ⟨q + 1, by omega, by go_num, T1⟩
      case measure => simp [intOf]; omega
    · have e : q = n := by omega
      subst e
      obtain ⟨S, h1, h2, h3, h4⟩ := HT.out.done (by decide) Ht.out.2.2.2.1
      have HS : Hid (oS wr 1 q cs (.slice (some ⟨w.heap.size, 0, none⟩) q q) S ∧ S.Nodup ∧ (∀ s ∈ S, w.heap.size ≤ s) ∧ Below w.heap.size w wr) := ⟨h1, h2, h3, h4⟩
      clear h1 h2 h3 h4
      go_wp2
      go_ret
      exact ⟨_, S, rfl, HS.out⟩
theorem ueqIntS_any {lo hi lo' hi' : Nat} (n : Nat) (cs : UD) (c c' : Value) (w : World) (ht : tyS 1 n cs 1) (hx : uS w lo hi 1 n cs c) (hy : uS w lo' hi' 1 n cs c') :
    Calls Tryz.prog 17 #[c, c'] w fun e w' => e = .returned (.bool true) ∧ Below w.heap.size w w' := by
  obtain ⟨a, cap, rfl, hx2⟩ := hx
  obtain ⟨a', cap', rfl, hy2⟩ := hy
  have Hx : Hid (uS w lo hi 1 n cs (.slice a n cap)) := ⟨a, cap, rfl, hx2⟩
  have Hy : Hid (uS w lo' hi' 1 n cs (.slice a' n cap')) := ⟨a', cap', rfl, hy2⟩
  have hmx := ht.2.2.1
  unfold maxLen at hmx
  have Ht := uhide ht
  have hb0 : ((n : Int) != (n : Int)) = false := by simp
  clear hx2 hy2 ht
  go_enter Tryz.func17, Tryz.ntmps17
  go_wp2
  go_loopw [5] (fun i wr => ∃ (q : Nat), q ≤ n ∧ i = .int .i64 q ∧ Below w.heap.size w wr) (fun i _ => n - (intOf i).toNat)
  case atStart => exact ⟨0, Nat.zero_le _, rfl, Below.refl _ _⟩
  case round =>
    obtain ⟨q, hq, rfl, hbw⟩ := hrel
    by_cases hlt : q < n
    · obtain ⟨b, off, rfl, hbb, hm⟩ := (Hx.out.below hbw).cells (by omega)
      obtain ⟨b', off', rfl, hbb', hm'⟩ := (Hy.out.below hbw).cells (by omega)
      obtain ⟨z0, hR, hz⟩ := partsInt (Ht.out.row hlt)
      have q0 := row1 hm q hR
      have q0' := row1 hm' q hR
      have he : (z0 != z0) = false := by simp
      clear hm hm' hR hz Hx Hy Ht
      go_wp2
      go_quiet (fail)
      go_wp2
      go_roundw
      case rel => exact ⟨q + 1, by omega, by go_num, below_drewN hbw _⟩
      case measure => simp [intOf]; omega
    · have e : q = n := by omega
      subst e
      go_wp2
      go_ret
      exact ⟨rfl, hbw⟩
set_option maxHeartbeats 400000 in
theorem umarkIntS_any (n k0 : Nat) (cs : UD) (c : Value) (S : List Nat) (w : World) (ht : tyS 1 n cs 1) (hnd : S.Nodup) (hk0 : 1 ≤ k0) (hk1 : k0 + cnt cs ≤ 100000000) (hx : oS w 1 n cs c S) :
    Calls Tryz.prog 22 #[c, .int .i64 k0] w fun e w' => e = .returned (.int .i64 (k0 + cnt cs : Nat)) ∧ oS w' 1 n (mk cs k0) c S ∧ OutS S w w' := by
  obtain ⟨a, cap, rfl⟩ := hx.slice
  have hmx := ht.2.2.1
  unfold maxLen at hmx
  rcases Nat.eq_zero_or_pos n with h0 | hpos
  · subst h0
    obtain ⟨e1, e2⟩ := hx.empty rfl k0
    rw [e1, e2]
    have Hx := uhide hx
    clear hx ht hnd e1 e2
    go_enter Tryz.func22, Tryz.ntmps22
    go_wp2
    go_loopw [1, 5] (fun s i wr => i = .int .i64 0 ∧ s = .int .i64 k0 ∧ wr = w) (fun _ _ _ => 0)
    case atStart => exact ⟨rfl, rfl, rfl⟩
    case round =>
      obtain ⟨rfl, rfl, rfl⟩ := hrel
      go_wp2
      go_ret
      exact ⟨rfl, Hx.out, OutS.refl _ _⟩
  obtain ⟨e, g, S1, xs0, M0, rfl, hp0, hl0⟩ := MS.start hx hnd hpos k0
  obtain ⟨cap, h1, hgl⟩ := M0.own
  cases h1
  have M0 := uhide M0
  have Ht := uhide ht
  have Hp0 := uhide hp0
  have Hkk : Hid (∀ q, k0 + cnt (cs.takeN (q * 1)) ≤ 100000000) := fun q => by have := cnt_le cs (q * 1); omega
  clear hx ht hnd hp0 hl0
  go_enter Tryz.func22, Tryz.ntmps22
  go_wp2
  go_loopw [1, 5] (fun s i wr => ∃ (q : Nat), q ≤ n ∧ i = .int .i64 q ∧ s = .int .i64 (k0 + cnt (cs.takeN (q * 1)) : Nat) ∧ Hid (MS w wr e 1 n (.slice (some ⟨g, 0, none⟩) n cap) g cs k0 S1 xs0 (q * 1))) (fun _ i _ => n - (intOf i).toNat)
  case atStart => exact ⟨0, Nat.zero_le _, rfl, rfl, by rw [Nat.zero_mul]; exact M0⟩
  case round =>
    clear M0
    obtain ⟨q, hq, rfl, rfl, HM⟩ := hrel
    by_cases hlt : q < n
    · obtain ⟨z0, hR, hz⟩ := partsInt (Ht.out.row hlt)
      have he := at1 rfl hR
      have hkn : cnt (cs.takeN ((q + 1) * 1)) = cnt (cs.takeN (q * 1)) + 1 := by rw [cnt_row, hR]; rfl
      have hkb := Hkk.out (q + 1)
      have Hkn := uhide hkn
      have hm := HM.out
      rw [Nat.mul_one] at hm
      have HP : Hid (∀ (wx : World) (u : Value), MS w wx e 1 n (.slice (some ⟨g, 0, none⟩) n cap) g cs k0 S1 xs0 q → u = mkP (k0 + cnt (cs.takeN (q * 1))) (.int .i64 z0) → MS w (wx.setCell ⟨g, q, none⟩ u) e 1 n (.slice (some ⟨g, 0, none⟩) n cap) g cs k0 S1 xs0 ((q + 1) * 1)) := fun wx u h hu => by
        rw [Nat.mul_one] at hu ⊢
        exact h.plain he hu
      have hxv := Hp0.out q _ he
      rw [hkn] at hkb
      generalize hKd : k0 + cnt (cs.takeN (q * 1)) = K at *
      have hK1 : K + 1 ≤ 100000000 := by omega
      have hK0 : 1 ≤ K := by omega
      have HKn : Hid (k0 + cnt (cs.takeN ((q + 1) * 1)) = K + 1) := by show _ = _; rw [Hkn.out]; omega
      have q0 := hm.cellAt q _ (Nat.le_refl _) hxv (by omega)
      have f0 := hm.fz q
      have Hms := uhide hm
      clear hKd hR hkn he hz HM hkb hm hxv Hkn
      have HU : Hid (∀ x : Int, x = (K : Int) → Value.int .i64 x = mkP K (.int .i64 z0)) := fun x hx => by rw [mkP_int _ _ (by omega), hx]
      go_wp2
      go_roundw
      case rel => exact ⟨q + 1, by omega, by go_num, by rw [HKn.out]; go_num, HP.out _ _ Hms.out (HU.out _ rfl)⟩
      case measure => simp [intOf]; omega
    · have e : q = n := by omega
      subst e
      obtain ⟨h1, h2⟩ := HM.out.done (by decide)
      have HD := uhide (And.intro h1 h2)
      have hl : cs.takeN (q * 1) = cs := by apply UD.ext; unfold UD.takeN; rw [UD.toL_ofL]; exact List.take_of_length_le (Nat.le_of_eq Ht.out.2.2.2.1)
      rw [hl]
      clear h1 h2 hl HM Ht Hp0 Hkk
      go_wp2
      go_ret
      exact ⟨rfl, HD.out⟩
set_option maxHeartbeats 400000 in
theorem uheldIntS_any {lo hi : Nat} (n k0 : Nat) (cs : UD) (c : Value) (w : World) (ht : tyS 1 n cs 1) (hk0 : 1 ≤ k0) (hk1 : k0 + cnt cs ≤ 100000000) (hx : uS w lo hi 1 n (mk cs k0) c) :
    Calls Tryz.prog 23 #[c, .int .i64 k0] w fun e w' => e = .returned (.int .i64 (k0 + cnt cs : Nat)) ∧ Below w.heap.size w w' := by
  obtain ⟨a, cap, rfl, hx2⟩ := hx
  have Hx : Hid (uS w lo hi 1 n (mk cs k0) (.slice a n cap)) := ⟨a, cap, rfl, hx2⟩
  have hmx := ht.2.2.1
  unfold maxLen at hmx
  have Ht := uhide ht
  have Hkk : Hid (∀ q, k0 + cnt (cs.takeN (q * 1)) ≤ 100000000) := fun q => by have := cnt_le cs (q * 1); omega
  clear hx2 ht
  go_enter Tryz.func23, Tryz.ntmps23
  go_wp2
  go_loopw [1, 5] (fun s i wr => ∃ (q : Nat), q ≤ n ∧ i = .int .i64 q ∧ s = .int .i64 (k0 + cnt (cs.takeN (q * 1)) : Nat) ∧ Below w.heap.size w wr) (fun _ i _ => n - (intOf i).toNat)
  case atStart => exact ⟨0, Nat.zero_le _, rfl, rfl, Below.refl _ _⟩
  case round =>
    obtain ⟨q, hq, rfl, rfl, hbw⟩ := hrel
    by_cases hlt : q < n
    · obtain ⟨b, off, rfl, hbb, hm⟩ := (Hx.out.below hbw).cells (by omega)
      obtain ⟨z0, hR, hz⟩ := partsInt (Ht.out.row hlt)
      have he := at1 rfl hR
      have hkn : cnt (cs.takeN ((q + 1) * 1)) = cnt (cs.takeN (q * 1)) + 1 := by rw [cnt_row, hR]; rfl
      have hkb := Hkk.out (q + 1)
      have Hkn := uhide hkn
      have q0 : wr.cell? ⟨b, off + q, none⟩ = some (mkP (k0 + cnt (cs.takeN (q * 1))) (.int .i64 z0)) := by
        obtain ⟨c0, g1, g2⟩ := hm.get q _ (mk_get cs k0 q _ he)
        rw [g1, show c0 = _ from g2, Nat.mul_one]
      rw [hkn] at hkb
      generalize hKd : k0 + cnt (cs.takeN (q * 1)) = K at *
      have hK1 : K + 1 ≤ 100000000 := by omega
      have hK0 : 1 ≤ K := by omega
      have HKn : Hid (k0 + cnt (cs.takeN ((q + 1) * 1)) = K + 1) := by show _ = _; rw [Hkn.out]; omega
      replace q0 : wr.cell? ⟨b, off + q, none⟩ = some (.int .i64 (K : Int)) := by rw [q0]; rw [mkP_int _ _ (by omega)]
      clear hKd hR hkn he hz hkb hm Hkn Hx Ht Hkk
      have hE : ((K : Int) != (K : Int)) = false := by simp
      go_wp2
      go_roundw
      case rel => exact ⟨q + 1, by omega, by go_num, by rw [HKn.out]; go_num, hbw⟩
      case measure => simp [intOf]; omega
    · have e : q = n := by omega
      subst e
      have hl : cs.takeN (q * 1) = cs := by apply UD.ext; unfold UD.takeN; rw [UD.toL_ofL]; exact List.take_of_length_le (Nat.le_of_eq Ht.out.2.2.2.1)
      rw [hl]
      clear hl Ht Hkk Hx
      go_wp2
      go_ret
      exact ⟨rfl, hbw⟩
end Go.Proofs.YtdnodaoeflbfkaaGreat
