/- Data as cells: lists that a call builds by append. -/
import Derived.Test.YtdnodaoeflbfkaaU2
import Derived.Deep.AppendLies
import Derived.WideShapes
import Derived.WalkKit
import Derived.Deep.RegionLaw
namespace Go.Proofs.Ytdnodaoeflbfkaa
open Go.RowKit
set_option linter.unusedVariables false

theorem callFunc_enter {P : Program} {f : FuncId} {fn : Func} (h : P.funcs[f]? = some fn) (hn : (fn.name == "runtime.NumGoroutine") = false) (hb : fn.body.isNone = false) (xs : Array Value) (w : World) : (callFunc f xs).run P w = .ok (.enter f xs) w := by
  have hn' : ¬ fn.name = "runtime.NumGoroutine" := by simpa using hn
  have hb' : ¬ fn.body = none := by intro e; rw [e] at hb; cases hb
  simp [callFunc, h, hn', hb', go_sem]
/-- a call of a Go function, by its contract, as a step of a region that draws -/
theorem step_call_of {P : Program} {w : World} {ops : Array Oper} {o : Oper} {a : Act} {K : Act → World → Prop} {Q : Exit → Act → World → Prop} {E : Prop} (hgd : o.guard = none) (f : FuncId) (args : Array Operand) (ts : Array TypeId)
    (ho : o.op = .call { callee := .value (.func f), args := args, argTypes := ts }) (hcf : ∀ xs w, (callFunc f xs).run P w = .ok (.enter f xs) w) (xs : Array Value) (hx : args.map a.eval = xs) {R : Ending → World → Prop} (hc : Calls P f xs w R) (h : ∀ e w', R e w' → ∃ v, e = .returned v ∧ K (a.put o.dst v) w') :
    if Region.wanted o (yielded ops a.tmps) = true then Oper.wp P o a w K Q else E := by
  subst hx
  have hw : Region.wanted o (yielded ops a.tmps) = true := by simp [Region.wanted, hgd]
  rw [if_pos hw]
  unfold Oper.wp execOp
  simp only [ho, resolve, invoke, Sem.run_bind]
  have e : (Deferred.ofValue (a.eval (Operand.func f)) (Array.map a.eval args)).run P w = .ok { target := .fn (.func f) #[], args := args.map a.eval } w := by simp [Act.eval, Deferred.ofValue, go_sem]
  rw [e, Result.andThen_ok]
  simp only [Array.append_empty]
  rw [hcf]
  rw [Oper.upon_enter]
  refine hc.mono ?_
  intro e w' hr
  obtain ⟨v, rfl, hk⟩ := h e w' hr
  exact hk
/-- a list of n things of k cells that the call builds, in blocks from base on -/
def AS (base : Nat) (w : World) (e : TypeId) (k : Nat) (v : Value) (cs : UD) (n : Nat) : Prop :=
  cs.len = n * k ∧ ∃ xs S, w.ownsRow base e k v n xs ∧ oH w cs xs S ∧ own2 S base w.heap.size ∧ ∀ g ∈ blkOf v, g ∉ S
theorem AS.nil (base : Nat) (w : World) (e : TypeId) (k : Nat) : AS base w e k (.slice none 0 0) .nil 0 :=
  ⟨by simp [UD.len, UD.toL], [], [], World.ownsRow_nil w base e k, ⟨rfl, rfl⟩, own2.nil _ _, fun g hg => by cases hg⟩
theorem AS.below {base : Nat} {w w' : World} {e : TypeId} {k : Nat} {v : Value} {cs : UD} {n : Nat} (h : AS base w e k v cs n) (hb : Below w.heap.size w w') : AS base w' e k v cs n := by
  obtain ⟨h0, xs, S, h1, h2, h3, h4⟩ := h
  exact ⟨h0, xs, S, uowns_frame h1 (fun x hx => hb.block x (ublk_lt h1 x hx).2), h2.below hb, h3.mono (Nat.le_refl _) hb.size, h4⟩
theorem AS.slice {base : Nat} {w : World} {e : TypeId} {k : Nat} {v : Value} {cs : UD} {n : Nat} (h : AS base w e k v cs n) : ∃ a p, v = .slice a n p := by
  obtain ⟨h0, xs, S, h1, h2, h3, h4⟩ := h
  exact uowns_slice h1
theorem AS.done {base : Nat} {w : World} {e : TypeId} {k : Nat} {v : Value} {cs : UD} {n : Nat} (h : AS base w e k v cs n) (hk : 0 < k) (hb : base ≤ w.heap.size) : ∃ S, oS w k n cs v S ∧ own2 S base w.heap.size := by
  obtain ⟨h0, xs, S, h1, h2, h3, h4⟩ := h
  have h1' : w.ownsRow 0 e k v n xs := by
    refine ⟨h1.1, ?_⟩
    rcases h1.2 with hh | ⟨g, cap, cur, a1, a2, a3⟩
    · exact .inl hh
    · exact .inr ⟨g, cap, cur, a1, Nat.zero_le _, a3⟩
  refine ⟨blkOf v ++ S, ⟨hk, e, xs, S, h1', h2, rfl⟩, ?_, fun s hs => ?_⟩
  · refine List.nodup_append.2 ⟨?_, h3.1, fun a ha b hb hab => h4 a ha (hab ▸ hb)⟩
    unfold blkOf
    split
    · simp
    · exact List.nodup_nil
  · rcases List.mem_append.1 hs with hs | hs
    · exact ublk_lt h1 s hs
    · exact h3.2 s hs
theorem grown_frame {w w' : World} {row : Option Nat} (hg : w.grownBy w' row) {S : List Nat} (hS : ∀ s ∈ S, s < w.heap.size) (hr : ∀ g, row = some g → g ∉ S) : ∀ s ∈ S, w'.heap[s]? = w.heap[s]? :=
  fun s hs => hg.block s (hS s hs) (fun e => hr s e.symm hs)
theorem AS.snoc {base b0 : Nat} {w1 w2 : World} {e : TypeId} {k : Nat} {v : Value} {cs : UD} {n : Nat} {xs : List Value} {S : List Nat} (hlen : cs.len = n * k) (hw : w1.ownsRow base e k v n xs) (ho : oH w1 cs xs S) (hS : own2 S base b0)
    (hne : ∀ g ∈ blkOf v, g ∉ S) (hvb : ∀ g ∈ blkOf v, g < b0) {R : UD} {ys : List Value} {T : List Nat} (hR : oH w1 R ys T) (hT : own2 T b0 w1.heap.size) (hb : base ≤ b0) (hb2 : b0 ≤ w1.heap.size) (hRl : R.len = k) {g cap : Nat}
    (hown : w2.ownsRow base e k (.slice (some ⟨g, 0, none⟩) (n + 1) cap) (n + 1) (xs ++ ys)) (hgrow : w1.grownBy w2 v.ownBlock) (hat : v.ownBlock = some g ∨ g = w1.heap.size) : AS base w2 e k (.slice (some ⟨g, 0, none⟩) (n + 1) cap) (cs.app R) (n + 1) := by
  have hrow : ∀ g', v.ownBlock = some g' → g' ∈ blkOf v := fun g' h => by unfold blkOf; rw [h]; simp
  have hvT : ∀ g' ∈ blkOf v, g' ∉ T := fun g' h ht => by have := hvb g' h; have := hT.2 g' ht; omega
  refine ⟨?_, xs ++ ys, S ++ T, hown, oH.app (ho.frame _ _ _ (grown_frame hgrow (ho.lt _ _ _) (fun g' h => hne g' (hrow g' h)))) (hR.frame _ _ _ (grown_frame hgrow (hR.lt _ _ _) (fun g' h => hvT g' (hrow g' h)))),
    (own2.app hS hT (Nat.le_refl _) hb hb2).mono (Nat.le_refl _) hgrow.size, fun g' hg' => ?_⟩
  · have : (cs.app R).len = cs.len + R.len := by unfold UD.len; rw [UD.app_toL, List.length_append]
    rw [this, hlen, hRl, Nat.succ_mul]
  · have e1 : g' = g := by simpa [blkOf, Value.ownBlock] using hg'
    subst e1
    rw [List.mem_append]
    rcases hat with h | h
    · exact fun hx => hx.elim (hne g' (hrow g' h)) (hvT g' (hrow g' h))
    · intro hx
      rcases hx with hx | hx
      · have := hS.2 g' hx; omega
      · have := hT.2 g' hx; omega
theorem cells_new (w : World) (xs : List Value) (t : TypeId) : ∀ j u, xs[j]? = some u → (w.alloc (.cells xs.toArray t)).cell? ((⟨w.heap.size, 0, none⟩ : Addr).add j) = some u := by
  intro j u h
  rw [Go.WideShapes.add_plain, Nat.zero_add]
  exact (objU.new w t xs).cell j u h
theorem one_cell {w : World} {lo hi : Nat} : ∀ {d : UD} {fs : List UF} {xs : List Value}, tyL d fs → uH w lo hi d xs → ∀ u ∈ xs, u.oneCell' = true
  | .nil, _, _, _, h, u, hu => by rw [show _ = [] from h] at hu; cases hu
  | .p v r, _, _, ⟨f, fr, e, h1, h2⟩, ⟨ys, e2, h⟩, u, hu => by
    subst e2
    rcases List.mem_cons.1 hu with rfl | hu
    · cases f with
      | i k => obtain ⟨z, rfl, _⟩ := h1; rfl
      | s => obtain ⟨z, rfl, _⟩ := h1; rfl
      | b => obtain ⟨z, rfl⟩ := h1; rfl
      | l k t => cases h1
    · exact one_cell h2 h u hu
  | .l k n cs r, _, _, ⟨t, fr, e, h1, h2⟩, ⟨c, ys, e2, g, h⟩, u, hu => by
    subst e2
    rcases List.mem_cons.1 hu with rfl | hu
    · obtain ⟨a, cap, rfl, _⟩ := g; rfl
    · exact one_cell h2 h u hu
/-- all the cells of a slice, one by one -/
theorem uM.list {w : World} {lo hi : Nat} {b o : Nat} {d : UD} (h : uM w lo hi d b o) : ∃ xs, uH w lo hi d xs ∧ ∀ j u, xs[j]? = some u → w.cell? ((⟨b, o, none⟩ : Addr).add j) = some u := by
  obtain ⟨xs, h1, h2⟩ := h.hand
  exact ⟨xs, h1, fun j u hj => by rw [Go.WideShapes.add_plain]; exact h2 j u hj⟩
/-- plain cells alone: copied they are one's own -/
theorem plain_own {w w' : World} {lo hi : Nat} {fs : List UF} (hp : ∀ f ∈ fs, ∀ k t, f ≠ .l k t) : ∀ {d : UD} {xs : List Value} {i : Nat}, tyU d fs i → uH w lo hi d xs → oH w' d xs []
  | .nil, _, _, _, h => ⟨h, rfl⟩
  | .p v r, _, i, h, ⟨ys, e, g⟩ => ⟨ys, e, plain_own hp h.2 g⟩
  | .l k n cs r, _, i, ⟨⟨t, h1, _⟩, _⟩, _ => (hp _ (List.mem_of_getElem? h1) k t rfl).elim
end Go.Proofs.Ytdnodaoeflbfkaa
