/- Texts of one claim, joined: each in its own section, in build order. -/
import Derived.Test.YtddojjigijfgbaaJ5
import Derived.Test.YtddojjigijfgbaaJ6
import Derived.ChangeSlices
import Derived.Lib.LaidU8
import Derived.Lib.ItoaMem
import Derived.Test.YtddojjigijfgbaaJ1
import Derived.Test.YtddojjigijfgbaaChecked
import Derived.Maps.AppendAt
/- Queues that are drawn. -/
namespace Go.Proofs.Ytddojjigijfgbaa
open Go.RowKit Go.BigFrame
set_option linter.unusedVariables false

/-- no more than k fails each -/
def flP (Q : Qu) (k : Int) : Prop := ∀ x ∈ Q.I ++ Q.D, x.2.2 ≤ k
def drQ (Q : Qu) (k : Nat) : Prop := okQ Q ∧ qOkP Q ∧ cntQ Q ≤ k ∧ flP Q k ∧ Q.now ≤ 10 + 4 * (k : Int)
theorem now_put (Q : Qu) (s : ByteArray) : (putC Q s).1.now = Q.now := by
  unfold putC
  split
  · split <;> rfl
  · split
    · rfl
    · split <;> rfl
theorem now_take (Q : Qu) : (takeC Q).1.now = Q.now := by
  unfold takeC
  split
  · split <;> rfl
  · rfl
theorem now_add (R : Qu) (x : It) : (addQ R x).now = R.now := by unfold addQ; split <;> rfl
theorem now_done (Q : Qu) (s : ByteArray) (well : Bool) : (doneC Q s well).1.now = Q.now := by
  unfold doneC
  split
  · dsimp only
    split
    · split
      · exact now_add _ _
      · rfl
    · exact now_add _ _
  · rfl
theorem now_pass {Q : Qu} {z m : Int} (h : Q.now ≤ m) (hz : z ≤ m) : (passQ Q z).now ≤ m := by
  unfold passQ
  split
  · exact hz
  · exact h
theorem flP.mono {Q : Qu} {k l : Int} (h : flP Q k) (hl : k ≤ l) : flP Q l := fun x hx => Int.le_trans (h x hx) hl
theorem flP_add {R : Qu} {x : It} {k : Int} (h : flP R k) (hx : x.2.2 ≤ k) : flP (addQ R x) k := by
  unfold addQ
  split
  · exact h
  · intro y hy
    have hy' : y ∈ (R.I ++ [x]) ++ R.D := hy
    rw [List.mem_append, List.mem_append, List.mem_singleton] at hy'
    rcases hy' with (hy | rfl) | hy
    · exact h y (List.mem_append_left _ hy)
    · exact hx
    · exact h y (List.mem_append_right _ hy)
theorem flP_out {Q : Qu} {k : Int} (h : flP Q k) (i : Nat) (s : ByteArray) : flP (outD Q i s) k := fun y hy => by
  have hy' : y ∈ Q.I ++ dropAt Q.D i := hy
  rcases List.mem_append.1 hy' with hy | hy
  · exact h y (List.mem_append_left _ hy)
  · exact h y (List.mem_append_right _ (mem_dropAt hy))
theorem flP_done {Q : Qu} {s : ByteArray} {well : Bool} {k : Nat} (hp : qOkP Q) (h : flP Q k) : flP (doneC Q s well).1 ((k : Int) + 1) := by
  by_cases hD : fndI Q.D s < Q.D.length
  · have hm := List.getElem_mem hD
    have hk := (hp.2.2.2.1 _ (List.mem_append_right _ hm)).2.2
    have hf := h _ (List.mem_append_right _ hm)
    obtain ⟨F, hF⟩ : ∃ F : Nat, min ((Q.D[fndI Q.D s]'hD).2.2 + 1) 1000 = (F : Int) := ⟨(min ((Q.D[fndI Q.D s]'hD).2.2 + 1) 1000).toNat, by omega⟩
    rw [doneC_at well hD hF]
    have ho := (flP_out h (fndI Q.D s) s).mono (show (k : Int) ≤ (k : Int) + 1 by omega)
    cases well with
    | true =>
      cases inA Q.A s with
      | true => exact flP_add ho (by show (0 : Int) ≤ _; omega)
      | false => exact ho
    | false => exact flP_add ho (by show (F : Int) ≤ _; omega)
  · rw [doneC_no well hD]
    exact h.mono (by omega)
theorem flP_put {Q : Qu} {s : ByteArray} {k : Nat} (h : flP Q k) : flP (putC Q s).1 k := by
  unfold putC
  split
  · split
    · exact h
    · exact h
  · split
    · rename_i hI
      intro y hy
      have hy' : y ∈ Q.I.set (fndI Q.I s) ((Q.I[fndI Q.I s]).1, min (Q.I[fndI Q.I s]).2.1 Q.now, (Q.I[fndI Q.I s]).2.2) ++ Q.D := hy
      rw [List.mem_append] at hy'
      rcases hy' with hy | hy
      · rcases List.mem_or_eq_of_mem_set hy with hy | rfl
        · exact h y (List.mem_append_left _ hy)
        · have := h (Q.I[fndI Q.I s]) (List.mem_append_left _ (List.getElem_mem hI))
          exact this
      · exact h y (List.mem_append_right _ hy)
    · split
      · exact h
      · intro y hy
        have hy' : y ∈ (Q.I ++ [(s, Q.now, (0 : Int))]) ++ Q.D := hy
        rw [List.mem_append, List.mem_append, List.mem_singleton] at hy'
        rcases hy' with (hy | rfl) | hy
        · exact h y (List.mem_append_left _ hy)
        · show (0 : Int) ≤ _; omega
        · exact h y (List.mem_append_right _ hy)
theorem flP_take {Q : Qu} {k : Int} (h : flP Q k) : flP (takeC Q).1 k := by
  unfold takeC
  split
  · rename_i hk
    split
    · exact h
    · intro y hy
      have hy' : y ∈ dropAt Q.I (rdyN Q.I Q.now) ++ (Q.D ++ [((Q.I[rdyN Q.I Q.now]).1, (0 : Int), (Q.I[rdyN Q.I Q.now]).2.2)]) := hy
      rw [List.mem_append, List.mem_append, List.mem_singleton] at hy'
      rcases hy' with hy | hy | rfl
      · exact h y (List.mem_append_left _ (mem_dropAt hy))
      · exact h y (List.mem_append_right _ hy)
      · have := h (Q.I[rdyN Q.I Q.now]) (List.mem_append_left _ (List.getElem_mem hk))
        exact this
  · exact h
theorem flP_pass {Q : Qu} {k z : Int} (h : flP Q k) : flP (passQ Q z) k := by
  unfold passQ
  split
  · exact h
  · exact h
theorem drQ.put {Q : Qu} {k : Nat} {s : ByteArray} (h : drQ Q k) (hs : nameB s = true) (hz : s.size ≤ maxLen) : drQ (putQ Q s).1 (k + 1) := by
  have ho := okQ_put h.1 hz
  have e : putQ Q s = putC Q s := if_pos ⟨qOk_true h.2.1, hs⟩
  rw [e] at ho ⊢
  exact ⟨ho, qOkP_put h.2.1 hs, by have := cntQ_put Q s; have := h.2.2.1; omega, (flP_put h.2.2.2.1).mono (by omega), by have := h.2.2.2.2; rw [now_put]; omega⟩
theorem drQ.take {Q : Qu} {k : Nat} (h : drQ Q k) : drQ (takeQ Q).1 (k + 1) := by
  have ho := (okQ_take h.1).1
  have e : takeQ Q = takeC Q := if_pos (qOk_true h.2.1)
  rw [e] at ho ⊢
  exact ⟨ho, qOkP_take h.2.1, by have := cntQ_take Q; have := h.2.2.1; omega, (flP_take h.2.2.2.1).mono (by omega), by have := h.2.2.2.2; rw [now_take]; omega⟩
theorem drQ.done {Q : Qu} {k : Nat} {s : ByteArray} {o : Bool} (h : drQ Q k) (hz : s.size ≤ maxLen) : drQ (doneQ Q s o).1 (k + 1) := by
  have ho := okQ_done h.1 hz o
  have e : doneQ Q s o = doneC Q s o := if_pos (qOk_true h.2.1)
  rw [e] at ho ⊢
  exact ⟨ho, qOkP_done h.2.1, by have := cntQ_done (s := s) (well := o) h.2.1; have := h.2.2.1; omega, (flP_done h.2.1 h.2.2.2.1).mono (by omega), by have := h.2.2.2.2; rw [now_done]; omega⟩
theorem drQ.pass {Q : Qu} {k : Nat} {z : Int} (h : drQ Q k) (hz : inK .i64 z) (hz4 : z ≤ Q.now + 4) : drQ (passQ Q z) (k + 1) :=
  ⟨okQ_pass h.1 hz, qOkP_pass h.2.1, by have := cntQ_pass Q z; have := h.2.2.1; omega, (flP_pass h.2.2.2.1).mono (by omega), now_pass (by have := h.2.2.2.2; omega) (by have := h.2.2.2.2; omega)⟩
theorem drQ.mono {Q : Qu} {k l : Nat} (h : drQ Q k) (hl : k ≤ l) : drQ Q l := ⟨h.1, h.2.1, Nat.le_trans h.2.2.1 hl, h.2.2.2.1.mono (by omega), by have := h.2.2.2.2; omega⟩
theorem drQ.zero {x : Nat} (h : x < 10) : drQ ⟨[], [], [], (x : Int)⟩ 0 :=
  ⟨⟨⟨by simp, by simp⟩, ⟨by simp, by simp⟩, ⟨by simp, by simp⟩, by show inK .i64 (x : Int); unfold inK; omega⟩, ⟨by simp, by simp, ⟨by show (0 : Int) ≤ (x : Int); omega, by show (x : Int) ≤ 1000000; omega⟩, by simp, by simp, by simp, by simp, by simp⟩, by simp [cntQ], (fun y hy => by simp at hy), by show (x : Int) ≤ _; omega⟩
theorem Out.outS {d : Nat} {a w w' : World} {T : List Nat} (h : Out d (d + 1) a w) (ho : OutS T w w') (hT : ∀ t ∈ T, a.heap.size ≤ t) : Out d (d + 1) a w' :=
  ⟨ho.os.trans h.os, ho.tape.trans h.tape, ho.output.trans h.output, Nat.le_trans h.size ho.size, fun k hk hr => (ho.block k (Nat.lt_of_lt_of_le hk h.size) (fun hh => by have := hT k hh; omega)).trans (h.block k hk hr)⟩
theorem outS_of_out {d : Nat} {w w' : World} (h : Out d (d + 1) w w') : OutS [d] w w' := ⟨h.os, h.tape, h.output, h.size, fun k hk hn => h.block k hk (by simp at hn; omega)⟩
theorem CurIn.far {w w' : World} {d : Nat} {a : Option Addr} {n cap B : Nat} {T : List Nat} (c : CurIn w d a n cap) (ho : OutS T w w') (hd : d < B) (hall : ∀ j, j < n → ∀ b off, a = some ⟨b, off, none⟩ → b < B) (hT : ∀ t ∈ T, B ≤ t) : CurIn w' d a n cap := by
  have hlt := c.lt
  have hb : ∀ k, k < w.heap.size → k < B → w'.heap[k]? = w.heap[k]? := fun k hk hkB => ho.block k hk (fun e => by have := hT k e; omega)
  obtain ⟨i, h, c⟩ := c
  refine ⟨i, h, c.le, ?_, ?_, ?_, ?_, ?_, ?_⟩
  · exact (World.cell?_of_block (w := w) (a := ⟨d, 0, none⟩) (hb d hlt hd)).trans c.c0
  · exact (World.cell?_of_block (w := w) (a := ⟨d, 1, none⟩) (hb d hlt hd)).trans c.c1
  · exact (World.cell?_of_block (w := w) (a := ⟨d, 2, none⟩) (hb d hlt hd)).trans c.c2
  · exact (World.frozen?_of_block (w := w) (a := ⟨d, 1, none⟩) (hb d hlt hd)).trans c.f1
  · exact (World.frozen?_of_block (w := w) (a := ⟨d, 2, none⟩) (hb d hlt hd)).trans c.f2
  · intro j hj
    obtain ⟨b, off, x, h1, h2, h3, h4⟩ := c.code j hj
    exact ⟨b, off, x, h1, h2, (World.cell?_of_block (w := w) (a := ⟨b, off + j, none⟩) (hb b (World.block_lt_of_cell? _ _ h3) (hall j hj b off h1))).trans h3, h4⟩
theorem CurIn.codeLt {w : World} {d : Nat} {a : Option Addr} {n cap : Nat} (c : CurIn w d a n cap) : ∀ j, j < n → ∀ b off, a = some ⟨b, off, none⟩ → b < w.heap.size := by
  obtain ⟨i, h, c⟩ := c
  intro j hj b off e
  obtain ⟨b', off', x, h1, h2, h3, h4⟩ := c.code j hj
  rw [h1] at e
  cases e
  exact World.block_lt_of_cell? _ _ h3
theorem QB.curs {w w' : World} {b base d : Nat} {Q : Qu} {vI vD vA : Value} (h : QB w b base Q vI vD vA) (ho : Out d (d + 1) w w') (hb : b ≠ d) (hd : d < base) : QB w' b base Q vI vD vA :=
  h.away (outS_of_out ho) hb (fun hh => by have := (h.q.i.lt _ hh).1; omega) (fun hh => by have := (h.q.d.lt _ hh).1; omega) (fun hh => by have := (h.q.a.lt _ hh).1; omega)
def stQ (w : World) (b : Nat) (vI vD vA : Value) (now : Int) : World := (((w.setCell ⟨b, 0, none⟩ vI).setCell ⟨b, 1, none⟩ vD).setCell ⟨b, 2, none⟩ vA).setCell ⟨b, 3, none⟩ (.int .i64 now)
theorem stQ_out (w : World) (b : Nat) (vI vD vA : Value) (now : Int) : OutS [b] w (stQ w b vI vD vA now) := OutS.setCells [vI, vD, vA, .int .i64 now] 0 w
theorem QB.ret {w w' : World} {b base : Nat} {Q Q' : Qu} {vI vD vA vI' vD' vA' : Value} (h : QB w b base Q vI vD vA) (hbb : b < base) (hbs : base ≤ w.heap.size) (hb : Below w.heap.size w w') (ho : ownQ w' w.heap.size Q' vI' vD' vA') : QB (stQ w' b vI' vD' vA' Q'.now) b base Q' vI' vD' vA' :=
  ⟨((((h.o.below hb).set 0 vI').set 1 vD').set 2 vA').set 3 (.int .i64 Q'.now), (ho.mono hbs).outS (stQ_out _ _ _ _ _ _) (fun t ht => by simp at ht; omega), fun hh => by have := (ho.i.lt _ hh).1; have := h.lt; omega, fun hh => by have := (ho.d.lt _ hh).1; have := h.lt; omega, fun hh => by have := (ho.a.lt _ hh).1; have := h.lt; omega⟩
theorem QB.ret0 {w : World} {b base base0 : Nat} {Q' : Qu} {x0 x1 x2 x3 vI' vD' vA' : Value} (h : objU w b 27 [x0, x1, x2, x3]) (hbb : b < base) (hbs : base ≤ base0) (hb : b < base0) (ho : ownQ w base0 Q' vI' vD' vA') : QB (stQ w b vI' vD' vA' Q'.now) b base Q' vI' vD' vA' :=
  ⟨(((h.set 0 vI').set 1 vD').set 2 vA').set 3 (.int .i64 Q'.now), (ho.mono hbs).outS (stQ_out _ _ _ _ _ _) (fun t ht => by simp at ht; omega), fun hh => by have := (ho.i.lt _ hh).1; omega, fun hh => by have := (ho.d.lt _ hh).1; omega, fun hh => by have := (ho.a.lt _ hh).1; omega⟩
structure GDr (w w0 : World) (d b n cap : Nat) (a : Option Addr) (Q : Qu) (vI vD vA : Value) (c : Bool) (wn : World) : Prop where
  out : Out d (d + 1) w wn
  cur : CurIn wn d a n cap
  z : objU wn w.heap.size 27 [.slice none 0 0, .slice none 0 0, .slice none 0 0, .int .i64 0]
  q : c = false → QB wn b (b + 1) Q vI vD vA
  size : w0.heap.size ≤ wn.heap.size
def FR15 (w0 : World) (d b : Nat) (Q : Qu) (s : ByteArray) (ag : Value) : Nat → (Nat → Nat) → Value → World → Prop
  | 0, γ, v, w => v = ag
  | 1, γ, v, w => v = .string s
  | 2, γ, v, w => v = .pointer (some ⟨d, 0, none⟩)
  | 3, γ, v, w => ∃ o : Bool, v = .bool o
  | 4, γ, v, w => ∃ (o : Bool) (vI vD vA : Value), v = .tuple #[.agg #[vI, vD, vA, .int .i64 (doneQ Q s o).1.now], .bool (doneQ Q s o).2] ∧ ownQ w w0.heap.size (doneQ Q s o).1 vI vD vA
  | 5, γ, v, w => ∃ (o : Bool) (vI vD vA : Value), v = .tuple #[.agg #[vI, vD, vA, .int .i64 (doneQ Q s o).1.now], .bool (doneQ Q s o).2] ∧ ownQ w w0.heap.size (doneQ Q s o).1 vI vD vA
  | 6, γ, v, w => ∃ (o : Bool) (vI vD vA : Value), v = .agg #[vI, vD, vA, .int .i64 (doneQ Q s o).1.now] ∧ ownQ w w0.heap.size (doneQ Q s o).1 vI vD vA
  | 7, γ, v, w => True
  | 8, γ, v, w => ∃ (o : Bool) (vI vD vA : Value), QB w b (b + 1) (doneQ Q s o).1 vI vD vA
  | _, _, _, _ => False
def FR8 (w0 : World) (d b : Nat) (Q : Qu) (s : ByteArray) (g pD : Nat) (ag : Value) : Nat → (Nat → Nat) → Value → World → Prop
  | 0, γ, v, w => v = ag
  | 1, γ, v, w => v = .pointer (some ⟨b, 1, none⟩)
  | 2, γ, v, w => v = .slice (some ⟨g, 0, none⟩) Q.D.length pD
  | 3, γ, v, w => v = .pointer (some ⟨g, 0, none⟩)
  | 4, γ, v, w => v = .pointer (some ⟨g, 0, none⟩)
  | 5, γ, v, w => v = .string s
  | 6, γ, v, w => v = .pointer (some ⟨d, 0, none⟩)
  | 7, γ, v, w => ∃ o : Bool, v = .bool o
  | 8, γ, v, w => ∃ (o : Bool) (vI vD vA : Value), v = .tuple #[.agg #[vI, vD, vA, .int .i64 (doneQ Q s o).1.now], .bool (doneQ Q s o).2] ∧ ownQ w w0.heap.size (doneQ Q s o).1 vI vD vA
  | 9, γ, v, w => ∃ (o : Bool) (vI vD vA : Value), v = .tuple #[.agg #[vI, vD, vA, .int .i64 (doneQ Q s o).1.now], .bool (doneQ Q s o).2] ∧ ownQ w w0.heap.size (doneQ Q s o).1 vI vD vA
  | 10, γ, v, w => ∃ (o : Bool) (vI vD vA : Value), v = .agg #[vI, vD, vA, .int .i64 (doneQ Q s o).1.now] ∧ ownQ w w0.heap.size (doneQ Q s o).1 vI vD vA
  | 11, γ, v, w => True
  | 12, γ, v, w => ∃ (o : Bool) (vI vD vA : Value), QB w b (b + 1) (doneQ Q s o).1 vI vD vA
  | _, _, _, _ => False
def FR17 (w0 : World) (d b : Nat) (Q : Qu)  (ag : Value) : Nat → (Nat → Nat) → Value → World → Prop
  | 0, γ, v, w => v = ag
  | 1, γ, v, w => v = .pointer (some ⟨b, 3, none⟩)
  | 2, γ, v, w => v = .int .i64 Q.now
  | 3, γ, v, w => v = .pointer (some ⟨d, 0, none⟩)
  | 4, γ, v, w => ∃ x : Nat, x < 4 ∧ v = .int .i64 x
  | 5, γ, v, w => ∃ x : Nat, x < 4 ∧ v = .int .i64 (Q.now + (x : Nat))
  | 6, γ, v, w => ∃ (o : Nat) (vI vD vA : Value), (o < 4 ∧ v = .agg #[vI, vD, vA, .int .i64 (passQ Q (Q.now + (o : Nat))).now]) ∧ ownQ w w0.heap.size (passQ Q (Q.now + (o : Nat))) vI vD vA
  | 7, γ, v, w => ∃ (o : Nat) (vI vD vA : Value), o < 4 ∧ QB w b (b + 1) (passQ Q (Q.now + (o : Nat))) vI vD vA
  | _, _, _, _ => False
def five : List ByteArray := [⟨#[97]⟩, ⟨#[98]⟩, ⟨#[99]⟩, ⟨#[100]⟩, ⟨#[101]⟩]
theorem five_ok : ∀ s ∈ five, nameB s = true ∧ s.size = 1 := by
  intro s hs
  unfold five at hs
  simp only [List.mem_cons, List.not_mem_nil, or_false] at hs
  rcases hs with rfl | rfl | rfl | rfl | rfl <;> exact ⟨by kernel_rfl, rfl⟩
set_option maxRecDepth 20000 in
set_option maxHeartbeats 3200000 in
theorem l9Draw_any (d n cap m : Nat) (a : Option Addr) (w : World) (hn : n ≤ 1048576) (hm0 : 0 < m) (hm : m ≤ 40) (hc : CurIn w d a n cap) :
    Calls Try.prog 30 #[.pointer (some ⟨d, 0, none⟩), .int .i64 m] w fun e w' => ∃ (Q : Qu) (vI vD vA : Value), e = .returned (.agg #[vI, vD, vA, .int .i64 Q.now]) ∧ Hid (drQ Q m) ∧ Hid (ownQ w' w.heap.size Q vI vD vA) ∧ Hid (CurIn w' d a n cap) ∧ Out d (d + 1) w w' := by
  have Hc := hide hc
  have hd := hc.lt
  have HCL := hide hc.codeLt
  clear hc
  go_enter Try.func30, Try.ntmps30
  have OZ0 : Hid (objU (w.alloc (.cells #[.slice none 0 0, .slice none 0 0, .slice none 0 0, .int .i64 0] 27)) w.heap.size 27 [.slice none 0 0, .slice none 0 0, .slice none 0 0, .int .i64 0]) := objU.new _ _ _
  go_wp2_with fail
  refine (l1Below_any d n cap 10 a _ hn (by omega) (Hc.out.later (below_alloc _ _))).mono ?_
  rintro e w1 ⟨x, hx, rfl, hc1, ho1⟩
  have hx' := hx (by omega)
  have OZ1 := hide (OZ0.out.outS (outS_of_out ho1) (by simp; omega))
  have O1 : Hid (Out d (d + 1) w w1) := (Out.of_below (below_alloc _ _)).trans ho1
  have hz1 : w.heap.size < w1.heap.size := OZ1.out.lt
  clear hx ho1 OZ0 Hc
  have HQ1 : Hid (QB (w1.alloc (.cells #[.slice none 0 0, .slice none 0 0, .slice none 0 0, .int .i64 x] 27)) w1.heap.size (w1.heap.size + 1) ⟨[], [], [], (x : Int)⟩ (.slice none 0 0) (.slice none 0 0) (.slice none 0 0)) := ⟨objU.new _ _ _, ⟨ownR.nil _ _ _ _, ownR.nil _ _ _ _, ownR.nil _ _ _ _, (fun g hg => by simp [blkOf, Value.ownBlock] at hg), (fun g hg => by simp [blkOf, Value.ownBlock] at hg), (fun g hg => by simp [blkOf, Value.ownBlock] at hg)⟩, (by simp [blkOf, Value.ownBlock]), (by simp [blkOf, Value.ownBlock]), (by simp [blkOf, Value.ownBlock])⟩
  have OZ1' := hide (OZ1.out.old (.cells #[.slice none 0 0, .slice none 0 0, .slice none 0 0, .int .i64 x] 27))
  have O1' : Hid (Out d (d + 1) w (w1.alloc (.cells #[.slice none 0 0, .slice none 0 0, .slice none 0 0, .int .i64 x] 27))) := O1.out.trans (Out.of_below (below_alloc _ _))
  go_wp2_with fail
  refine (l1Below_any d n cap m a _ hn (by omega) (hc1.out.later (below_alloc _ _))).mono ?_
  rintro e w2 ⟨i0, hi0, rfl, hc2, ho2⟩
  have hi0' := hi0 hm0
  have HQ2 := hide (HQ1.out.curs ho2 (by omega) (by omega))
  have OZ2 := hide (OZ1'.out.outS (outS_of_out ho2) (by simp; omega))
  have O2 : Hid (Out d (d + 1) w w2) := O1'.out.trans ho2
  have D2 := hide ((drQ.zero hx').mono (Nat.zero_le (m - i0)))
  clear hi0 ho2 OZ1' O1' HQ1 OZ1 O1 hc1
  go_wp2
  go_loopw [6] (fun i wr => ∃ (q : Nat) (Q : Qu) (vI vD vA : Value), q ≤ m ∧ i = .int .i64 q ∧ Hid (drQ Q (m - q)) ∧ Hid (QB wr w1.heap.size (w1.heap.size + 1) Q vI vD vA) ∧ Hid (objU wr w.heap.size 27 [.slice none 0 0, .slice none 0 0, .slice none 0 0, .int .i64 0]) ∧ Hid (CurIn wr d a n cap) ∧ Hid (Out d (d + 1) w wr)) (fun i _ => (intOf i).toNat)
  case atStart => exact ⟨i0, _, _, _, _, by omega, rfl, D2, HQ2, OZ2, hc2, O2⟩
  case round =>
    clear D2 HQ2 OZ2 hc2 O2
    obtain ⟨q, Q, vI, vD, vA, hq, rfl, Dr, HQr, OZr, Cr, Or⟩ := hrel
    obtain ⟨e1, f1, e2, f2, e3, f3, rfl, rfl, rfl⟩ := HQr.out.xs
    cases q with
    | zero =>
      have u0 := HQr.out.o.cell 0 _ rfl
      have u1 := HQr.out.o.cell 1 _ rfl
      have u2 := HQr.out.o.cell 2 _ rfl
      have u3 := HQr.out.o.cell 3 _ rfl
      have y0 := OZr.out.cell 0 _ rfl
      have y1 := OZr.out.cell 1 _ rfl
      have y2 := OZr.out.cell 2 _ rfl
      have y3 := OZr.out.cell 3 _ rfl
      have z0 := OZr.out.fz 0
      have z1 := OZr.out.fz 1
      have z2 := OZr.out.fz 2
      have z3 := OZr.out.fz 3
      have HO6 : Hid (ownQ (stQ wr w.heap.size (.slice e1 Q.I.length f1) (.slice e2 Q.D.length f2) (.slice e3 Q.A.length f3) Q.now) w.heap.size Q (.slice e1 Q.I.length f1) (.slice e2 Q.D.length f2) (.slice e3 Q.A.length f3)) := (HQr.out.q.outS (stQ_out _ w.heap.size _ _ _ _) (by simp; omega)).mono (by omega)
      have C6 : Hid (CurIn (stQ wr w.heap.size (.slice e1 Q.I.length f1) (.slice e2 Q.D.length f2) (.slice e3 Q.A.length f3) Q.now) d a n cap) := Cr.out.far (stQ_out _ w.heap.size _ _ _ _) hd HCL.out (by simp)
      have O6 : Hid (Out d (d + 1) w (stQ wr w.heap.size (.slice e1 Q.I.length f1) (.slice e2 Q.D.length f2) (.slice e3 Q.A.length f3) Q.now)) := Or.out.outS (stQ_out _ w.heap.size _ _ _ _) (by simp)
      have D6 := hide (Dr.out.mono (show m - 0 ≤ m by omega))
      go_wp2
      refine bodyPost_ret (v := .agg #[.slice e1 Q.I.length f1, .slice e2 Q.D.length f2, .slice e3 Q.A.length f3, .int .i64 Q.now]) ?_ rfl ⟨Q, _, _, _, rfl, D6, HO6, C6, O6.out⟩
      simp [results, Try.results30, go_sem, y0, y1, y2, y3]
    | succ q =>
      have hq0 : (0 : Int) < ((q + 1 : Nat) : Int) := by omega
      go_wp2_with fail
      refine (l1Str_lit d n cap a five wr hn (by decide) (by decide) (by have := Or.out.size; omega) Cr.out).mono ?_
      rintro e w3 ⟨s, hs, rfl, hc3, ho3⟩
      have hsk := five_ok s hs
      have hsz : s.size ≤ maxLen := by rw [hsk.2]; unfold maxLen; omega
      go_wp2_with fail
      refine (l1Below_any d n cap 6 a _ hn (by omega) hc3.out).mono ?_
      rintro e w4 ⟨x4, hx4, rfl, hc4, ho4⟩
      have hx4' := hx4 (by omega)
      have HQ4 := hide (HQr.out.curs (ho3.trans ho4) (by omega) (by omega))
      have OZ4 := hide (OZr.out.outS (outS_of_out (ho3.trans ho4)) (by simp; omega))
      have O4 : Hid (Out d (d + 1) w w4) := (Or.out.trans ho3).trans ho4
      have u0 := HQ4.out.o.cell 0 _ rfl
      have u1 := HQ4.out.o.cell 1 _ rfl
      have u2 := HQ4.out.o.cell 2 _ rfl
      have u3 := HQ4.out.o.cell 3 _ rfl
      have hb4 := HQ4.out.lt
      clear hx4 ho3 ho4 hc3 HQr OZr Or Cr
      have hx6 : x4 = 0 ∨ x4 = 1 ∨ x4 = 2 ∨ x4 = 3 ∨ x4 = 4 ∨ x4 = 5 := by omega
      clear hx4'
      rcases hx6 with rfl | rfl | rfl | rfl | rfl | rfl
      · go_wp2_with fail
        refine (sPut_any Q s _ w4 Dr.out.1 hsz HQ4.out.q.rd).mono ?_
        rintro e w5 ⟨vI', vD', vA', rfl, ho5, hb5⟩
        obtain ⟨g1, k1, rfl⟩ := ho5.i.itS
        obtain ⟨g2, k2, rfl⟩ := ho5.d.itS
        obtain ⟨g3, k3, rfl⟩ := ho5.a.stS
        have HD5 := hide ((Dr.out.put hsk.1 hsz).mono (show m - (q + 1) + 1 ≤ m - q by omega))
        have OB5 := HQ4.out.o.below hb5
        have y0 := OB5.cell 0 _ rfl
        have y1 := OB5.cell 1 _ rfl
        have y2 := OB5.cell 2 _ rfl
        have y3 := OB5.cell 3 _ rfl
        have z0 := OB5.fz 0
        have z1 := OB5.fz 1
        have z2 := OB5.fz 2
        have z3 := OB5.fz 3
        have HQ6 := hide (HQ4.out.ret (Nat.lt_succ_self _) (by omega) hb5 ho5)
        have OZ6 := hide ((OZ4.out.below hb5).outS (stQ_out w5 w1.heap.size (.slice g1 ((putQ Q s).1).I.length k1) (.slice g2 ((putQ Q s).1).D.length k2) (.slice g3 ((putQ Q s).1).A.length k3) ((putQ Q s).1).now) (by simp; omega))
        have C6 : Hid (CurIn (stQ w5 w1.heap.size (.slice g1 ((putQ Q s).1).I.length k1) (.slice g2 ((putQ Q s).1).D.length k2) (.slice g3 ((putQ Q s).1).A.length k3) ((putQ Q s).1).now) d a n cap) := (hc4.out.later hb5).far (stQ_out w5 w1.heap.size (.slice g1 ((putQ Q s).1).I.length k1) (.slice g2 ((putQ Q s).1).D.length k2) (.slice g3 ((putQ Q s).1).A.length k3) ((putQ Q s).1).now) hd HCL.out (by simp; omega)
        have O6 : Hid (Out d (d + 1) w (stQ w5 w1.heap.size (.slice g1 ((putQ Q s).1).I.length k1) (.slice g2 ((putQ Q s).1).D.length k2) (.slice g3 ((putQ Q s).1).A.length k3) ((putQ Q s).1).now)) := (O4.out.trans (Out.of_below hb5)).outS (stQ_out w5 w1.heap.size (.slice g1 ((putQ Q s).1).I.length k1) (.slice g2 ((putQ Q s).1).D.length k2) (.slice g3 ((putQ Q s).1).A.length k3) ((putQ Q s).1).now) (by simp; omega)
        clear ho5 hb5 OB5 HQ4 OZ4 O4 hc4 u0 u1 u2 u3
        go_wp2
        go_roundw
        case rel => exact ⟨q, _, _, _, _, by omega, by go_num, HD5, HQ6, OZ6, C6, O6⟩
        case measure => simp [intOf]
      · go_wp2_with fail
        refine (sPut_any Q s _ w4 Dr.out.1 hsz HQ4.out.q.rd).mono ?_
        rintro e w5 ⟨vI', vD', vA', rfl, ho5, hb5⟩
        obtain ⟨g1, k1, rfl⟩ := ho5.i.itS
        obtain ⟨g2, k2, rfl⟩ := ho5.d.itS
        obtain ⟨g3, k3, rfl⟩ := ho5.a.stS
        have HD5 := hide ((Dr.out.put hsk.1 hsz).mono (show m - (q + 1) + 1 ≤ m - q by omega))
        have OB5 := HQ4.out.o.below hb5
        have y0 := OB5.cell 0 _ rfl
        have y1 := OB5.cell 1 _ rfl
        have y2 := OB5.cell 2 _ rfl
        have y3 := OB5.cell 3 _ rfl
        have z0 := OB5.fz 0
        have z1 := OB5.fz 1
        have z2 := OB5.fz 2
        have z3 := OB5.fz 3
        have HQ6 := hide (HQ4.out.ret (Nat.lt_succ_self _) (by omega) hb5 ho5)
        have OZ6 := hide ((OZ4.out.below hb5).outS (stQ_out w5 w1.heap.size (.slice g1 ((putQ Q s).1).I.length k1) (.slice g2 ((putQ Q s).1).D.length k2) (.slice g3 ((putQ Q s).1).A.length k3) ((putQ Q s).1).now) (by simp; omega))
        have C6 : Hid (CurIn (stQ w5 w1.heap.size (.slice g1 ((putQ Q s).1).I.length k1) (.slice g2 ((putQ Q s).1).D.length k2) (.slice g3 ((putQ Q s).1).A.length k3) ((putQ Q s).1).now) d a n cap) := (hc4.out.later hb5).far (stQ_out w5 w1.heap.size (.slice g1 ((putQ Q s).1).I.length k1) (.slice g2 ((putQ Q s).1).D.length k2) (.slice g3 ((putQ Q s).1).A.length k3) ((putQ Q s).1).now) hd HCL.out (by simp; omega)
        have O6 : Hid (Out d (d + 1) w (stQ w5 w1.heap.size (.slice g1 ((putQ Q s).1).I.length k1) (.slice g2 ((putQ Q s).1).D.length k2) (.slice g3 ((putQ Q s).1).A.length k3) ((putQ Q s).1).now)) := (O4.out.trans (Out.of_below hb5)).outS (stQ_out w5 w1.heap.size (.slice g1 ((putQ Q s).1).I.length k1) (.slice g2 ((putQ Q s).1).D.length k2) (.slice g3 ((putQ Q s).1).A.length k3) ((putQ Q s).1).now) (by simp; omega)
        clear ho5 hb5 OB5 HQ4 OZ4 O4 hc4 u0 u1 u2 u3
        go_wp2
        go_roundw
        case rel => exact ⟨q, _, _, _, _, by omega, by go_num, HD5, HQ6, OZ6, C6, O6⟩
        case measure => simp [intOf]
      · go_wp2_with fail
        refine (sTake_any Q _ w4 Dr.out.1 HQ4.out.q.rd).mono ?_
        rintro e w5 ⟨vI', vD', vA', rfl, ho5, hb5⟩
        obtain ⟨g1, k1, rfl⟩ := ho5.i.itS
        obtain ⟨g2, k2, rfl⟩ := ho5.d.itS
        obtain ⟨g3, k3, rfl⟩ := ho5.a.stS
        have HD5 := hide (Dr.out.take.mono (show m - (q + 1) + 1 ≤ m - q by omega))
        have OB5 := HQ4.out.o.below hb5
        have y0 := OB5.cell 0 _ rfl
        have y1 := OB5.cell 1 _ rfl
        have y2 := OB5.cell 2 _ rfl
        have y3 := OB5.cell 3 _ rfl
        have z0 := OB5.fz 0
        have z1 := OB5.fz 1
        have z2 := OB5.fz 2
        have z3 := OB5.fz 3
        have HQ6 := hide (HQ4.out.ret (Nat.lt_succ_self _) (by omega) hb5 ho5)
        have OZ6 := hide ((OZ4.out.below hb5).outS (stQ_out w5 w1.heap.size (.slice g1 ((takeQ Q).1).I.length k1) (.slice g2 ((takeQ Q).1).D.length k2) (.slice g3 ((takeQ Q).1).A.length k3) ((takeQ Q).1).now) (by simp; omega))
        have C6 : Hid (CurIn (stQ w5 w1.heap.size (.slice g1 ((takeQ Q).1).I.length k1) (.slice g2 ((takeQ Q).1).D.length k2) (.slice g3 ((takeQ Q).1).A.length k3) ((takeQ Q).1).now) d a n cap) := (hc4.out.later hb5).far (stQ_out w5 w1.heap.size (.slice g1 ((takeQ Q).1).I.length k1) (.slice g2 ((takeQ Q).1).D.length k2) (.slice g3 ((takeQ Q).1).A.length k3) ((takeQ Q).1).now) hd HCL.out (by simp; omega)
        have O6 : Hid (Out d (d + 1) w (stQ w5 w1.heap.size (.slice g1 ((takeQ Q).1).I.length k1) (.slice g2 ((takeQ Q).1).D.length k2) (.slice g3 ((takeQ Q).1).A.length k3) ((takeQ Q).1).now)) := (O4.out.trans (Out.of_below hb5)).outS (stQ_out w5 w1.heap.size (.slice g1 ((takeQ Q).1).I.length k1) (.slice g2 ((takeQ Q).1).D.length k2) (.slice g3 ((takeQ Q).1).A.length k3) ((takeQ Q).1).now) (by simp; omega)
        clear ho5 hb5 OB5 HQ4 OZ4 O4 hc4 u0 u1 u2 u3
        go_wp2
        go_roundw
        case rel => exact ⟨q, _, _, _, _, by omega, by go_num, HD5, HQ6, OZ6, C6, O6⟩
        case measure => simp [intOf]
      · go_wp2
        have HG0 : Hid (GDr w w4 d w1.heap.size n cap a Q (.slice e1 Q.I.length f1) (.slice e2 Q.D.length f2) (.slice e3 Q.A.length f3) false w4.drew) := ⟨O4.out.drew, hc4.out.drew, objU.dr9 OZ4.out, fun _ => HQ4.out.below (Below.drew (Below.refl _ _)), Nat.le_refl _⟩
        have hdw : d < w1.heap.size := by omega
        refine wp_region_inv2 (fun i => if i = 3 then Out d (d + 1) else if i = 8 then OutS [w1.heap.size] else fun u v => Below u.heap.size u v) (fun _ => none) 8 (by decide) (GDr w w4 d w1.heap.size n cap a Q (.slice e1 Q.I.length f1) (.slice e2 Q.D.length f2) (.slice e3 Q.A.length f3)) (FR15 w4 d w1.heap.size Q s (.agg #[.slice e1 Q.I.length f1, .slice e2 Q.D.length f2, .slice e3 Q.A.length f3, .int .i64 Q.now])) (by kernel_rfl) (by kernel_rfl) (by kernel_rfl) ?hF15 ?hU15 ?hG15 ?hstep15 ?hend15
        case hF15 =>
          intro i j γ γ' v wa wb hij hsp hnd hsd h hfr
          have ho := hfr.out
          have KO : ∀ (R : Qu) (vI vD vA : Value), ownQ wa w4.heap.size R vI vD vA → ownQ wb w4.heap.size R vI vD vA := fun R vI vD vA h2 => by
            by_cases e3 : i = 3
            · rw [if_pos e3] at ho; exact h2.outS (outS_of_out ho) (by simp; omega)
            · rw [if_neg e3] at ho
              by_cases e8 : i = 8
              · rw [if_pos e8] at ho; exact h2.outS ho (by simp; omega)
              · rw [if_neg e8] at ho; exact h2.below ho
          match j, h with
          | 0, h => exact h
          | 1, h => exact h
          | 2, h => exact h
          | 3, h => exact h
          | 4, ⟨o, vI, vD, vA, h1, h2⟩ => exact ⟨o, vI, vD, vA, h1, KO _ _ _ _ h2⟩
          | 5, ⟨o, vI, vD, vA, h1, h2⟩ => exact ⟨o, vI, vD, vA, h1, KO _ _ _ _ h2⟩
          | 6, ⟨o, vI, vD, vA, h1, h2⟩ => exact ⟨o, vI, vD, vA, h1, KO _ _ _ _ h2⟩
          | 7, h => exact h
          | 8, ⟨o, vI, vD, vA, h1⟩ =>
            refine ⟨o, vI, vD, vA, ?_⟩
            by_cases e3 : i = 3
            · rw [if_pos e3] at ho; exact h1.curs ho (by omega) (by omega)
            · rw [if_neg e3, if_neg hij] at ho; exact h1.below ho
          | j + 9, h => exact h.elim
        case hU15 =>
          intro i o hi hd γ v wa h
          match i, hi with
          | 0, hi => (first | exact trivial | (injection hi with hi; subst hi; cases hd))
          | 1, hi => (first | exact trivial | (injection hi with hi; subst hi; cases hd))
          | 2, hi => (first | exact trivial | (injection hi with hi; subst hi; cases hd))
          | 3, hi => (first | exact trivial | (injection hi with hi; subst hi; cases hd))
          | 4, hi => (first | exact trivial | (injection hi with hi; subst hi; cases hd))
          | 5, hi => (first | exact trivial | (injection hi with hi; subst hi; cases hd))
          | 6, hi => (first | exact trivial | (injection hi with hi; subst hi; cases hd))
          | 7, hi => (first | exact trivial | (injection hi with hi; subst hi; cases hd))
          | 8, hi => exact h
          | i + 9, hi => cases hi
        case hG15 => exact HG0.out
        case hstep15 =>
          intro i o hi
          match i, hi with
          | 0, hi =>
            injection hi with hi; subst hi
            intro c a1 wn γ hc0 hc1 hG hK hD K hk
            have he1 := hK.at 5 (by kernel_rfl)
            have hq1 := hG.q (hc0 (.inl (by kernel_rfl)))
            have x0 := hq1.o.cell 0 _ rfl
            have x1 := hq1.o.cell 1 _ rfl
            have x2 := hq1.o.cell 2 _ rfl
            have x3 := hq1.o.cell 3 _ rfl
            refine wp_pure (.agg #[.slice e1 Q.I.length f1, .slice e2 Q.D.length f2, .slice e3 Q.A.length f3, .int .i64 Q.now]) ?_ (hk _ _ γ (by rw [if_neg (by decide)]; exact hG) ⟨Below.refl _ _, fun _ _ => rfl⟩ rfl)
            simp [execOp, Act.eval, he1, x0, x1, x2, x3, go_sem]
          | 1, hi =>
            injection hi with hi; subst hi
            intro c a1 wn γ hc0 hc1 hG hK hD K hk
            have he1 := hK.at 7 (by kernel_rfl)
            refine wp_pure (.string s) ?_ (hk _ _ γ (by rw [if_neg (by decide)]; exact hG) ⟨Below.refl _ _, fun _ _ => rfl⟩ rfl)
            simp [execOp, Act.eval, he1, go_sem]
          | 2, hi =>
            injection hi with hi; subst hi
            intro c a1 wn γ hc0 hc1 hG hK hD K hk
            have he1 := hK.at 0 (by kernel_rfl)
            refine wp_pure (.pointer (some ⟨d, 0, none⟩)) ?_ (hk _ _ γ (by rw [if_neg (by decide)]; exact hG) ⟨Below.refl _ _, fun _ _ => rfl⟩ rfl)
            simp [execOp, Act.eval, he1, go_sem]
          | 3, hi =>
            injection hi with hi; subst hi
            intro c a1 wn γ hc0 hc1 hG hK hD K hk
            have d0 := hD 0 (by decide) (by kernel_rfl) (.inl rfl)
            change a1.tmps.getD 61 undef = .pointer (some ⟨d, 0, none⟩) at d0
            refine wp_call 31 #[.tmp 61, .const (.int .i64 2)] _ rfl (callFunc_enter Try.func31 (by kernel_rfl) (by kernel_rfl)) #[.pointer (some ⟨d, 0, none⟩), .int .i64 ((2 : Nat) : Int)] (by simp only [List.map_toArray, List.map_cons, List.map_nil]; show #[a1.tmps.getD 61 undef, _] = _; rw [d0]; rfl) (l1Once_any d n cap 2 a wn hn (by omega) hG.cur) ?_
            rintro e w' ⟨o, rfl, hc', ho'⟩
            exact ⟨_, rfl, hk _ w' γ (by rw [if_neg (by decide)]; exact ⟨hG.out.trans ho', hc'.out, hG.z.outS (outS_of_out ho') (by simp; omega), (fun e => (hG.q e).curs ho' (by omega) (by omega)), Nat.le_trans hG.size ho'.size⟩) ⟨ho', fun _ _ => rfl⟩ ⟨o, rfl⟩⟩
          | 4, hi =>
            injection hi with hi; subst hi
            intro c a1 wn γ hc0 hc1 hG hK hD K hk
            have d0 := hD 0 (by decide) (by kernel_rfl) (.inl rfl)
            change a1.tmps.getD 59 undef = .agg #[.slice e1 Q.I.length f1, .slice e2 Q.D.length f2, .slice e3 Q.A.length f3, .int .i64 Q.now] at d0
            have d1 := hD 1 (by decide) (by kernel_rfl) (.inl rfl)
            change a1.tmps.getD 60 undef = .string s at d1
            have d2 := hD 2 (by decide) (by kernel_rfl) (.inl rfl)
            change ∃ o : Bool, a1.tmps.getD 62 undef = .bool o at d2
            obtain ⟨o, d2⟩ := d2
            have hq1 := hG.q (hc0 (.inl (by kernel_rfl)))
            refine wp_call 44 #[.tmp 59, .tmp 60, .tmp 62] _ rfl (callFunc_enter Try.func44 (by kernel_rfl) (by kernel_rfl)) #[.agg #[.slice e1 Q.I.length f1, .slice e2 Q.D.length f2, .slice e3 Q.A.length f3, .int .i64 Q.now], .string s, .bool o] (by simp only [List.map_toArray, List.map_cons, List.map_nil]; show #[a1.tmps.getD 59 undef, a1.tmps.getD 60 undef, a1.tmps.getD 62 undef] = _; rw [d0, d1, d2]) (sDone_any Q s o _ wn Dr.out.1 hsz hq1.q.rd) ?_
            rintro e w' ⟨vI', vD', vA', rfl, hq', hb'⟩
            exact ⟨_, rfl, hk _ w' γ (by rw [if_neg (by decide)]; exact ⟨hG.out.trans (Out.of_below hb'), hG.cur.later hb', hG.z.below hb', (fun e => (hG.q e).below hb'), Nat.le_trans hG.size hb'.size⟩) ⟨hb', fun _ _ => rfl⟩ ⟨o, _, _, _, rfl, hq'.mono hG.size⟩⟩
          | 5, hi =>
            injection hi with hi; subst hi
            intro c a1 wn γ hc0 hc1 hG hK hD K hk
            have d0 := hD 0 (by decide) (by kernel_rfl) (.inl rfl)
            obtain ⟨o, vI', vD', vA', d0, h2⟩ := d0
            change a1.tmps.getD 63 undef = _ at d0
            refine wp_pure _ ?_ (hk _ _ γ (by rw [if_neg (by decide)]; exact hG) ⟨Below.refl _ _, fun _ _ => rfl⟩ ⟨o, vI', vD', vA', rfl, h2⟩)
            simp [execOp, Act.eval, d0, go_sem]
          | 6, hi =>
            injection hi with hi; subst hi
            intro c a1 wn γ hc0 hc1 hG hK hD K hk
            have d0 := hD 0 (by decide) (by kernel_rfl) (.inl rfl)
            obtain ⟨o, vI', vD', vA', d0, h2⟩ := d0
            change a1.tmps.getD 58 undef = _ at d0
            refine wp_pure _ ?_ (hk _ _ γ (by rw [if_neg (by decide)]; exact hG) ⟨Below.refl _ _, fun _ _ => rfl⟩ ⟨o, vI', vD', vA', rfl, h2⟩)
            simp [execOp, Act.eval, d0, go_sem]
          | 7, hi =>
            injection hi with hi; subst hi
            intro c a1 wn γ hc0 hc1 hG hK hD K hk
            have d0 := hD 0 (by decide) (by kernel_rfl) (.inl rfl)
            obtain ⟨o, vI', vD', vA', d0, h2⟩ := d0
            change a1.tmps.getD 58 undef = _ at d0
            refine wp_pure (.bool (doneQ Q s o).2) ?_ (hk _ _ γ (by rw [if_neg (by decide)]; exact hG) ⟨Below.refl _ _, fun _ _ => rfl⟩ trivial)
            simp [execOp, Act.eval, d0, go_sem]
          | 8, hi =>
            injection hi with hi; subst hi
            intro c a1 wn γ hc0 hc1 hG hK hD K hk
            have e5 := hK.at 5 (by kernel_rfl)
            have d0 := hD 0 (by decide) (by kernel_rfl) (.inl rfl)
            obtain ⟨o, vI', vD', vA', d0, h2⟩ := d0
            change a1.tmps.getD 64 undef = _ at d0
            obtain ⟨g1, k1, rfl⟩ := h2.i.itS
            obtain ⟨g2, k2, rfl⟩ := h2.d.itS
            obtain ⟨g3, k3, rfl⟩ := h2.a.stS
            have hu := (hG.q (hc0 (.inr rfl))).o
            have hQ := QB.ret0 hu (Nat.lt_succ_self _) (by omega) (by omega) h2
            have hO := stQ_out wn w1.heap.size (.slice g1 ((doneQ Q s o).1).I.length k1) (.slice g2 ((doneQ Q s o).1).D.length k2) (.slice g3 ((doneQ Q s o).1).A.length k3) ((doneQ Q s o).1).now
            refine wp_skip ?_ (hk undef (stQ wn w1.heap.size (.slice g1 ((doneQ Q s o).1).I.length k1) (.slice g2 ((doneQ Q s o).1).D.length k2) (.slice g3 ((doneQ Q s o).1).A.length k3) ((doneQ Q s o).1).now) γ (by rw [if_pos rfl]; exact ⟨hG.out.outS hO (by simp; omega), hG.cur.far hO hd HCL.out (by simp; omega), hG.z.outS hO (by simp; omega), (fun e => by cases e), Nat.le_trans hG.size hO.size⟩) ⟨hO, fun _ _ => rfl⟩ ⟨o, _, _, _, hQ⟩)
            exact store_run 27 (.tmp 5) (.tmp 64) rfl e5 d0 [.slice g1 ((doneQ Q s o).1).I.length k1, .slice g2 ((doneQ Q s o).1).D.length k2, .slice g3 ((doneQ Q s o).1).A.length k3, .int .i64 ((doneQ Q s o).1).now] rfl (by intro u hu; simp at hu; rcases hu with rfl | rfl | rfl | rfl <;> rfl) Try.zQueue_impl_Queue (hu.there 0 4 (by simp))
          | i + 9, hi => cases hi
        case hend15 =>
          intro x w9 γ hG hx
          obtain ⟨o, vI9, vD9, vA9, hQ9⟩ := hx 8 (by decide) rfl
          obtain ⟨g1, k1, g2, k2, g3, k3, rfl, rfl, rfl⟩ := hQ9.xs
          have HQ9 := hide hQ9
          have OZ9 := hide hG.z
          have C9 := hide hG.cur
          have O9 := hide hG.out
          have D9 := hide ((Dr.out.done (o := o) hsz).mono (show m - (q + 1) + 1 ≤ m - q by omega))
          clear hG hx hQ9 HG0
          simp only [putAll, Act.put, List.setIfInBounds_toArray, List.set_cons_zero, List.set_cons_succ, Nat.zero_add, Nat.reduceAdd]
          go_wp2
          go_roundw
          case rel => exact ⟨q, _, _, _, _, by omega, by go_num, D9, HQ9, OZ9, C9, O9⟩
          case measure => simp [intOf]
      · have HNQ : Hid (0 ≤ Q.now ∧ Q.now ≤ 1000000) := Dr.out.2.1.2.2.1
        go_wp2
        have HG0 : Hid (GDr w w4 d w1.heap.size n cap a Q (.slice e1 Q.I.length f1) (.slice e2 Q.D.length f2) (.slice e3 Q.A.length f3) false w4.drew) := ⟨O4.out.drew, hc4.out.drew, objU.dr9 OZ4.out, fun _ => HQ4.out.below (Below.drew (Below.refl _ _)), Nat.le_refl _⟩
        have hdw : d < w1.heap.size := by omega
        refine wp_region_inv2 (fun i => if i = 4 then Out d (d + 1) else if i = 7 then OutS [w1.heap.size] else fun u v => Below u.heap.size u v) (fun _ => none) 7 (by decide) (GDr w w4 d w1.heap.size n cap a Q (.slice e1 Q.I.length f1) (.slice e2 Q.D.length f2) (.slice e3 Q.A.length f3)) (FR17 w4 d w1.heap.size Q  (.agg #[.slice e1 Q.I.length f1, .slice e2 Q.D.length f2, .slice e3 Q.A.length f3, .int .i64 Q.now])) (by kernel_rfl) (by kernel_rfl) (by kernel_rfl) ?hF17 ?hU17 ?hG17 ?hstep17 ?hend17
        case hF17 =>
          intro i j γ γ' v wa wb hij hsp hnd hsd h hfr
          have ho := hfr.out
          have KO : ∀ (R : Qu) (vI vD vA : Value), ownQ wa w4.heap.size R vI vD vA → ownQ wb w4.heap.size R vI vD vA := fun R vI vD vA h2 => by
            by_cases e3 : i = 4
            · rw [if_pos e3] at ho; exact h2.outS (outS_of_out ho) (by simp; omega)
            · rw [if_neg e3] at ho
              by_cases e8 : i = 7
              · rw [if_pos e8] at ho; exact h2.outS ho (by simp; omega)
              · rw [if_neg e8] at ho; exact h2.below ho
          match j, h with
          | 0, h => exact h
          | 1, h => exact h
          | 2, h => exact h
          | 3, h => exact h
          | 4, h => exact h
          | 5, h => exact h
          | 6, ⟨o, vI, vD, vA, h1, h2⟩ => exact ⟨o, vI, vD, vA, h1, KO _ _ _ _ h2⟩
          | 7, ⟨o, vI, vD, vA, hx4, h1⟩ =>
            refine ⟨o, vI, vD, vA, hx4, ?_⟩
            by_cases e3 : i = 4
            · rw [if_pos e3] at ho; exact h1.curs ho (by omega) (by omega)
            · rw [if_neg e3, if_neg hij] at ho; exact h1.below ho
          | j + 8, h => exact h.elim
        case hU17 =>
          intro i o hi hd γ v wa h
          match i, hi with
          | 0, hi => (first | exact trivial | (injection hi with hi; subst hi; cases hd))
          | 1, hi => (first | exact trivial | (injection hi with hi; subst hi; cases hd))
          | 2, hi => (first | exact trivial | (injection hi with hi; subst hi; cases hd))
          | 3, hi => (first | exact trivial | (injection hi with hi; subst hi; cases hd))
          | 4, hi => (first | exact trivial | (injection hi with hi; subst hi; cases hd))
          | 5, hi => (first | exact trivial | (injection hi with hi; subst hi; cases hd))
          | 6, hi => (first | exact trivial | (injection hi with hi; subst hi; cases hd))
          | 7, hi => exact h
          | i + 8, hi => cases hi
        case hG17 => exact HG0.out
        case hstep17 =>
          intro i o hi
          match i, hi with
          | 0, hi =>
            injection hi with hi; subst hi
            intro c a1 wn γ hc0 hc1 hG hK hD K hk
            have he1 := hK.at 5 (by kernel_rfl)
            have hq1 := hG.q (hc0 (.inl (by kernel_rfl)))
            have x0 := hq1.o.cell 0 _ rfl
            have x1 := hq1.o.cell 1 _ rfl
            have x2 := hq1.o.cell 2 _ rfl
            have x3 := hq1.o.cell 3 _ rfl
            refine wp_pure (.agg #[.slice e1 Q.I.length f1, .slice e2 Q.D.length f2, .slice e3 Q.A.length f3, .int .i64 Q.now]) ?_ (hk _ _ γ (by rw [if_neg (by decide)]; exact hG) ⟨Below.refl _ _, fun _ _ => rfl⟩ rfl)
            simp [execOp, Act.eval, he1, x0, x1, x2, x3, go_sem]
          | 1, hi =>
            injection hi with hi; subst hi
            intro c a1 wn γ hc0 hc1 hG hK hD K hk
            have he1 := hK.at 5 (by kernel_rfl)
            refine wp_pure (.pointer (some ⟨w1.heap.size, 3, none⟩)) ?_ (hk _ _ γ (by rw [if_neg (by decide)]; exact hG) ⟨Below.refl _ _, fun _ _ => rfl⟩ rfl)
            simp [execOp, Act.eval, he1, go_sem]
          | 2, hi =>
            injection hi with hi; subst hi
            intro c a1 wn γ hc0 hc1 hG hK hD K hk
            have d0 := hD 0 (by decide) (by kernel_rfl) (.inl rfl)
            change a1.tmps.getD 69 undef = .pointer (some ⟨w1.heap.size, 3, none⟩) at d0
            have hq1 := hG.q (hc0 (.inl (by kernel_rfl)))
            have x3 := hq1.o.cell 3 _ rfl
            refine wp_pure (.int .i64 Q.now) ?_ (hk _ _ γ (by rw [if_neg (by decide)]; exact hG) ⟨Below.refl _ _, fun _ _ => rfl⟩ rfl)
            simp [execOp, Act.eval, d0, x3, go_sem]
          | 3, hi =>
            injection hi with hi; subst hi
            intro c a1 wn γ hc0 hc1 hG hK hD K hk
            have he1 := hK.at 0 (by kernel_rfl)
            refine wp_pure (.pointer (some ⟨d, 0, none⟩)) ?_ (hk _ _ γ (by rw [if_neg (by decide)]; exact hG) ⟨Below.refl _ _, fun _ _ => rfl⟩ rfl)
            simp [execOp, Act.eval, he1, go_sem]
          | 4, hi =>
            injection hi with hi; subst hi
            intro c a1 wn γ hc0 hc1 hG hK hD K hk
            have d0 := hD 0 (by decide) (by kernel_rfl) (.inl rfl)
            change a1.tmps.getD 71 undef = .pointer (some ⟨d, 0, none⟩) at d0
            refine wp_call 33 #[.tmp 71, .const (.int .i64 4)] _ rfl (callFunc_enter Try.func33 (by kernel_rfl) (by kernel_rfl)) #[.pointer (some ⟨d, 0, none⟩), .int .i64 ((4 : Nat) : Int)] (by simp only [List.map_toArray, List.map_cons, List.map_nil]; show #[a1.tmps.getD 71 undef, _] = _; rw [d0]; rfl) (l1Below_any d n cap 4 a wn hn (by omega) hG.cur) ?_
            rintro e w' ⟨o, ho4, rfl, hc', ho'⟩
            exact ⟨_, rfl, hk _ w' γ (by rw [if_neg (by decide)]; exact ⟨hG.out.trans ho', hc'.out, hG.z.outS (outS_of_out ho') (by simp; omega), (fun e => (hG.q e).curs ho' (by omega) (by omega)), Nat.le_trans hG.size ho'.size⟩) ⟨ho', fun _ _ => rfl⟩ ⟨o, ho4 (by omega), rfl⟩⟩
          | 5, hi =>
            injection hi with hi; subst hi
            intro c a1 wn γ hc0 hc1 hG hK hD K hk
            have d0 := hD 0 (by decide) (by kernel_rfl) (.inl rfl)
            change a1.tmps.getD 70 undef = .int .i64 Q.now at d0
            have d1 := hD 1 (by decide) (by kernel_rfl) (.inl rfl)
            change ∃ x : Nat, x < 4 ∧ a1.tmps.getD 72 undef = .int .i64 x at d1
            obtain ⟨o, ho4, d1⟩ := d1
            have hwr : IntKind.i64.wrap (Q.now + (o : Nat)) = Q.now + (o : Nat) := uwrap64 _ (by have := HNQ.out; omega) (by have := HNQ.out; omega)
            refine wp_pure (.int .i64 (Q.now + (o : Nat))) ?_ (hk _ _ γ (by rw [if_neg (by decide)]; exact hG) ⟨Below.refl _ _, fun _ _ => rfl⟩ ⟨o, ho4, rfl⟩)
            simp [execOp, Act.eval, d0, d1, hwr, go_sem]
          | 6, hi =>
            injection hi with hi; subst hi
            intro c a1 wn γ hc0 hc1 hG hK hD K hk
            have d0 := hD 0 (by decide) (by kernel_rfl) (.inl rfl)
            change a1.tmps.getD 68 undef = .agg #[.slice e1 Q.I.length f1, .slice e2 Q.D.length f2, .slice e3 Q.A.length f3, .int .i64 Q.now] at d0
            have d1 := hD 1 (by decide) (by kernel_rfl) (.inl rfl)
            change ∃ x : Nat, x < 4 ∧ a1.tmps.getD 73 undef = .int .i64 (Q.now + (x : Nat)) at d1
            obtain ⟨o, ho4, d1⟩ := d1
            have hq1 := hG.q (hc0 (.inl (by kernel_rfl)))
            refine wp_call 45 #[.tmp 68, .tmp 73] _ rfl (callFunc_enter Try.func45 (by kernel_rfl) (by kernel_rfl)) #[.agg #[.slice e1 Q.I.length f1, .slice e2 Q.D.length f2, .slice e3 Q.A.length f3, .int .i64 Q.now], .int .i64 (Q.now + (o : Nat))] (by simp only [List.map_toArray, List.map_cons, List.map_nil]; show #[a1.tmps.getD 68 undef, a1.tmps.getD 73 undef] = _; rw [d0, d1]) (sPass_any Q (Q.now + (o : Nat)) _ wn Dr.out.1 hq1.q.rd) ?_
            rintro e w' ⟨vI', vD', vA', rfl, hq', hb'⟩
            exact ⟨_, rfl, hk _ w' γ (by rw [if_neg (by decide)]; exact ⟨hG.out.trans (Out.of_below hb'), hG.cur.later hb', hG.z.below hb', (fun e => (hG.q e).below hb'), Nat.le_trans hG.size hb'.size⟩) ⟨hb', fun _ _ => rfl⟩ ⟨o, _, _, _, ⟨ho4, rfl⟩, hq'.mono hG.size⟩⟩
          | 7, hi =>
            injection hi with hi; subst hi
            intro c a1 wn γ hc0 hc1 hG hK hD K hk
            have e5 := hK.at 5 (by kernel_rfl)
            have d0 := hD 0 (by decide) (by kernel_rfl) (.inl rfl)
            obtain ⟨o, vI', vD', vA', ⟨ho4, d0⟩, h2⟩ := d0
            change a1.tmps.getD 74 undef = _ at d0
            obtain ⟨g1, k1, rfl⟩ := h2.i.itS
            obtain ⟨g2, k2, rfl⟩ := h2.d.itS
            obtain ⟨g3, k3, rfl⟩ := h2.a.stS
            have hu := (hG.q (hc0 (.inr rfl))).o
            have hQ := QB.ret0 hu (Nat.lt_succ_self _) (by omega) (by omega) h2
            have hO := stQ_out wn w1.heap.size (.slice g1 (passQ Q (Q.now + (o : Nat))).I.length k1) (.slice g2 (passQ Q (Q.now + (o : Nat))).D.length k2) (.slice g3 (passQ Q (Q.now + (o : Nat))).A.length k3) (passQ Q (Q.now + (o : Nat))).now
            refine wp_skip ?_ (hk undef (stQ wn w1.heap.size (.slice g1 (passQ Q (Q.now + (o : Nat))).I.length k1) (.slice g2 (passQ Q (Q.now + (o : Nat))).D.length k2) (.slice g3 (passQ Q (Q.now + (o : Nat))).A.length k3) (passQ Q (Q.now + (o : Nat))).now) γ (by rw [if_pos rfl]; exact ⟨hG.out.outS hO (by simp; omega), hG.cur.far hO hd HCL.out (by simp; omega), hG.z.outS hO (by simp; omega), (fun e => by cases e), Nat.le_trans hG.size hO.size⟩) ⟨hO, fun _ _ => rfl⟩ ⟨o, _, _, _, ho4, hQ⟩)
            exact store_run 27 (.tmp 5) (.tmp 74) rfl e5 d0 [.slice g1 (passQ Q (Q.now + (o : Nat))).I.length k1, .slice g2 (passQ Q (Q.now + (o : Nat))).D.length k2, .slice g3 (passQ Q (Q.now + (o : Nat))).A.length k3, .int .i64 (passQ Q (Q.now + (o : Nat))).now] rfl (by intro u hu; simp at hu; rcases hu with rfl | rfl | rfl | rfl <;> rfl) Try.zQueue_impl_Queue (hu.there 0 4 (by simp))
          | i + 8, hi => cases hi
        case hend17 =>
          intro x w9 γ hG hx
          obtain ⟨o, vI9, vD9, vA9, ho4, hQ9⟩ := hx 7 (by decide) rfl
          obtain ⟨g1, k1, g2, k2, g3, k3, rfl, rfl, rfl⟩ := hQ9.xs
          have HQ9 := hide hQ9
          have OZ9 := hide hG.z
          have C9 := hide hG.cur
          have O9 := hide hG.out
          have D9 := hide ((Dr.out.pass (z := Q.now + (o : Nat)) (by have := HNQ.out; unfold inK; omega) (by omega)).mono (show m - (q + 1) + 1 ≤ m - q by omega))
          clear hG hx hQ9 HG0
          simp only [putAll, Act.put, List.setIfInBounds_toArray, List.set_cons_zero, List.set_cons_succ, Nat.zero_add, Nat.reduceAdd]
          go_wp2
          go_roundw
          case rel => exact ⟨q, _, _, _, _, by omega, by go_num, D9, HQ9, OZ9, C9, O9⟩
          case measure => simp [intOf]
      · by_cases hD0 : 0 < Q.D.length
        · have hD0' : (0 : Int) < (Q.D.length : Int) := by omega
          have hnz : ((Q.D[0]'hD0).1).size ≤ maxLen := (Dr.out.1.2.1.2 _ (List.getElem_mem hD0)).1
          obtain ⟨g, k2, eg, -⟩ := HQ4.out.q.d.opened (by rw [List.length_map]; exact hD0)
          rw [List.length_map] at eg
          cases eg
          go_wp2
          have HG0 : Hid (GDr w w4 d w1.heap.size n cap a Q (.slice e1 Q.I.length f1) (.slice (some ⟨g, 0, none⟩) Q.D.length f2) (.slice e3 Q.A.length f3) false w4.drew) := ⟨O4.out.drew, hc4.out.drew, objU.dr9 OZ4.out, fun _ => HQ4.out.below (Below.drew (Below.refl _ _)), Nat.le_refl _⟩
          have hdw : d < w1.heap.size := by omega
          refine wp_region_inv2 (fun i => if i = 7 then Out d (d + 1) else if i = 12 then OutS [w1.heap.size] else fun u v => Below u.heap.size u v) (fun _ => none) 12 (by decide) (GDr w w4 d w1.heap.size n cap a Q (.slice e1 Q.I.length f1) (.slice (some ⟨g, 0, none⟩) Q.D.length f2) (.slice e3 Q.A.length f3)) (FR8 w4 d w1.heap.size Q (Q.D[0]'hD0).1 g f2 (.agg #[.slice e1 Q.I.length f1, .slice (some ⟨g, 0, none⟩) Q.D.length f2, .slice e3 Q.A.length f3, .int .i64 Q.now])) (by kernel_rfl) (by kernel_rfl) (by kernel_rfl) ?hF8 ?hU8 ?hG8 ?hstep8 ?hend8
          case hF8 =>
            intro i j γ γ' v wa wb hij hsp hnd hsd h hfr
            have ho := hfr.out
            have KO : ∀ (R : Qu) (vI vD vA : Value), ownQ wa w4.heap.size R vI vD vA → ownQ wb w4.heap.size R vI vD vA := fun R vI vD vA h2 => by
              by_cases e3 : i = 7
              · rw [if_pos e3] at ho; exact h2.outS (outS_of_out ho) (by simp; omega)
              · rw [if_neg e3] at ho
                by_cases e8 : i = 12
                · rw [if_pos e8] at ho; exact h2.outS ho (by simp; omega)
                · rw [if_neg e8] at ho; exact h2.below ho
            match j, h with
            | 0, h => exact h
            | 1, h => exact h
            | 2, h => exact h
            | 3, h => exact h
            | 4, h => exact h
            | 5, h => exact h
            | 6, h => exact h
            | 7, h => exact h
            | 8, ⟨o, vI, vD, vA, h1, h2⟩ => exact ⟨o, vI, vD, vA, h1, KO _ _ _ _ h2⟩
            | 9, ⟨o, vI, vD, vA, h1, h2⟩ => exact ⟨o, vI, vD, vA, h1, KO _ _ _ _ h2⟩
            | 10, ⟨o, vI, vD, vA, h1, h2⟩ => exact ⟨o, vI, vD, vA, h1, KO _ _ _ _ h2⟩
            | 11, h => exact h
            | 12, ⟨o, vI, vD, vA, h1⟩ =>
              refine ⟨o, vI, vD, vA, ?_⟩
              by_cases e3 : i = 7
              · rw [if_pos e3] at ho; exact h1.curs ho (by omega) (by omega)
              · rw [if_neg e3, if_neg hij] at ho; exact h1.below ho
            | j + 13, h => exact h.elim
          case hU8 =>
            intro i o hi hd γ v wa h
            match i, hi with
            | 0, hi => (first | exact trivial | (injection hi with hi; subst hi; cases hd))
            | 1, hi => (first | exact trivial | (injection hi with hi; subst hi; cases hd))
            | 2, hi => (first | exact trivial | (injection hi with hi; subst hi; cases hd))
            | 3, hi => (first | exact trivial | (injection hi with hi; subst hi; cases hd))
            | 4, hi => (first | exact trivial | (injection hi with hi; subst hi; cases hd))
            | 5, hi => (first | exact trivial | (injection hi with hi; subst hi; cases hd))
            | 6, hi => (first | exact trivial | (injection hi with hi; subst hi; cases hd))
            | 7, hi => (first | exact trivial | (injection hi with hi; subst hi; cases hd))
            | 8, hi => (first | exact trivial | (injection hi with hi; subst hi; cases hd))
            | 9, hi => (first | exact trivial | (injection hi with hi; subst hi; cases hd))
            | 10, hi => (first | exact trivial | (injection hi with hi; subst hi; cases hd))
            | 11, hi => (first | exact trivial | (injection hi with hi; subst hi; cases hd))
            | 12, hi => exact h
            | i + 13, hi => cases hi
          case hG8 => exact HG0.out
          case hstep8 =>
            intro i o hi
            match i, hi with
            | 0, hi =>
              injection hi with hi; subst hi
              intro c a1 wn γ hc0 hc1 hG hK hD K hk
              have he1 := hK.at 5 (by kernel_rfl)
              have hq1 := hG.q (hc0 (.inl (by kernel_rfl)))
              have x0 := hq1.o.cell 0 _ rfl
              have x1 := hq1.o.cell 1 _ rfl
              have x2 := hq1.o.cell 2 _ rfl
              have x3 := hq1.o.cell 3 _ rfl
              refine wp_pure (.agg #[.slice e1 Q.I.length f1, .slice (some ⟨g, 0, none⟩) Q.D.length f2, .slice e3 Q.A.length f3, .int .i64 Q.now]) ?_ (hk _ _ γ (by rw [if_neg (by decide)]; exact hG) ⟨Below.refl _ _, fun _ _ => rfl⟩ rfl)
              simp [execOp, Act.eval, he1, x0, x1, x2, x3, go_sem]
            | 1, hi =>
              injection hi with hi; subst hi
              intro c a1 wn γ hc0 hc1 hG hK hD K hk
              have he1 := hK.at 5 (by kernel_rfl)
              refine wp_pure (.pointer (some ⟨w1.heap.size, 1, none⟩)) ?_ (hk _ _ γ (by rw [if_neg (by decide)]; exact hG) ⟨Below.refl _ _, fun _ _ => rfl⟩ rfl)
              simp [execOp, Act.eval, he1, go_sem]
            | 2, hi =>
              injection hi with hi; subst hi
              intro c a1 wn γ hc0 hc1 hG hK hD K hk
              have d0 := hD 0 (by decide) (by kernel_rfl) (.inl rfl)
              change a1.tmps.getD 29 undef = .pointer (some ⟨w1.heap.size, 1, none⟩) at d0
              have hq1 := hG.q (hc0 (.inl (by kernel_rfl)))
              have x1 := hq1.o.cell 1 _ rfl
              refine wp_pure (.slice (some ⟨g, 0, none⟩) Q.D.length f2) ?_ (hk _ _ γ (by rw [if_neg (by decide)]; exact hG) ⟨Below.refl _ _, fun _ _ => rfl⟩ rfl)
              simp [execOp, Act.eval, d0, x1, go_sem]
            | 3, hi =>
              injection hi with hi; subst hi
              intro c a1 wn γ hc0 hc1 hG hK hD K hk
              have d0 := hD 0 (by decide) (by kernel_rfl) (.inl rfl)
              change a1.tmps.getD 30 undef = .slice (some ⟨g, 0, none⟩) Q.D.length f2 at d0
              rw [Array.getD_eq_getD_getElem?] at d0
              refine wp_pure (.pointer (some ⟨g, 0, none⟩)) ?_ (hk _ _ γ (by rw [if_neg (by decide)]; exact hG) ⟨Below.refl _ _, fun _ _ => rfl⟩ rfl)
              simp [execOp, Act.eval, d0, hD0, go_sem]
            | 4, hi =>
              injection hi with hi; subst hi
              intro c a1 wn γ hc0 hc1 hG hK hD K hk
              have d0 := hD 0 (by decide) (by kernel_rfl) (.inl rfl)
              change a1.tmps.getD 31 undef = .pointer (some ⟨g, 0, none⟩) at d0
              refine wp_pure (.pointer (some ⟨g, 0, none⟩)) ?_ (hk _ _ γ (by rw [if_neg (by decide)]; exact hG) ⟨Below.refl _ _, fun _ _ => rfl⟩ rfl)
              simp [execOp, Act.eval, d0, go_sem]
            | 5, hi =>
              injection hi with hi; subst hi
              intro c a1 wn γ hc0 hc1 hG hK hD K hk
              have d0 := hD 0 (by decide) (by kernel_rfl) (.inl rfl)
              change a1.tmps.getD 32 undef = .pointer (some ⟨g, 0, none⟩) at d0
              have hq1 := hG.q (hc0 (.inl (by kernel_rfl)))
              obtain ⟨g', o', e6, -, c6, -, -⟩ := (hq1.q.d.rd (by decide)).itAt hD0
              cases e6
              rw [Nat.zero_mul, Nat.add_zero] at c6
              refine wp_pure (.string (Q.D[0]'hD0).1) ?_ (hk _ _ γ (by rw [if_neg (by decide)]; exact hG) ⟨Below.refl _ _, fun _ _ => rfl⟩ rfl)
              simp [execOp, Act.eval, d0, c6, go_sem]
            | 6, hi =>
              injection hi with hi; subst hi
              intro c a1 wn γ hc0 hc1 hG hK hD K hk
              have he1 := hK.at 0 (by kernel_rfl)
              refine wp_pure (.pointer (some ⟨d, 0, none⟩)) ?_ (hk _ _ γ (by rw [if_neg (by decide)]; exact hG) ⟨Below.refl _ _, fun _ _ => rfl⟩ rfl)
              simp [execOp, Act.eval, he1, go_sem]
            | 7, hi =>
              injection hi with hi; subst hi
              intro c a1 wn γ hc0 hc1 hG hK hD K hk
              have d0 := hD 0 (by decide) (by kernel_rfl) (.inl rfl)
              change a1.tmps.getD 34 undef = .pointer (some ⟨d, 0, none⟩) at d0
              refine wp_call 31 #[.tmp 34, .const (.int .i64 3)] _ rfl (callFunc_enter Try.func31 (by kernel_rfl) (by kernel_rfl)) #[.pointer (some ⟨d, 0, none⟩), .int .i64 ((3 : Nat) : Int)] (by simp only [List.map_toArray, List.map_cons, List.map_nil]; show #[a1.tmps.getD 34 undef, _] = _; rw [d0]; rfl) (l1Once_any d n cap 3 a wn hn (by omega) hG.cur) ?_
              rintro e w' ⟨o, rfl, hc', ho'⟩
              exact ⟨_, rfl, hk _ w' γ (by rw [if_neg (by decide)]; exact ⟨hG.out.trans ho', hc'.out, hG.z.outS (outS_of_out ho') (by simp; omega), (fun e => (hG.q e).curs ho' (by omega) (by omega)), Nat.le_trans hG.size ho'.size⟩) ⟨ho', fun _ _ => rfl⟩ ⟨o, rfl⟩⟩
            | 8, hi =>
              injection hi with hi; subst hi
              intro c a1 wn γ hc0 hc1 hG hK hD K hk
              have d0 := hD 0 (by decide) (by kernel_rfl) (.inl rfl)
              change a1.tmps.getD 28 undef = .agg #[.slice e1 Q.I.length f1, .slice (some ⟨g, 0, none⟩) Q.D.length f2, .slice e3 Q.A.length f3, .int .i64 Q.now] at d0
              have d1 := hD 1 (by decide) (by kernel_rfl) (.inl rfl)
              change a1.tmps.getD 33 undef = .string (Q.D[0]'hD0).1 at d1
              have d2 := hD 2 (by decide) (by kernel_rfl) (.inl rfl)
              change ∃ o : Bool, a1.tmps.getD 35 undef = .bool o at d2
              obtain ⟨o, d2⟩ := d2
              have hq1 := hG.q (hc0 (.inl (by kernel_rfl)))
              refine wp_call 44 #[.tmp 28, .tmp 33, .tmp 35] _ rfl (callFunc_enter Try.func44 (by kernel_rfl) (by kernel_rfl)) #[.agg #[.slice e1 Q.I.length f1, .slice (some ⟨g, 0, none⟩) Q.D.length f2, .slice e3 Q.A.length f3, .int .i64 Q.now], .string (Q.D[0]'hD0).1, .bool o] (by simp only [List.map_toArray, List.map_cons, List.map_nil]; show #[a1.tmps.getD 28 undef, a1.tmps.getD 33 undef, a1.tmps.getD 35 undef] = _; rw [d0, d1, d2]) (sDone_any Q (Q.D[0]'hD0).1 o _ wn Dr.out.1 hnz hq1.q.rd) ?_
              rintro e w' ⟨vI', vD', vA', rfl, hq', hb'⟩
              exact ⟨_, rfl, hk _ w' γ (by rw [if_neg (by decide)]; exact ⟨hG.out.trans (Out.of_below hb'), hG.cur.later hb', hG.z.below hb', (fun e => (hG.q e).below hb'), Nat.le_trans hG.size hb'.size⟩) ⟨hb', fun _ _ => rfl⟩ ⟨o, _, _, _, rfl, hq'.mono hG.size⟩⟩
            | 9, hi =>
              injection hi with hi; subst hi
              intro c a1 wn γ hc0 hc1 hG hK hD K hk
              have d0 := hD 0 (by decide) (by kernel_rfl) (.inl rfl)
              obtain ⟨o, vI', vD', vA', d0, h2⟩ := d0
              change a1.tmps.getD 36 undef = _ at d0
              refine wp_pure _ ?_ (hk _ _ γ (by rw [if_neg (by decide)]; exact hG) ⟨Below.refl _ _, fun _ _ => rfl⟩ ⟨o, vI', vD', vA', rfl, h2⟩)
              simp [execOp, Act.eval, d0, go_sem]
            | 10, hi =>
              injection hi with hi; subst hi
              intro c a1 wn γ hc0 hc1 hG hK hD K hk
              have d0 := hD 0 (by decide) (by kernel_rfl) (.inl rfl)
              obtain ⟨o, vI', vD', vA', d0, h2⟩ := d0
              change a1.tmps.getD 27 undef = _ at d0
              refine wp_pure _ ?_ (hk _ _ γ (by rw [if_neg (by decide)]; exact hG) ⟨Below.refl _ _, fun _ _ => rfl⟩ ⟨o, vI', vD', vA', rfl, h2⟩)
              simp [execOp, Act.eval, d0, go_sem]
            | 11, hi =>
              injection hi with hi; subst hi
              intro c a1 wn γ hc0 hc1 hG hK hD K hk
              have d0 := hD 0 (by decide) (by kernel_rfl) (.inl rfl)
              obtain ⟨o, vI', vD', vA', d0, h2⟩ := d0
              change a1.tmps.getD 27 undef = _ at d0
              refine wp_pure (.bool (doneQ Q (Q.D[0]'hD0).1 o).2) ?_ (hk _ _ γ (by rw [if_neg (by decide)]; exact hG) ⟨Below.refl _ _, fun _ _ => rfl⟩ trivial)
              simp [execOp, Act.eval, d0, go_sem]
            | 12, hi =>
              injection hi with hi; subst hi
              intro c a1 wn γ hc0 hc1 hG hK hD K hk
              have e5 := hK.at 5 (by kernel_rfl)
              have d0 := hD 0 (by decide) (by kernel_rfl) (.inl rfl)
              obtain ⟨o, vI', vD', vA', d0, h2⟩ := d0
              change a1.tmps.getD 37 undef = _ at d0
              obtain ⟨g1, k1, rfl⟩ := h2.i.itS
              obtain ⟨g2, k2, rfl⟩ := h2.d.itS
              obtain ⟨g3, k3, rfl⟩ := h2.a.stS
              have hu := (hG.q (hc0 (.inr rfl))).o
              have hQ := QB.ret0 hu (Nat.lt_succ_self _) (by omega) (by omega) h2
              have hO := stQ_out wn w1.heap.size (.slice g1 ((doneQ Q (Q.D[0]'hD0).1 o).1).I.length k1) (.slice g2 ((doneQ Q (Q.D[0]'hD0).1 o).1).D.length k2) (.slice g3 ((doneQ Q (Q.D[0]'hD0).1 o).1).A.length k3) ((doneQ Q (Q.D[0]'hD0).1 o).1).now
              refine wp_skip ?_ (hk undef (stQ wn w1.heap.size (.slice g1 ((doneQ Q (Q.D[0]'hD0).1 o).1).I.length k1) (.slice g2 ((doneQ Q (Q.D[0]'hD0).1 o).1).D.length k2) (.slice g3 ((doneQ Q (Q.D[0]'hD0).1 o).1).A.length k3) ((doneQ Q (Q.D[0]'hD0).1 o).1).now) γ (by rw [if_pos rfl]; exact ⟨hG.out.outS hO (by simp; omega), hG.cur.far hO hd HCL.out (by simp; omega), hG.z.outS hO (by simp; omega), (fun e => by cases e), Nat.le_trans hG.size hO.size⟩) ⟨hO, fun _ _ => rfl⟩ ⟨o, _, _, _, hQ⟩)
              exact store_run 27 (.tmp 5) (.tmp 37) rfl e5 d0 [.slice g1 ((doneQ Q (Q.D[0]'hD0).1 o).1).I.length k1, .slice g2 ((doneQ Q (Q.D[0]'hD0).1 o).1).D.length k2, .slice g3 ((doneQ Q (Q.D[0]'hD0).1 o).1).A.length k3, .int .i64 ((doneQ Q (Q.D[0]'hD0).1 o).1).now] rfl (by intro u hu; simp at hu; rcases hu with rfl | rfl | rfl | rfl <;> rfl) Try.zQueue_impl_Queue (hu.there 0 4 (by simp))
            | i + 13, hi => cases hi
          case hend8 =>
            intro x w9 γ hG hx
            obtain ⟨o, vI9, vD9, vA9, hQ9⟩ := hx 12 (by decide) rfl
            obtain ⟨g1, k1, g2, k2, g3, k3, rfl, rfl, rfl⟩ := hQ9.xs
            have HQ9 := hide hQ9
            have OZ9 := hide hG.z
            have C9 := hide hG.cur
            have O9 := hide hG.out
            have D9 := hide ((Dr.out.done (o := o) hnz).mono (show m - (q + 1) + 1 ≤ m - q by omega))
            clear hG hx hQ9 HG0
            simp only [putAll, Act.put, List.setIfInBounds_toArray, List.set_cons_zero, List.set_cons_succ, Nat.zero_add, Nat.reduceAdd]
            go_wp2
            go_roundw
            case rel => exact ⟨q, _, _, _, _, by omega, by go_num, D9, HQ9, OZ9, C9, O9⟩
            case measure => simp [intOf]
        · have hD0' : ¬ (0 : Int) < (Q.D.length : Int) := by omega
          have D9 := hide (Dr.out.mono (show m - (q + 1) ≤ m - q by omega))
          go_wp2
          go_roundw
          case rel => exact ⟨q, _, _, _, _, by omega, by go_num, D9, HQ4, OZ4, hc4, O4⟩
          case measure => simp [intOf]
end Go.Proofs.Ytddojjigijfgbaa
namespace Go.Proofs.Ytddojjigijfgbaa
open Go.RowKit Go.BigFrame
set_option linter.unusedVariables false
/-- the bytes of a code, wherever they lie -/
def codeAll (w : World) (a : Option Addr) (n : Nat) : Prop := ∀ j, j < n → ∃ b off x, a = some ⟨b, off, none⟩ ∧ w.cell? ⟨b, off + j, none⟩ = some (.int .u8 x) ∧ 0 ≤ x ∧ x < 256
theorem codeAll.later {w w' : World} {a : Option Addr} {n : Nat} (h : codeAll w a n) (hb : Below w.heap.size w w') : codeAll w' a n := fun j hj => by
  obtain ⟨b, off, x, h1, h2, h3⟩ := h j hj
  exact ⟨b, off, x, h1, (hb.cell (p := ⟨b, off + j, none⟩) (World.block_lt_of_cell? _ _ h2)).trans h2, h3⟩
theorem codeAll.at {w : World} {a : Option Addr} {n : Nat} (h : codeAll w a n) : codeAt w a n w.heap.size := fun j hj => by
  obtain ⟨b, off, x, h1, h2, h3⟩ := h j hj
  exact ⟨b, off, x, h1, Nat.ne_of_lt (World.block_lt_of_cell? _ _ h2), h2, h3⟩
theorem open_code {H : Type} {enc : TypeId × Value → H} {w : World} {base : Nat} {spare : Nat → Bool} {held : Bool} {a : Option Addr} {len cap : Nat} {fuel : Nat} {x : DataW H × List MemPlace}
    (h : DataW.trod enc Try.prog w base spare held fuel 22 [.slice a len cap] = some x) : codeAll w a len ∧ len ≤ maxLen := by
  rcases Go.ChangeShapes.open_ints Try.underlying22 Try.underlying5 (by kernel_rfl) h with ⟨hcs, _⟩ | ⟨a', len', cap', zs, hcs, _, hl, hm, hz, _, hcell, hwf⟩
  · simp at hcs
    obtain ⟨rfl, rfl, rfl⟩ := hcs
    exact ⟨fun j hj => by omega, Nat.zero_le _⟩
  · simp at hcs
    obtain ⟨rfl, rfl, rfl⟩ := hcs
    refine ⟨fun j hj => ?_, Nat.le_trans hl hm⟩
    have hj' : j < zs.length := by rw [hz]; split <;> omega
    have hc := hcell j hj'
    have hmem : zs.getD j 0 ∈ zs := by rw [List.getD_eq_getElem?_getD, List.getElem?_eq_getElem hj']; exact List.getElem_mem hj'
    have hw := hwf _ hmem
    obtain ⟨b, off, sp⟩ := a'
    have h0 := hcell 0 (by omega)
    rw [show (⟨b, off, sp⟩ : Addr).add 0 = ⟨b, off, sp⟩ by unfold Addr.add; rw [if_pos rfl]] at h0
    obtain rfl : sp = none := cell_spot h0
    rw [Lib.add_plain] at hc
    have hw2 : 0 ≤ zs.getD j 0 ∧ zs.getD j 0 ≤ 255 := by simpa [Lit.wf, IntKind.min, IntKind.max, IntKind.signed, IntKind.bits] using hw
    exact ⟨b, off, zs.getD j 0, rfl, hc, hw2.1, by omega⟩
end Go.Proofs.Ytddojjigijfgbaa
/- Queues that are drawn and right: spec.DrawQueue. -/
namespace Go.Proofs.Ytddojjigijfgbaa
open Go.RowKit Go.BigFrame
set_option linter.unusedVariables false
theorem l1Size_any (n cap m : Nat) (a : Option Addr) (w : World) (hn : n ≤ 1048576) (hm : 3 ≤ m) (hm' : m ≤ 1048576) :
    Calls Try.prog 14 #[.slice a n cap, .int .i64 m] w fun e w' => ∃ k : Nat, (0 < k ∧ k ≤ m) ∧ e = .returned (.int .i64 k) ∧ w' = w := by
  by_cases h : m < 3 + n / 12
  · go_enter Try.func14, Try.ntmps14
    go_wp2
    go_ret
    exact ⟨m, by omega, rfl, rfl⟩
  · go_enter Try.func14, Try.ntmps14
    go_wp2
    go_ret
    exact ⟨3 + n / 12, by omega, ret_int (by omega), rfl⟩
end Go.Proofs.Ytddojjigijfgbaa
/- Data as cells: a row of plain texts; rows compared one by one. -/
namespace Go.Proofs.Ytddojjigijfgbaa
open Go.RowKit
set_option linter.unusedVariables false

/-- the texts of a row of plain texts -/
def strL : UD → List ByteArray
  | .nil => []
  | .p (.string s) r => s :: strL r
  | .p _ r => strL r
  | .l _ _ _ r => strL r
theorem strL_get : ∀ (d : UD) (i : Nat), tyU d (uE 0) i → (strL d).length = d.len ∧ ∀ j (h : j < (strL d).length), d.at? j = some (.p (.string ((strL d)[j]'h))) ∧ ((strL d)[j]'h).size ≤ maxLen
  | .nil, i, _ => ⟨rfl, fun j h => by cases h⟩
  | .p v r, i, ⟨⟨f, hf, hv⟩, h2⟩ => by
    have hf' : f = .s := by
      have : (i % (uE 0).length) = 0 := by show i % 1 = 0; omega
      rw [this] at hf
      exact (Option.some.inj hf).symm
    subst hf'
    obtain ⟨s, rfl, hs⟩ := hv
    obtain ⟨h3, h4⟩ := strL_get r (i + 1) h2
    refine ⟨by show (strL r).length + 1 = _; rw [h3, UD.len_p], fun j h => ?_⟩
    cases j with
    | zero => exact ⟨rfl, hs⟩
    | succ j => exact h4 j (by simpa [strL] using h)
  | .l k n cs r, i, ⟨⟨t, hf, _⟩, _⟩ => by
    have : (i % (uE 0).length) = 0 := by show i % 1 = 0; omega
    rw [this] at hf
    cases hf
theorem UD.len_nil {d : UD} (h : d.len = 0) : d = .nil := by
  cases d with
  | nil => rfl
  | p v r => rw [UD.len_p] at h; omega
  | l k n cs r => rw [UD.len_l] at h; omega
theorem strL_inj : ∀ (a b : UD) (i j : Nat), tyU a (uE 0) i → tyU b (uE 0) j → strL a = strL b → a = b
  | .nil, .nil, _, _, _, _, _ => rfl
  | .nil, b, i, j, ha, hb, h => by
    have h1 := (strL_get b j hb).1
    rw [← h] at h1
    exact (UD.len_nil h1.symm).symm
  | a, .nil, i, j, ha, hb, h => by
    have h1 := (strL_get a i ha).1
    rw [h] at h1
    exact UD.len_nil h1.symm
  | .p v r, .p v' r', i, j, ha, hb, h => by
    have g1 := (strL_get _ i ha).2 0
    have g2 := (strL_get _ j hb).2 0
    obtain ⟨⟨f, hf, hv⟩, h2⟩ := ha
    obtain ⟨⟨f', hf', hv'⟩, h2'⟩ := hb
    have e1 : f = .s := by
      have : (i % (uE 0).length) = 0 := by show i % 1 = 0; omega
      rw [this] at hf; exact (Option.some.inj hf).symm
    have e2 : f' = .s := by
      have : (j % (uE 0).length) = 0 := by show j % 1 = 0; omega
      rw [this] at hf'; exact (Option.some.inj hf').symm
    subst e1 e2
    obtain ⟨s, rfl, _⟩ := hv
    obtain ⟨s', rfl, _⟩ := hv'
    obtain ⟨rfl, h3⟩ := List.cons.inj (show s :: strL r = s' :: strL r' from h)
    rw [strL_inj r r' (i + 1) (j + 1) h2 h2' h3]
  | .l k n cs r, _, i, _, ha, _, _ => by
    obtain ⟨⟨t, hf, _⟩, _⟩ := ha
    have : (i % (uE 0).length) = 0 := by show i % 1 = 0; omega
    rw [this] at hf
    cases hf
  | _, .l k n cs r, _, j, _, hb, _ => by
    obtain ⟨⟨t, hf, _⟩, _⟩ := hb
    have : (j % (uE 0).length) = 0 := by show j % 1 = 0; omega
    rw [this] at hf
    cases hf
theorem strL_len {n : Nat} {c : UD} (h : tyS 1 n c 0) : (strL c).length = n := by rw [(strL_get c 0 h.2.2.2.2).1, h.2.2.2.1, Nat.mul_one]
theorem strL_ext {n : Nat} {c c' : UD} (h : tyS 1 n c 0) (h' : tyS 1 n c' 0) (he : ∀ j (g : j < (strL c).length) (g' : j < (strL c').length), (strL c)[j]'g = (strL c')[j]'g') : c = c' :=
  strL_inj c c' 0 0 h.2.2.2.2 h'.2.2.2.2 (List.ext_getElem (by rw [strL_len h, strL_len h']) he)
/-- a slice's cells are alike where its rows are -/
theorem rows_ext {k n : Nat} {a b : UD} (ha : a.len = n * k) (hb : b.len = n * k) (h : ∀ i, i < n → rowU a k i = rowU b k i) : a = b := by
  have key : ∀ m, m ≤ n → a.dropN ((n - m) * k) = b.dropN ((n - m) * k) := by
    intro m
    induction m with
    | zero => intro _; rw [Nat.sub_zero, ← ha, UD.dropN_all, ha, ← hb, UD.dropN_all]
    | succ m ih =>
      intro hm
      rw [UD.drop_row a, UD.drop_row b, h _ (by omega), show n - (m + 1) + 1 = n - m by omega, ih (by omega)]
  have := key n (Nat.le_refl _)
  rw [Nat.sub_self, Nat.zero_mul, UD.dropN_zero, UD.dropN_zero] at this
  exact this
theorem tyS.ext {k n t : Nat} {a b : UD} (ha : tyS k n a t) (hb : tyS k n b t) (h : ∀ i, i < n → rowU a k i = rowU b k i) : a = b := rows_ext ha.2.2.2.1 hb.2.2.2.1 h
theorem bool_iff (p : Prop) : ∃ b : Bool, (b = true ↔ p) := by
  by_cases h : p
  · exact ⟨true, by simp [h]⟩
  · exact ⟨false, by simp [h]⟩
/-- what is true at some measure is so at a least one -/
theorem least_of {α : Type} (R : α → Nat → Prop) : ∃ μ : α → Nat, ∀ a m, R a m → R a (μ a) ∧ μ a ≤ m := by
  have one : ∀ a, ∃ k, ∀ m, R a m → R a k ∧ k ≤ m := by
    intro a
    by_cases h : ∃ m, R a m
    · obtain ⟨m, hm⟩ := h
      induction m using Nat.strongRecOn with
      | ind m ih =>
        by_cases h' : ∃ k, k < m ∧ R a k
        · obtain ⟨k, hk, hr⟩ := h'; exact ih k hk hr
        · refine ⟨m, fun q hq => ⟨hm, ?_⟩⟩
          rcases Nat.lt_or_ge q m with hlt | hge
          · exact (h' ⟨q, hlt, hq⟩).elim
          · exact hge
    · exact ⟨0, fun m hm => (h ⟨m, hm⟩).elim⟩
  exact ⟨fun a => Classical.choose (one a), fun a => Classical.choose_spec (one a)⟩
end Go.Proofs.Ytddojjigijfgbaa
/- Data as cells: rows of plain numbers. -/
namespace Go.Proofs.Ytddojjigijfgbaa
open Go.RowKit
set_option linter.unusedVariables false

/-- the numbers of a row of plain numbers -/
def intL : UD → List Int
  | .nil => []
  | .p (.int _ z) r => z :: intL r
  | .p _ r => intL r
  | .l _ _ _ r => intL r
theorem intL_get : ∀ (d : UD) (i : Nat), tyU d (uE 1) i → (intL d).length = d.len ∧ ∀ j (h : j < (intL d).length), d.at? j = some (.p (.int .i64 ((intL d)[j]'h))) ∧ inK .i64 ((intL d)[j]'h)
  | .nil, i, _ => ⟨rfl, fun j h => by cases h⟩
  | .p v r, i, ⟨⟨f, hf, hv⟩, h2⟩ => by
    have hf' : f = .i .i64 := by
      have : (i % (uE 1).length) = 0 := by show i % 1 = 0; omega
      rw [this] at hf
      exact (Option.some.inj hf).symm
    subst hf'
    obtain ⟨z, rfl, hz⟩ := hv
    obtain ⟨h3, h4⟩ := intL_get r (i + 1) h2
    refine ⟨by show (intL r).length + 1 = _; rw [h3, UD.len_p], fun j h => ?_⟩
    cases j with
    | zero => exact ⟨rfl, hz⟩
    | succ j => exact h4 j (by simpa [intL] using h)
  | .l k n cs r, i, ⟨⟨t, hf, _⟩, _⟩ => by
    have : (i % (uE 1).length) = 0 := by show i % 1 = 0; omega
    rw [this] at hf
    cases hf
theorem intL_inj : ∀ (a b : UD) (i j : Nat), tyU a (uE 1) i → tyU b (uE 1) j → intL a = intL b → a = b
  | .nil, .nil, _, _, _, _, _ => rfl
  | .nil, b, i, j, ha, hb, h => by
    have h1 := (intL_get b j hb).1
    rw [← h] at h1
    exact (UD.len_nil h1.symm).symm
  | a, .nil, i, j, ha, hb, h => by
    have h1 := (intL_get a i ha).1
    rw [h] at h1
    exact UD.len_nil h1.symm
  | .p v r, .p v' r', i, j, ha, hb, h => by
    obtain ⟨⟨f, hf, hv⟩, h2⟩ := ha
    obtain ⟨⟨f', hf', hv'⟩, h2'⟩ := hb
    have e1 : f = .i .i64 := by
      have : (i % (uE 1).length) = 0 := by show i % 1 = 0; omega
      rw [this] at hf; exact (Option.some.inj hf).symm
    have e2 : f' = .i .i64 := by
      have : (j % (uE 1).length) = 0 := by show j % 1 = 0; omega
      rw [this] at hf'; exact (Option.some.inj hf').symm
    subst e1 e2
    obtain ⟨s, rfl, _⟩ := hv
    obtain ⟨s', rfl, _⟩ := hv'
    obtain ⟨rfl, h3⟩ := List.cons.inj (show s :: intL r = s' :: intL r' from h)
    rw [intL_inj r r' (i + 1) (j + 1) h2 h2' h3]
  | .l k n cs r, _, i, _, ha, _, _ => by
    obtain ⟨⟨t, hf, _⟩, _⟩ := ha
    have : (i % (uE 1).length) = 0 := by show i % 1 = 0; omega
    rw [this] at hf
    cases hf
  | _, .l k n cs r, _, j, _, hb, _ => by
    obtain ⟨⟨t, hf, _⟩, _⟩ := hb
    have : (j % (uE 1).length) = 0 := by show j % 1 = 0; omega
    rw [this] at hf
    cases hf
theorem intL_len {n : Nat} {c : UD} (h : tyS 1 n c 1) : (intL c).length = n := by rw [(intL_get c 0 h.2.2.2.2).1, h.2.2.2.1, Nat.mul_one]
/-- a row of numbers in memory -/
theorem int_at {w : World} {lo hi n : Nat} {c : UD} {b off cap : Nat} (ht : tyS 1 n c 1) (h : uS w lo hi 1 n c (.slice (some ⟨b, off, none⟩) n cap)) (j : Nat) (hj : j < (intL c).length) : w.cell? ⟨b, off + j, none⟩ = some (.int .i64 ((intL c)[j]'hj)) := by
  have hl := intL_len ht
  obtain ⟨b', off', e, _, hm⟩ := h.cells (by omega)
  cases e
  obtain ⟨c', q1, q2⟩ := hm.get j _ ((intL_get c 0 ht.2.2.2.2).2 j hj).1
  rw [q1, show c' = _ from q2]
theorem int_in {n : Nat} {c : UD} (ht : tyS 1 n c 1) (j : Nat) (hj : j < (intL c).length) : -9223372036854775808 ≤ (intL c)[j]'hj ∧ (intL c)[j]'hj ≤ 9223372036854775807 := ((intL_get c 0 ht.2.2.2.2).2 j hj).2
theorem cntU_int : ∀ (c : UD) (i : Nat), tyU c (uE 1) i → cnt c = c.len
  | .nil, _, _ => rfl
  | .p v r, i, h => by rw [UD.len_p]; show 1 + cnt r = _; rw [cntU_int r (i + 1) h.2]; omega
  | .l k n cs r, i, h => by
    obtain ⟨⟨t, hf, _⟩, _⟩ := h
    have : (i % (uE 1).length) = 0 := by show i % 1 = 0; omega
    rw [this] at hf
    cases hf
theorem cnt_int {n : Nat} {c : UD} (h : tyS 1 n c 1) : cnt c = n := by rw [cntU_int c 0 h.2.2.2.2, h.2.2.2.1, Nat.mul_one]
/-- the cells of a row of numbers -/
def ofInts : List Int → UD
  | [] => .nil
  | z :: r => .p (.int .i64 z) (ofInts r)
theorem intL_of : ∀ l : List Int, intL (ofInts l) = l
  | [] => rfl
  | z :: r => by show z :: intL (ofInts r) = _; rw [intL_of r]
theorem ofInts_len : ∀ l : List Int, (ofInts l).len = l.length
  | [] => rfl
  | z :: r => by show (UD.p _ (ofInts r)).len = _; rw [UD.len_p, ofInts_len r]; rfl
theorem ofInts_ty : ∀ (l : List Int) (i : Nat), (∀ z ∈ l, inK .i64 z) → tyU (ofInts l) (uE 1) i
  | [], _, _ => trivial
  | z :: r, i, h => ⟨⟨.i .i64, by have : (i % (uE 1).length) = 0 := by show i % 1 = 0; omega
                                  rw [this]; rfl, z, rfl, h z (by simp)⟩, ofInts_ty r (i + 1) (fun x hx => h x (by simp [hx]))⟩
theorem ofInts_tyS {l : List Int} (h : ∀ z ∈ l, inK .i64 z) (hl : l.length ≤ maxLen) : tyS 1 l.length (ofInts l) 1 := ⟨by decide, rfl, hl, by rw [ofInts_len, Nat.mul_one], ofInts_ty l 0 h⟩
theorem wt_ofInts : ∀ l : List Int, wt (ofInts l) = 0
  | [] => rfl
  | z :: r => by show wtP _ + wt (ofInts r) = 0; rw [wt_ofInts r]; rfl
theorem cnt_ofInts : ∀ l : List Int, cnt (ofInts l) = l.length
  | [] => rfl
  | z :: r => by show 1 + cnt (ofInts r) = _; rw [cnt_ofInts r, List.length_cons]; omega
theorem ofInts_own {w : World} : ∀ l : List Int, oH w (ofInts l) (l.map (Value.int .i64)) []
  | [] => ⟨rfl, rfl⟩
  | z :: r => ⟨_, rfl, ofInts_own r⟩
theorem Try.infoDInt : (Try.prog.info? 3).map (fun i => (i.zero, i.size, i.bytes)) = some (some (.int .i64 0), 1, 8) := by kernel_rfl
theorem infoD {P : Program} {t : TypeId} {z : Value} {k b : Nat} (h : (P.info? t).map (fun i => (i.zero, i.size, i.bytes)) = some (some z, k, b)) : ∃ i, P.info? t = some i ∧ i.zero = some z ∧ i.size = k ∧ i.bytes = b := by
  cases e : P.info? t with
  | none => rw [e] at h; cases h
  | some i => rw [e] at h; simp at h; exact ⟨i, rfl, h.1, h.2.1, h.2.2⟩
end Go.Proofs.Ytddojjigijfgbaa
/- Rows of numbers that a call builds by append. -/
namespace Go.Proofs.Ytddojjigijfgbaa
open Go.RowKit Go.BigFrame
set_option linter.unusedVariables false
/-- a row of numbers of the call's own, from base on -/
def IR (w : World) (base : Nat) (v : Value) (l : List Int) : Prop := w.ownsRow base 3 1 v l.length (l.map (Value.int .i64)) ∧ ∃ g, v.ownBlock = some g ∧ base ≤ g ∧ g < w.heap.size
theorem IR.frame {w w' : World} {base : Nat} {v : Value} {l : List Int} (h : IR w base v l) (hs : w.heap.size ≤ w'.heap.size) (hf : ∀ g, v.ownBlock = some g → w'.heap[g]? = w.heap[g]?) : IR w' base v l := by
  obtain ⟨h1, g, h2, h3, h4⟩ := h
  refine ⟨uowns_frame h1 (fun x hx => ?_), g, h2, h3, by omega⟩
  unfold blkOf at hx
  rw [h2] at hx
  have : x = g := by simpa using hx
  subst this
  exact hf x h2
theorem IR.below {w w' : World} {base : Nat} {v : Value} {l : List Int} (h : IR w base v l) (hb : Below w.heap.size w w') : IR w' base v l :=
  h.frame hb.size (fun g hg => hb.block g (by obtain ⟨g', h2, h3, h4⟩ := h.2; rw [h2] at hg; cases hg; exact h4))
theorem IR.grown {w w' : World} {base : Nat} {v u : Value} {l : List Int} (h : IR w base v l) (hg : w.grownBy w' u.ownBlock) (hne : v.ownBlock ≠ u.ownBlock) : IR w' base v l :=
  h.frame hg.size (fun g hv => by
    obtain ⟨g', h2, h3, h4⟩ := h.2
    rw [h2] at hv; cases hv
    exact hg.block g h4 (by rw [← h2]; exact hne))
theorem IR.lit (w : World) (base : Nat) (hb : base ≤ w.heap.size) : IR (w.alloc (.cells #[] 3)) base (.slice (some ⟨w.heap.size, 0, none⟩) 0 0) [] :=
  ⟨World.ownsRow_lit w #[] 0 hb (by decide) rfl, w.heap.size, rfl, hb, by simp⟩
theorem IR.snoc {w w' : World} {base : Nat} {v v' : Value} {l : List Int} {x : Int} (h : IR w base v l) (hown : w'.ownsRow base 3 1 v' (l.length + 1) (l.map (Value.int .i64) ++ [.int .i64 x])) (hat : v'.ownBlock = v.ownBlock ∨ v'.ownBlock = some w.heap.size) : IR w' base v' (l ++ [x]) := by
  refine ⟨by rw [List.length_append, List.map_append]; exact hown, ?_⟩
  obtain ⟨g, h2, h3, h4⟩ := h.2
  rcases hat with e | e
  · rw [h2] at e; exact ⟨g, e, uowns_blk hown e⟩
  · exact ⟨_, e, uowns_blk hown e⟩
theorem IR.row {w : World} {base : Nat} {v : Value} {l : List Int} (h : IR w base v l) : ∀ k, v.ownBlock = some k → base ≤ k := fun k e => by
  obtain ⟨g, h2, h3, h4⟩ := h.2
  rw [h2] at e; cases e; exact h3
theorem IR.apart {w : World} {base : Nat} {u v v' : Value} {l : List Int} (hu : IR w base u l) (hne : v.ownBlock ≠ u.ownBlock) (hat : v'.ownBlock = v.ownBlock ∨ v'.ownBlock = some w.heap.size) : v'.ownBlock ≠ u.ownBlock := by
  rcases hat with e | e
  · rw [e]; exact hne
  · obtain ⟨g, h2, h3, h4⟩ := hu.2
    rw [e, h2]
    intro hh; cases hh; omega
/-- numbers in range, not more than so many -/
def goodI (l : List Int) (k : Nat) : Prop := l.length ≤ k ∧ ∀ x ∈ l, -9223372036854775808 ≤ x ∧ x ≤ 9223372036854775807
theorem goodI.snoc {l : List Int} {k : Nat} {x : Int} (h : goodI l k) (hx : -9223372036854775808 ≤ x ∧ x ≤ 9223372036854775807) : goodI (l ++ [x]) (k + 1) :=
  ⟨by rw [List.length_append, List.length_singleton]; have := h.1; omega, fun y hy => by
    rcases List.mem_append.1 hy with hy | hy
    · exact h.2 y hy
    · simp at hy; rw [hy]; exact hx⟩
theorem goodI.mono {l : List Int} {k k' : Nat} (h : goodI l k) (hk : k ≤ k') : goodI l k' := ⟨by have := h.1; omega, h.2⟩
end Go.Proofs.Ytddojjigijfgbaa
/- Drawn numbers; rows of numbers that a call builds by append. -/
namespace Go.Proofs.Ytddojjigijfgbaa
open Go.RowKit Go.BigFrame
set_option linter.unusedVariables false
set_option maxHeartbeats 800000 in
theorem l1Int_in (d n cap : Nat) (a : Option Addr) (zs : List Int) (t : TypeId) (w : World) (hn : n ≤ 1048576) (hl : zs.length ≤ 1048576) (h0 : 0 < zs.length) (hz : ∀ x ∈ zs, -9223372036854775808 ≤ x ∧ x ≤ 9223372036854775807) (hc : CurIn w d a n cap) :
    Calls Try.prog 46 #[.pointer (some ⟨d, 0, none⟩), .slice (some ⟨w.heap.size, 0, none⟩) zs.length zs.length] (w.alloc (.cells (zs.map (Value.int .i64)).toArray t)) fun e w' => ∃ x : Int, (-9223372036854775808 ≤ x ∧ x ≤ 9223372036854775807) ∧ e = .returned (.int .i64 x) ∧ Hid (CurIn w' d a n cap) ∧ Hid (Out d (d + 1) w w') := by
  have Hs : Hid (∀ j (h : j < zs.length), (w.alloc (.cells (zs.map (Value.int .i64)).toArray t)).cell? ⟨w.heap.size, j, none⟩ = some (.int .i64 (zs[j]'h))) := fun j h => by
    refine (World.cell?_alloc_at _ _ _ _ rfl).trans ?_
    simp [h]
  have Hlt := hide hc.lt
  have Hc : Hid (CurIn (w.alloc (.cells (zs.map (Value.int .i64)).toArray t)) d a n cap) := hc.later ((Below.refl _ _).alloc (Nat.le_refl _) _)
  have Hz := hide hz
  have HO : Hid (Out d (d + 1) w (w.alloc (.cells (zs.map (Value.int .i64)).toArray t))) := Out.of_below ((Below.refl _ _).alloc (Nat.le_refl _) _)
  clear hc hz
  generalize hW : w.alloc (.cells (zs.map (Value.int .i64)).toArray t) = W at *
  go_enter Try.func46, Try.ntmps46
  go_wp2_with (go_at_call 33; refine (l1Below_any d n cap zs.length a _ hn hl (by first | exact Hc.out | exact Hc.out.drew)).mono ?_; rintro e w2 ⟨x, hx, rfl, hc2, ho2⟩; have hx' := hx h0; have hv := Hs.out x hx'; have hq := (ho2.cell (p := ⟨w.heap.size, x, none⟩) (World.block_lt_of_cell? _ _ hv) (by have := Hlt.out; show w.heap.size < d ∨ d + 1 ≤ w.heap.size; omega)).trans hv)
  go_wp2
  go_ret
  exact ⟨_, Hz.out _ (List.getElem_mem hx'), rfl, hc2, HO.out.trans ho2⟩
theorem IR.out {w w' : World} {base d : Nat} {v : Value} {l : List Int} (h : IR w base v l) (ho : Out d (d + 1) w w') (hd : d < base) : IR w' base v l :=
  h.frame ho.size (fun g hg => by obtain ⟨g', h2, h3, h4⟩ := h.2; rw [h2] at hg; cases hg; exact ho.block g h4 (by omega))
theorem Out.grownI {lo hi : Nat} {a w w' : World} {row : Option Nat} (h : Out lo hi a w) (hg : w.grownBy w' row) (hr : ∀ k, row = some k → a.heap.size ≤ k) : Out lo hi a w' :=
  ⟨hg.os.trans h.os, hg.tape.trans h.tape, hg.output.trans h.output, Nat.le_trans h.size hg.size, fun k hk hr' => (hg.block k (Nat.lt_of_lt_of_le hk h.size) (fun e => by have := hr k e.symm; omega)).trans (h.block k hk hr')⟩
theorem CurIn.grownI {w w' : World} {row : Option Nat} {d : Nat} {a : Option Addr} {n cap B : Nat} (c : CurIn w d a n cap) (hg : w.grownBy w' row) (hr : ∀ k, row = some k → B ≤ k) (hd : d < B) (hall : ∀ j, j < n → ∀ b off, a = some ⟨b, off, none⟩ → b < B) : CurIn w' d a n cap := by
  have hlt := c.lt
  have hb : ∀ k, k < w.heap.size → k < B → w'.heap[k]? = w.heap[k]? := fun k hk hkB => hg.block k hk (fun e => by have := hr k e.symm; omega)
  obtain ⟨i, h, c⟩ := c
  refine ⟨i, h, c.le, ?_, ?_, ?_, ?_, ?_, ?_⟩
  · exact (World.cell?_of_block (w := w) (a := ⟨d, 0, none⟩) (hb d hlt hd)).trans c.c0
  · exact (World.cell?_of_block (w := w) (a := ⟨d, 1, none⟩) (hb d hlt hd)).trans c.c1
  · exact (World.cell?_of_block (w := w) (a := ⟨d, 2, none⟩) (hb d hlt hd)).trans c.c2
  · exact (World.frozen?_of_block (w := w) (a := ⟨d, 1, none⟩) (hb d hlt hd)).trans c.f1
  · exact (World.frozen?_of_block (w := w) (a := ⟨d, 2, none⟩) (hb d hlt hd)).trans c.f2
  · intro j hj
    obtain ⟨b, off, x, h1, h2, h3, h4⟩ := c.code j hj
    exact ⟨b, off, x, h1, h2, (World.cell?_of_block (w := w) (a := ⟨b, off + j, none⟩) (hb b (World.block_lt_of_cell? _ _ h3) (hall j hj b off h1))).trans h3, h4⟩
theorem CurIn.lt_allI {w : World} {d : Nat} {a : Option Addr} {n cap : Nat} (c : CurIn w d a n cap) : ∀ j, j < n → ∀ b off, a = some ⟨b, off, none⟩ → b < w.heap.size := by
  obtain ⟨i, h, c⟩ := c
  intro j hj b off e
  obtain ⟨b', off', x, h1, h2, h3, h4⟩ := c.code j hj
  rw [h1] at e
  cases e
  exact World.block_lt_of_cell? _ _ h3
end Go.Proofs.Ytddojjigijfgbaa
/- Queues that are drawn and bent: spec.l9Bend. -/
namespace Go.Proofs.Ytddojjigijfgbaa
open Go.RowKit Go.BigFrame
set_option linter.unusedVariables false
set_option linter.unusedSimpArgs false

set_option maxHeartbeats 800000 in
theorem l1Int_atQ (d n cap b : Nat) (a : Option Addr) (zs : List Int) (w : World) (hn : n ≤ 1048576) (hl : zs.length ≤ 1048576) (h0 : 0 < zs.length) (hs : ∀ j (h : j < zs.length), w.cell? ⟨b, j, none⟩ = some (.int .i64 (zs[j]'h))) (hbd : b ≠ d) (hc : CurIn w d a n cap) :
    Calls Try.prog 46 #[.pointer (some ⟨d, 0, none⟩), .slice (some ⟨b, 0, none⟩) zs.length zs.length] w fun e w' => ∃ x : Int, x ∈ zs ∧ e = .returned (.int .i64 x) ∧ Hid (CurIn w' d a n cap) ∧ Out d (d + 1) w w' := by
  have Hs := hide hs
  have Hc := hide hc
  clear hs hc
  go_enter Try.func46, Try.ntmps46
  go_wp2_with (go_at_call 33; refine (l1Below_any d n cap zs.length a _ hn hl (by first | exact Hc.out | exact Hc.out.drew)).mono ?_; rintro e w2 ⟨x, hx, rfl, hc2, ho2⟩; have hx' := hx h0; have hv := Hs.out x hx'; have hq := (ho2.cell (p := ⟨b, x, none⟩) (World.block_lt_of_cell? _ _ hv) (by show b < d ∨ d + 1 ≤ b; omega)).trans hv)
  go_wp2
  go_ret
  exact ⟨_, List.getElem_mem hx', rfl, hc2, ho2⟩
/-- a name that is drawn -/
def zzS : ByteArray := ⟨#[122, 122]⟩
/-- what a bent queue keeps -/
def bentQ (Q Q' : Qu) : Prop := okQ Q' ∧ Q'.I.length ≤ Q.I.length + 1
theorem QB.setNow {w : World} {b base : Nat} {Q : Qu} {vI vD vA : Value} (h : QB w b base Q vI vD vA) (z : Int) : QB (w.setCell ⟨b, 3, none⟩ (.int .i64 z)) b base { Q with now := z } vI vD vA :=
  ⟨h.o.set 3 _, ⟨h.q.i.setCell _ (fun hh => h.ni (by simpa using hh)) _, h.q.d.setCell _ (fun hh => h.nd (by simpa using hh)) _, h.q.a.setCell _ (fun hh => h.na (by simpa using hh)) _, h.q.id, h.q.ia, h.q.da⟩, h.ni, h.nd, h.na⟩
theorem QB.setF {w : World} {b base g k pI : Nat} {Q : Qu} {vD vA : Value} (h : QB w b base Q (.slice (some ⟨g, 0, none⟩) Q.I.length pI) vD vA) (hk : k < Q.I.length) (z : Int) :
    QB (w.setCell ⟨g, k * 3 + 2, none⟩ (.int .i64 z)) b base { Q with I := Q.I.set k ((Q.I[k]).1, (Q.I[k]).2.1, z) } (.slice (some ⟨g, 0, none⟩) Q.I.length pI) vD vA := by
  have hg : g ∈ blkOf (.slice (some ⟨g, 0, none⟩) Q.I.length pI) := by simp [blkOf, Value.ownBlock]
  have hr : (Q.I.map encI)[k]? = some (encI Q.I[k]) := by rw [List.getElem?_map, List.getElem?_eq_getElem hk]; rfl
  have hi := h.q.i.store k 2 (encI Q.I[k]) (.int .i64 z) hr (by decide)
  have he : (Q.I.map encI).set k ((encI Q.I[k]).set 2 (.int .i64 z)) = (Q.I.set k ((Q.I[k]).1, (Q.I[k]).2.1, z)).map encI := by rw [List.map_set]; rfl
  rw [he] at hi
  exact ⟨h.o.other _ (fun e => h.ni (by rw [e]; exact hg)) _, ⟨hi, h.q.d.setCell _ (fun hh => h.q.id g hg hh) _, h.q.a.setCell _ (fun hh => h.q.ia g hg hh) _, h.q.id, h.q.ia, h.q.da⟩, h.ni, h.nd, h.na⟩
theorem okIs_set {I : List It} (h : okIs I) {k : Nat} {x : It} (hx : okI x) : okIs (I.set k x) := ⟨by rw [List.length_set]; exact h.1, fun y hy => by
  rcases List.mem_or_eq_of_mem_set hy with hy | rfl
  · exact h.2 y hy
  · exact hx⟩
/-- what is known throughout a bending: b the box, N + 1 the block of the answer -/
structure BE (w : World) (d n cap : Nat) (a : Option Addr) (wn : World) : Prop where
  cur : CurIn wn d a n cap
  out : Out d (d + 1) w wn
  oz : objU wn (w.heap.size + 1) 27 [.slice none 0 0, .slice none 0 0, .slice none 0 0, .int .i64 0]
  dl : d < w.heap.size
  all : ∀ j, j < n → ∀ b off, a = some ⟨b, off, none⟩ → b < w.heap.size
theorem BE.below {w wn wm : World} {d n cap : Nat} {a : Option Addr} (h : BE w d n cap a wn) (hb : Below wn.heap.size wn wm) : BE w d n cap a wm := ⟨h.cur.later hb, h.out.trans (Out.of_below hb), h.oz.below hb, h.dl, h.all⟩
theorem BE.outd {w wn wm : World} {d n cap : Nat} {a : Option Addr} (h : BE w d n cap a wn) (ho : Out d (d + 1) wn wm) (hc : CurIn wm d a n cap) : BE w d n cap a wm := ⟨hc, h.out.trans ho, h.oz.outS (outS_of_out ho) (by have := h.dl; simp; omega), h.dl, h.all⟩
theorem BE.outS {w wn wm : World} {d n cap : Nat} {a : Option Addr} {T : List Nat} (h : BE w d n cap a wn) (ho : OutS T wn wm) (hT : ∀ t ∈ T, w.heap.size + 2 ≤ t) : BE w d n cap a wm := ⟨h.cur.far ho (B := w.heap.size) h.dl h.all (fun t ht => by have := hT t ht; omega), h.out.outS ho (fun t ht => by have := hT t ht; omega), h.oz.outS ho (fun hh => by have := hT _ hh; omega), h.dl, h.all⟩
def drawnQ (Q : Qu) (w : World) (d n cap : Nat) (a : Option Addr) (e : Ending) (w' : World) : Prop := ∃ (Q' : Qu) (vI vD vA : Value), e = .returned (.agg #[vI, vD, vA, .int .i64 Q'.now]) ∧ Hid (bentQ Q Q') ∧ Hid (ownQ w' w.heap.size Q' vI vD vA) ∧ Hid (CurIn w' d a n cap) ∧ Out d (d + 1) w w'
/-- case 2: an item once more -/
def F2 (w0 : World) (b base : Nat) (Q : Qu) (x : It) (g : Nat) (vI vD vA : Value) : Nat → (Nat → Nat) → Value → World → Prop
  | 0, γ, v, w => v = .pointer (some ⟨b, 0, none⟩)
  | 1, γ, v, w => v = vI
  | 2, γ, v, w => v = .pointer (some ⟨b, 0, none⟩)
  | 3, γ, v, w => v = vI
  | 4, γ, v, w => v = .pointer (some ⟨g, 0, none⟩)
  | 5, γ, v, w => v = .agg #[.string x.1, .int .i64 x.2.1, .int .i64 x.2.2]
  | 6, γ, v, w => ∃ g t, v = .slice (some ⟨g, 0, none⟩) 1 1 ∧ objU w g t (encI x) ∧ g ≠ b
  | 7, γ, v, w => ownR w base 36 3 v ((Q.I ++ [x]).map encI) ∧ b ∉ blkOf v ∧ (∀ g ∈ blkOf v, g ∉ blkOf vD) ∧ ∀ g ∈ blkOf v, g ∉ blkOf vA
  | 8, γ, v, w => v = .pointer (some ⟨b, 0, none⟩)
  | 9, γ, v, w => ∃ vI', QB w b base { Q with I := Q.I ++ [x] } vI' vD vA
  | _, _, _, _ => False
structure G2 (w w0 : World) (d n cap : Nat) (a : Option Addr) (b base : Nat) (Q : Qu) (vI vD vA : Value) (c : Bool) (wn : World) : Prop where
  be : BE w d n cap a wn
  q : c = false → QB wn b base Q vI vD vA
  bx : ∃ u, objU wn b 27 [u, vD, vA, .int .i64 Q.now]
  d9 : ownR wn base 36 3 vD (Q.D.map encI)
  a9 : ownR wn base 9 1 vA (Q.A.map encS)
theorem G2.below {w w0 wn wm : World} {d n cap : Nat} {a : Option Addr} {b base : Nat} {Q : Qu} {vI vD vA : Value} {c : Bool} (h : G2 w w0 d n cap a b base Q vI vD vA c wn) (hb : Below wn.heap.size wn wm) : G2 w w0 d n cap a b base Q vI vD vA c wm :=
  ⟨h.be.below hb, fun e => (h.q e).below hb, by obtain ⟨u, hu⟩ := h.bx; exact ⟨u, hu.below hb⟩, h.d9.below hb, h.a9.below hb⟩
/-- case 3: an item's fails -/
def F3 (w0 : World) (d b base : Nat) (Q : Qu) (g : Nat) (h0 : 0 < Q.I.length) (vI vD vA : Value) : Nat → (Nat → Nat) → Value → World → Prop
  | 0, γ, v, w => v = .pointer (some ⟨b, 0, none⟩)
  | 1, γ, v, w => v = vI
  | 2, γ, v, w => v = .pointer (some ⟨d, 0, none⟩)
  | 3, γ, v, w => ∃ g4, v = .slice (some ⟨g4, 0, none⟩) 4 4 ∧ objU w g4 3 [.int .i64 (-1), .int .i64 7, .int .i64 1000, .int .i64 1001] ∧ g4 ≠ d ∧ g4 ≠ g
  | 4, γ, v, w => ∃ x : Int, inK .i64 x ∧ v = .int .i64 x
  | 5, γ, v, w => v = .pointer (some ⟨g, 0, none⟩)
  | 6, γ, v, w => v = .pointer (some ⟨g, 2, none⟩)
  | 7, γ, v, w => ∃ x : Int, inK .i64 x ∧ QB w b base { Q with I := Q.I.set 0 ((Q.I[0]'h0).1, (Q.I[0]'h0).2.1, x) } vI vD vA
  | _, _, _, _ => False
structure G3 (w w0 : World) (d n cap : Nat) (a : Option Addr) (b base : Nat) (Q : Qu) (vI vD vA : Value) (c : Bool) (wn : World) : Prop where
  be : BE w d n cap a wn
  q : c = false → QB wn b base Q vI vD vA
set_option maxRecDepth 20000 in
set_option maxHeartbeats 3200000 in
theorem l9Bend_any (d n cap : Nat) (a : Option Addr) (Q : Qu) (xs : List Value) (w : World) (hn : n ≤ 1048576) (hq : okQ Q) (hl : Q.I.length ≤ 1000) (hla : Q.A.length ≤ 1000) (hx : rdQ w Q xs) (hc : CurIn w d a n cap) :
    Calls Try.prog 32 #[.pointer (some ⟨d, 0, none⟩), .agg xs.toArray] w (drawnQ Q w d n cap a) := by
  have HX0 := hide hx
  obtain ⟨cI, cD, cA, rfl, hI, hD, hA⟩ := hx
  obtain ⟨aI, pI, rfl, -, -⟩ := hI.itS
  obtain ⟨aD, pD, rfl, -, -⟩ := hD.itS
  obtain ⟨aA, pA, rfl, -, -⟩ := hA.stS
  have Hd := hide hc.lt
  have HCL := hide hc.codeLt
  have HQK := hide hq
  have HLL : Hid (Q.I.length ≤ 1000 ∧ Q.A.length ≤ 1000) := ⟨hl, hla⟩
  have B01 : Hid (Below w.heap.size w ((w.alloc (.cells #[.slice aI Q.I.length pI, .slice aD Q.D.length pD, .slice aA Q.A.length pA, .int .i64 Q.now] 27)).alloc (.cells #[.slice none 0 0, .slice none 0 0, .slice none 0 0, .int .i64 0] 27))) := (below_alloc _ _).alloc (by simp) _
  have OB1 : Hid (objU ((w.alloc (.cells #[.slice aI Q.I.length pI, .slice aD Q.D.length pD, .slice aA Q.A.length pA, .int .i64 Q.now] 27)).alloc (.cells #[.slice none 0 0, .slice none 0 0, .slice none 0 0, .int .i64 0] 27)) w.heap.size 27 [.slice aI Q.I.length pI, .slice aD Q.D.length pD, .slice aA Q.A.length pA, .int .i64 Q.now]) := (objU.new _ _ _).old _
  have E1 : Hid (BE w d n cap a ((w.alloc (.cells #[.slice aI Q.I.length pI, .slice aD Q.D.length pD, .slice aA Q.A.length pA, .int .i64 Q.now] 27)).alloc (.cells #[.slice none 0 0, .slice none 0 0, .slice none 0 0, .int .i64 0] 27))) := ⟨hc.later B01.out, Out.of_below B01.out, objU.new2 _ _ (by simp), Hd.out, HCL.out⟩
  have HCp := hide (l9Copy_N Q _ _ hq (HX0.out.below B01.out))
  have x0 := OB1.out.cell 0 _ rfl
  have x1 := OB1.out.cell 1 _ rfl
  have x2 := OB1.out.cell 2 _ rfl
  have x3 := OB1.out.cell 3 _ rfl
  clear hc hq hl hla hI hD hA HX0
  go_enter Try.func32, Try.ntmps32
  go_wp2_with fail
  refine HCp.out.mono ?_
  rintro e w2 ⟨vI, vD, vA, rfl, hO2, hb2⟩
  have E2 := hide (E1.out.below hb2)
  have hs2 : Hid (w.heap.size + 2 ≤ w2.heap.size) := by have := hb2.size; simp at this; exact (show w.heap.size + 2 ≤ w2.heap.size by omega)
  obtain ⟨e1, f1, rfl⟩ := hO2.i.itS
  obtain ⟨e2, f2, rfl⟩ := hO2.d.itS
  obtain ⟨e3, f3, rfl⟩ := hO2.a.stS
  have hO2' := hO2.mono (show w.heap.size + 2 ≤ _ by simp)
  have HQ2 : Hid (QB (w2.alloc (.cells #[.slice e1 Q.I.length f1, .slice e2 Q.D.length f2, .slice e3 Q.A.length f3, .int .i64 Q.now] 27)) w2.heap.size (w.heap.size + 2) Q (.slice e1 Q.I.length f1) (.slice e2 Q.D.length f2) (.slice e3 Q.A.length f3)) := ⟨objU.new _ _ _, hO2'.below (below_alloc _ _), fun hh => by have := (hO2'.i.lt _ hh).2; omega, fun hh => by have := (hO2'.d.lt _ hh).2; omega, fun hh => by have := (hO2'.a.lt _ hh).2; omega⟩
  have E2b := hide (E2.out.below (below_alloc w2 (.cells #[.slice e1 Q.I.length f1, .slice e2 Q.D.length f2, .slice e3 Q.A.length f3, .int .i64 Q.now] 27)))
  clear hO2 hO2' hb2 E1 E2 HCp OB1 B01 x0 x1 x2 x3
  go_wp2_with fail
  refine (l1Below_any d n cap 7 a _ hn (by decide) E2b.out.cur).mono ?_
  rintro e w3 ⟨x, hx, rfl, HC3, ho3⟩
  have hx7 := hx (by decide)
  have E3 := hide (E2b.out.outd ho3 HC3.out)
  have HQ3 := hide (HQ2.out.curs ho3 (by have := Hd.out; have := hs2.out; omega) (by have := Hd.out; omega))
  clear hx ho3 HC3 E2b HQ2
  have hb3 : w2.heap.size < w3.heap.size := HQ3.out.lt
  rcases (show x = 0 ∨ x = 1 ∨ x = 2 ∨ x = 3 ∨ x = 4 ∨ x = 5 ∨ x = 6 by omega) with rfl | rfl | rfl | rfl | rfl | rfl | rfl
  · have HI : Hid (∀ wx, wx = w3.alloc (.cells #[.int .i64 (-1), .int .i64 1000000, .int .i64 1000001] 3) → Calls Try.prog 46 #[.pointer (some ⟨d, 0, none⟩), .slice (some ⟨w3.heap.size, 0, none⟩) 3 3] wx fun e w' => ∃ x : Int, x ∈ [-1, 1000000, 1000001] ∧ e = .returned (.int .i64 x) ∧ Hid (CurIn w' d a n cap) ∧ Hid (Out d (d + 1) wx w')) := fun wx e => by
      subst e
      refine (l1Int_atQ d n cap w3.heap.size a [-1, 1000000, 1000001] _ hn (by decide) (by decide) (fun j hj => ?_) (by have := E3.out.cur.lt; omega) (E3.out.cur.later (below_alloc _ _))).mono (fun e w' ⟨x, h1, h2, h3, h4⟩ => ⟨x, h1, h2, h3, h4⟩)
      have hj8 : j < 3 := hj
      rcases (show j = 0 ∨ j = 1 ∨ j = 2 by omega) with rfl | rfl | rfl <;> exact (World.cell?_alloc_at _ _ _ _ rfl).trans rfl
    go_wp2_with fail
    refine (HI.out _ rfl).mono ?_
    rintro e w4 ⟨y, hy, rfl, HC4, ho4⟩
    have hyk : inK .i64 y := by simp at hy; unfold inK; omega
    have E4 := hide ((E3.out.below (below_alloc _ _)).outd ho4.out HC4.out)
    have HQ4 := hide ((HQ3.out.below (below_alloc _ _)).curs ho4.out (by have := Hd.out; have := hs2.out; omega) (by have := Hd.out; omega))
    have HQ9 := hide (HQ4.out.setNow y)
    have hos5 : OutS [w2.heap.size] w4 (w4.setCell ⟨w2.heap.size, 3, none⟩ (.int .i64 y)) := (OutS.refl _ _).setCell (p := ⟨w2.heap.size, 3, none⟩) (by simp) _
    have E9 := hide (E4.out.outS hos5 (by have := hs2.out; simp; omega))
    have v3 := HQ4.out.o.cell 3 _ rfl
    have g3 := HQ4.out.o.fz 3
    have hb4 : w2.heap.size < w4.heap.size := HQ4.out.lt
    clear HQ3 E3 E4 HQ4 HC4 ho4 HI hy hos5
    have HBT : Hid (bentQ Q ({ Q with now := y })) := ⟨⟨HQK.out.1, HQK.out.2.1, HQK.out.2.2.1, hyk⟩, Nat.le_succ _⟩
    have u0 := HQ9.out.o.cell 0 _ rfl
    have u1 := HQ9.out.o.cell 1 _ rfl
    have u2 := HQ9.out.o.cell 2 _ rfl
    have u3 := HQ9.out.o.cell 3 _ rfl
    have y0 := E9.out.oz.cell 0 _ rfl
    have y1 := E9.out.oz.cell 1 _ rfl
    have y2 := E9.out.oz.cell 2 _ rfl
    have y3 := E9.out.oz.cell 3 _ rfl
    have z0 := E9.out.oz.fz 0
    have z1 := E9.out.oz.fz 1
    have z2 := E9.out.oz.fz 2
    have z3 := E9.out.oz.fz 3
    have HO6 : Hid (ownQ (stQ (w4.setCell ⟨w2.heap.size, 3, none⟩ (.int .i64 y)) (w.heap.size + 1) (.slice e1 ({ Q with now := y }).I.length f1) (.slice e2 ({ Q with now := y }).D.length f2) (.slice e3 ({ Q with now := y }).A.length f3) ({ Q with now := y }).now) w.heap.size ({ Q with now := y }) (.slice e1 ({ Q with now := y }).I.length f1) (.slice e2 ({ Q with now := y }).D.length f2) (.slice e3 ({ Q with now := y }).A.length f3)) := (HQ9.out.q.outS (stQ_out _ (w.heap.size + 1) _ _ _ _) (by simp)).mono (by omega)
    have C6 : Hid (CurIn (stQ (w4.setCell ⟨w2.heap.size, 3, none⟩ (.int .i64 y)) (w.heap.size + 1) (.slice e1 ({ Q with now := y }).I.length f1) (.slice e2 ({ Q with now := y }).D.length f2) (.slice e3 ({ Q with now := y }).A.length f3) ({ Q with now := y }).now) d a n cap) := E9.out.cur.far (stQ_out _ (w.heap.size + 1) _ _ _ _) (B := w.heap.size) Hd.out HCL.out (by simp)
    have O6 : Hid (Out d (d + 1) w (stQ (w4.setCell ⟨w2.heap.size, 3, none⟩ (.int .i64 y)) (w.heap.size + 1) (.slice e1 ({ Q with now := y }).I.length f1) (.slice e2 ({ Q with now := y }).D.length f2) (.slice e3 ({ Q with now := y }).A.length f3) ({ Q with now := y }).now)) := E9.out.out.outS (stQ_out _ (w.heap.size + 1) _ _ _ _) (by simp)
    clear HQ9 E9
    go_wp2
    refine bodyPost_ret (v := .agg #[.slice e1 ({ Q with now := y }).I.length f1, .slice e2 ({ Q with now := y }).D.length f2, .slice e3 ({ Q with now := y }).A.length f3, .int .i64 ({ Q with now := y }).now]) ?_ rfl ⟨{ Q with now := y }, _, _, _, rfl, HBT, HO6, C6, O6.out⟩
    simp [results, Try.results32, go_sem, y0, y1, y2, y3]
  · have HES := hide elS
    have H2 : Hid (QB (w3.alloc (.cells #[.string zzS] 9)) w2.heap.size (w.heap.size + 2) Q (.slice e1 Q.I.length f1) (.slice e2 Q.D.length f2) (.slice e3 Q.A.length f3)) := HQ3.out.below (below_alloc _ _)
    have E4 := hide (E3.out.below (below_alloc w3 (.cells #[.string zzS] 9)))
    have O2 : Hid (objU (w3.alloc (.cells #[.string zzS] 9)) w3.heap.size 9 (encS zzS)) := objU.new _ _ _
    have v2 := HQ3.out.o.cell 2 _ rfl
    go_wp2_with (at_builtin; refine wpList_append_rd rfl _ _ 25 rfl 9 1 HES.out (by decide) (w.heap.size + 2) _ _ rfl H2.out.q.a _ _ rfl (rdR.one O2.out) (rowsS [zzS]) (oneS [zzS]) (by have := HLL.out; simp; omega) (by have := hs2.out; simp; omega) ?_)
    intro v4 w4 ho4 hg4 ha4
    rw [show (Q.A.map encS) ++ [encS zzS] = (Q.A ++ [zzS]).map encS by simp] at ho4
    obtain ⟨QX, HBT, HQ9⟩ : ∃ QX : Qu, Hid (bentQ Q QX) ∧ Hid (QB (w4.setCell ⟨w2.heap.size, 2, none⟩ v4) w2.heap.size (w.heap.size + 2) QX (.slice e1 Q.I.length f1) (.slice e2 Q.D.length f2) v4) := ⟨{ Q with A := Q.A ++ [zzS] }, ⟨⟨HQK.out.1, HQK.out.2.1, ⟨by have := HLL.out.2; simp; omega, fun t ht => by
      rcases List.mem_append.1 ht with ht | ht
      · exact HQK.out.2.2.1.2 t ht
      · rw [List.mem_singleton.1 ht]; exact Nat.le_trans (show ByteArray.size zzS ≤ 2 by decide) (by unfold maxLen; omega)⟩, HQK.out.2.2.2⟩, Nat.le_succ _⟩, H2.out.appA ho4 hg4 (by simpa using ha4)⟩
    have hos5 : OutS [w2.heap.size] w4 (w4.setCell ⟨w2.heap.size, 2, none⟩ v4) := (OutS.refl _ _).setCell (p := ⟨w2.heap.size, 2, none⟩) (by simp) _
    have E9 : Hid (BE w d n cap a (w4.setCell ⟨w2.heap.size, 2, none⟩ v4)) := (E4.out.outS (grown_outS hg4) (fun t ht => (H2.out.q.a.lt t ht).1)).outS hos5 (by have := hs2.out; simp; omega)
    have t2 := (H2.out.o.outS (grown_outS hg4) H2.out.na).cell 2 _ rfl
    have g2 := (H2.out.o.outS (grown_outS hg4) H2.out.na).fz 2
    obtain ⟨a4, p4, e4⟩ := HQ9.out.q.a.stS
    subst e4
    clear ho4 hg4 ha4 HQ3 E3 E4 H2 O2 v2 hos5
    have u0 := HQ9.out.o.cell 0 _ rfl
    have u1 := HQ9.out.o.cell 1 _ rfl
    have u2 := HQ9.out.o.cell 2 _ rfl
    have u3 := HQ9.out.o.cell 3 _ rfl
    have y0 := E9.out.oz.cell 0 _ rfl
    have y1 := E9.out.oz.cell 1 _ rfl
    have y2 := E9.out.oz.cell 2 _ rfl
    have y3 := E9.out.oz.cell 3 _ rfl
    have z0 := E9.out.oz.fz 0
    have z1 := E9.out.oz.fz 1
    have z2 := E9.out.oz.fz 2
    have z3 := E9.out.oz.fz 3
    have HO6 : Hid (ownQ (stQ (w4.setCell ⟨w2.heap.size, 2, none⟩ (.slice a4 QX.A.length p4)) (w.heap.size + 1) (.slice e1 (Q).I.length f1) (.slice e2 (Q).D.length f2) (.slice a4 (QX).A.length p4) (QX).now) w.heap.size (QX) (.slice e1 (Q).I.length f1) (.slice e2 (Q).D.length f2) (.slice a4 (QX).A.length p4)) := (HQ9.out.q.outS (stQ_out _ (w.heap.size + 1) _ _ _ _) (by simp)).mono (by omega)
    have C6 : Hid (CurIn (stQ (w4.setCell ⟨w2.heap.size, 2, none⟩ (.slice a4 QX.A.length p4)) (w.heap.size + 1) (.slice e1 (Q).I.length f1) (.slice e2 (Q).D.length f2) (.slice a4 (QX).A.length p4) (QX).now) d a n cap) := E9.out.cur.far (stQ_out _ (w.heap.size + 1) _ _ _ _) (B := w.heap.size) Hd.out HCL.out (by simp)
    have O6 : Hid (Out d (d + 1) w (stQ (w4.setCell ⟨w2.heap.size, 2, none⟩ (.slice a4 QX.A.length p4)) (w.heap.size + 1) (.slice e1 (Q).I.length f1) (.slice e2 (Q).D.length f2) (.slice a4 (QX).A.length p4) (QX).now)) := E9.out.out.outS (stQ_out _ (w.heap.size + 1) _ _ _ _) (by simp)
    clear HQ9 E9
    go_wp2
    refine bodyPost_ret (v := .agg #[.slice e1 (Q).I.length f1, .slice e2 (Q).D.length f2, .slice a4 (QX).A.length p4, .int .i64 (QX).now]) ?_ rfl ⟨QX, _, _, _, rfl, HBT, HO6, C6, O6.out⟩
    simp [results, Try.results32, go_sem, y0, y1, y2, y3]
  · have v0 := HQ3.out.o.cell 0 _ rfl
    by_cases hI0 : Q.I.length = 0
    · have hI0' : ¬ (0 : Int) < (Q.I.length : Int) := by omega
      clear hI0
      have HQ9 := HQ3
      have E9 := E3
      clear HQ3 E3
      have HBT : Hid (bentQ Q (Q)) := ⟨HQK.out, Nat.le_succ _⟩
      have u0 := HQ9.out.o.cell 0 _ rfl
      have u1 := HQ9.out.o.cell 1 _ rfl
      have u2 := HQ9.out.o.cell 2 _ rfl
      have u3 := HQ9.out.o.cell 3 _ rfl
      have y0 := E9.out.oz.cell 0 _ rfl
      have y1 := E9.out.oz.cell 1 _ rfl
      have y2 := E9.out.oz.cell 2 _ rfl
      have y3 := E9.out.oz.cell 3 _ rfl
      have z0 := E9.out.oz.fz 0
      have z1 := E9.out.oz.fz 1
      have z2 := E9.out.oz.fz 2
      have z3 := E9.out.oz.fz 3
      have HO6 : Hid (ownQ (stQ w3 (w.heap.size + 1) (.slice e1 (Q).I.length f1) (.slice e2 (Q).D.length f2) (.slice e3 (Q).A.length f3) (Q).now) w.heap.size (Q) (.slice e1 (Q).I.length f1) (.slice e2 (Q).D.length f2) (.slice e3 (Q).A.length f3)) := (HQ9.out.q.outS (stQ_out _ (w.heap.size + 1) _ _ _ _) (by simp)).mono (by omega)
      have C6 : Hid (CurIn (stQ w3 (w.heap.size + 1) (.slice e1 (Q).I.length f1) (.slice e2 (Q).D.length f2) (.slice e3 (Q).A.length f3) (Q).now) d a n cap) := E9.out.cur.far (stQ_out _ (w.heap.size + 1) _ _ _ _) (B := w.heap.size) Hd.out HCL.out (by simp)
      have O6 : Hid (Out d (d + 1) w (stQ w3 (w.heap.size + 1) (.slice e1 (Q).I.length f1) (.slice e2 (Q).D.length f2) (.slice e3 (Q).A.length f3) (Q).now)) := E9.out.out.outS (stQ_out _ (w.heap.size + 1) _ _ _ _) (by simp)
      clear HQ9 E9
      go_wp2
      refine bodyPost_ret (v := .agg #[.slice e1 (Q).I.length f1, .slice e2 (Q).D.length f2, .slice e3 (Q).A.length f3, .int .i64 (Q).now]) ?_ rfl ⟨Q, _, _, _, rfl, HBT, HO6, C6, O6.out⟩
      simp [results, Try.results32, go_sem, y0, y1, y2, y3]
    · have h0 : 0 < Q.I.length := by omega
      have hI0' : (0 : Int) < (Q.I.length : Int) := by omega
      obtain ⟨g, cp, eg, hgb, hgl, -, hgk, -⟩ := HQ3.out.q.i.opened (by simpa using h0)
      injection eg with ea el ec
      subst ea
      subst ec
      clear el hI0
      go_wp2
      refine wp_region_inv2 (fun i => if i = 7 then OutS (blkOf (.slice (some ⟨g, 0, none⟩) Q.I.length f1)) else if i = 9 then OutS [w2.heap.size] else fun u v => Below u.heap.size u v) (fun j => if j = 6 then some 7 else none) 7 (by decide) (G2 w w3 d n cap a w2.heap.size (w.heap.size + 2) Q (.slice (some ⟨g, 0, none⟩) Q.I.length f1) (.slice e2 Q.D.length f2) (.slice e3 Q.A.length f3)) (F2 w3 w2.heap.size (w.heap.size + 2) Q (Q.I[0]'h0) g (.slice (some ⟨g, 0, none⟩) Q.I.length f1) (.slice e2 Q.D.length f2) (.slice e3 Q.A.length f3)) (by kernel_rfl) (by kernel_rfl) (by kernel_rfl) ?hF2 ?hU2 ?hG2 ?hstep2 ?hend2
      case hF2 =>
        intro i j γ γ' v wa wb hij hsp hnd hsd h hfr
        have ho := hfr.out
        match j, h with
        | 0, h => exact h
        | 1, h => exact h
        | 2, h => exact h
        | 3, h => exact h
        | 4, h => exact h
        | 5, h => exact h
        | 6, ⟨g9, t, h1, h2, h3⟩ =>
          rw [if_neg (fun e => hsp (by simp [e]))] at ho
          by_cases e9 : i = 9
          · rw [if_pos e9] at ho
            exact ⟨g9, t, h1, h2.outS ho (by simpa using h3), h3⟩
          · rw [if_neg e9] at ho
            exact ⟨g9, t, h1, h2.below ho, h3⟩
        | 7, ⟨h1, h2⟩ =>
          rw [if_neg hij] at ho
          by_cases e9 : i = 9
          · rw [if_pos e9] at ho
            exact ⟨h1.frame (fun g hg => ho.block g (h1.lt g hg).2 (fun hh => h2.1 (by simp at hh; exact hh ▸ hg))), h2⟩
          · rw [if_neg e9] at ho
            exact ⟨h1.below ho, h2⟩
        | 8, h => exact h
        | 9, ⟨v', h⟩ =>
          by_cases e7 : i = 7
          · subst e7; cases (hnd.symm.trans (by kernel_rfl) : false = true)
          · rw [if_neg e7, if_neg hij] at ho
            exact ⟨v', h.below ho⟩
        | j + 10, h => exact h.elim
      case hU2 =>
        intro i o hi hd γ v wa h
        match i, hi with
        | 0, hi => (injection hi with hi; subst hi; cases hd)
        | 1, hi => (injection hi with hi; subst hi; cases hd)
        | 2, hi => (injection hi with hi; subst hi; cases hd)
        | 3, hi => (injection hi with hi; subst hi; cases hd)
        | 4, hi => (injection hi with hi; subst hi; cases hd)
        | 5, hi => (injection hi with hi; subst hi; cases hd)
        | 6, hi => (injection hi with hi; subst hi; cases hd)
        | 7, hi => (injection hi with hi; subst hi; cases hd)
        | 8, hi => (injection hi with hi; subst hi; cases hd)
        | 9, hi => exact h
        | i + 10, hi => cases hi
      case hG2 => exact ⟨E3.out.below (Below.drew (Below.refl _ _)), fun _ => HQ3.out.below (Below.drew (Below.refl _ _)), ⟨_, HQ3.out.o.below (Below.drew (Below.refl _ _))⟩, HQ3.out.q.d.below (Below.drew (Below.refl _ _)), HQ3.out.q.a.below (Below.drew (Below.refl _ _))⟩
      case hstep2 =>
        intro i o hi
        match i, hi with
        | 0, hi =>
          injection hi with hi; subst hi
          intro c a9 wn γ hc0 hc1 hG hK hD K hk
          have he1 := hK.at 5 (by kernel_rfl)
          refine wp_pure (.pointer (some ⟨w2.heap.size, 0, none⟩)) ?_ (hk _ _ γ (by rw [if_neg (by decide)]; exact hG) ⟨Below.refl _ _, fun _ _ => rfl⟩ rfl)
          simp [execOp, Act.eval, he1, go_sem]
        | 1, hi =>
          injection hi with hi; subst hi
          intro c a9 wn γ hc0 hc1 hG hK hD K hk
          have d0 := hD 0 (by decide) (by kernel_rfl) (.inl rfl)
          change a9.tmps.getD 29 undef = .pointer (some ⟨w2.heap.size, 0, none⟩) at d0
          have x0 := (hG.q (hc0 (.inl (by kernel_rfl)))).o.cell 0 _ rfl
          refine wp_pure (.slice (some ⟨g, 0, none⟩) Q.I.length f1) ?_ (hk _ _ γ (by rw [if_neg (by decide)]; exact hG) ⟨Below.refl _ _, fun _ _ => rfl⟩ rfl)
          simp [execOp, Act.eval, d0, x0, go_sem]
        | 2, hi =>
          injection hi with hi; subst hi
          intro c a9 wn γ hc0 hc1 hG hK hD K hk
          have he1 := hK.at 5 (by kernel_rfl)
          refine wp_pure (.pointer (some ⟨w2.heap.size, 0, none⟩)) ?_ (hk _ _ γ (by rw [if_neg (by decide)]; exact hG) ⟨Below.refl _ _, fun _ _ => rfl⟩ rfl)
          simp [execOp, Act.eval, he1, go_sem]
        | 3, hi =>
          injection hi with hi; subst hi
          intro c a9 wn γ hc0 hc1 hG hK hD K hk
          have d0 := hD 0 (by decide) (by kernel_rfl) (.inl rfl)
          change a9.tmps.getD 31 undef = .pointer (some ⟨w2.heap.size, 0, none⟩) at d0
          have x0 := (hG.q (hc0 (.inl (by kernel_rfl)))).o.cell 0 _ rfl
          refine wp_pure (.slice (some ⟨g, 0, none⟩) Q.I.length f1) ?_ (hk _ _ γ (by rw [if_neg (by decide)]; exact hG) ⟨Below.refl _ _, fun _ _ => rfl⟩ rfl)
          simp [execOp, Act.eval, d0, x0, go_sem]
        | 4, hi =>
          injection hi with hi; subst hi
          intro c a9 wn γ hc0 hc1 hG hK hD K hk
          have d0 := hD 0 (by decide) (by kernel_rfl) (.inl rfl)
          change a9.tmps.getD 32 undef = .slice (some ⟨g, 0, none⟩) Q.I.length f1 at d0
          rw [Array.getD_eq_getD_getElem?] at d0
          refine wp_pure (.pointer (some ⟨g, 0, none⟩)) ?_ (hk _ _ γ (by rw [if_neg (by decide)]; exact hG) ⟨Below.refl _ _, fun _ _ => rfl⟩ rfl)
          simp [execOp, Act.eval, d0, h0, go_sem]
        | 5, hi =>
          injection hi with hi; subst hi
          intro c a9 wn γ hc0 hc1 hG hK hD K hk
          have d0 := hD 0 (by decide) (by kernel_rfl) (.inl rfl)
          change a9.tmps.getD 33 undef = .pointer (some ⟨g, 0, none⟩) at d0
          obtain ⟨g', o', e6, -, c6, c7, c8⟩ := ((hG.q (hc0 (.inl (by kernel_rfl)))).q.i.rd (by decide)).itAt h0
          cases e6
          rw [Nat.zero_mul, Nat.add_zero] at c6 c7 c8
          refine wp_pure (.agg #[.string (Q.I[0]'h0).1, .int .i64 (Q.I[0]'h0).2.1, .int .i64 (Q.I[0]'h0).2.2]) ?_ (hk _ _ γ (by rw [if_neg (by decide)]; exact hG) ⟨Below.refl _ _, fun _ _ => rfl⟩ rfl)
          simp [execOp, Act.eval, d0, c6, c7, c8, go_sem]
        | 6, hi =>
          injection hi with hi; subst hi
          intro c a9 wn γ hc0 hc1 hG hK hD K hk
          have d0 := hD 0 (by decide) (by kernel_rfl) (.inl rfl)
          change a9.tmps.getD 34 undef = .agg #[.string (Q.I[0]'h0).1, .int .i64 (Q.I[0]'h0).2.1, .int .i64 (Q.I[0]'h0).2.2] at d0
          refine wp_val (w' := wn.alloc (.cells #[.string (Q.I[0]'h0).1, .int .i64 (Q.I[0]'h0).2.1, .int .i64 (Q.I[0]'h0).2.2] 36)) (.slice (some ⟨wn.heap.size, 0, none⟩) 1 1) ?_ (hk _ _ γ (by rw [if_neg (by decide)]; exact hG.below (below_alloc _ _)) ⟨below_alloc _ _, fun _ _ => rfl⟩ ⟨_, _, rfl, objU.new _ _ _, by obtain ⟨u, hu⟩ := hG.bx; have := hu.lt; omega⟩)
          rw [Array.getD_eq_getD_getElem?] at d0
          simp [execOp, Act.eval, d0, go_sem]
        | 7, hi =>
          injection hi with hi; subst hi
          intro c a9 wn γ hc0 hc1 hG hK hD K hk
          have d0 := hD 0 (by decide) (by kernel_rfl) (.inl rfl)
          change a9.tmps.getD 30 undef = .slice (some ⟨g, 0, none⟩) Q.I.length f1 at d0
          have d1 := hD 1 (by decide) (by kernel_rfl) (.inr (.inl rfl))
          change ∃ g9 t, a9.tmps.getD 35 undef = .slice (some ⟨g9, 0, none⟩) 1 1 ∧ objU wn g9 t (encI (Q.I[0]'h0)) ∧ g9 ≠ w2.heap.size at d1
          obtain ⟨g9, t, g1, g2, g3⟩ := d1
          have hc := hc0 (.inr rfl)
          subst hc
          have hq1 := hG.q rfl
          obtain ⟨v', w', r1, r2, r3, r4⟩ := run_append_rd elI (by decide) 24 (w.heap.size + 2) _ _ hq1.q.i _ _ (rdR.one g2) (rowsI [(Q.I[0]'h0)]) (oneI [(Q.I[0]'h0)]) (by have := HLL.out; simp; omega) (by have := hq1.lt; have := hs2.out; omega)
          have hO := grown_outS r3
          refine wp_val v' ?_ (hk _ _ γ (by rw [if_pos rfl]; exact ⟨hG.be.outS hO (fun t ht => (hq1.q.i.lt t ht).1), (fun e => by cases e), ⟨_, hq1.o.outS hO hq1.ni⟩, hq1.q.d.apart hO hq1.q.id, hq1.q.a.apart hO hq1.q.ia⟩) ⟨hO, fun _ _ => rfl⟩ ⟨by rw [List.map_append]; exact r2, new_not r4 hq1.ni hq1.lt, new_apart r4 hq1.q.d hq1.q.id, new_apart r4 hq1.q.a hq1.q.ia⟩)
          exact append_run (.tmp 30) (.tmp 35) 24 rfl d0 g1 r1
        | 8, hi =>
          injection hi with hi; subst hi
          intro c a9 wn γ hc0 hc1 hG hK hD K hk
          have he1 := hK.at 5 (by kernel_rfl)
          refine wp_pure (.pointer (some ⟨w2.heap.size, 0, none⟩)) ?_ (hk _ _ γ (by rw [if_neg (by decide)]; exact hG) ⟨Below.refl _ _, fun _ _ => rfl⟩ rfl)
          simp [execOp, Act.eval, he1, go_sem]
        | 9, hi =>
          injection hi with hi; subst hi
          intro c a9 wn γ hc0 hc1 hG hK hD K hk
          have d0 := hD 0 (by decide) (by kernel_rfl) (.inl rfl)
          have d1 := hD 1 (by decide) (by kernel_rfl) (.inl rfl)
          change a9.tmps.getD 37 undef = .pointer (some ⟨w2.heap.size, 0, none⟩) at d0
          change ownR wn (w.heap.size + 2) _ 3 (a9.tmps.getD 36 undef) ((Q.I ++ [(Q.I[0]'h0)]).map encI) ∧ w2.heap.size ∉ blkOf (a9.tmps.getD 36 undef) ∧ (∀ g ∈ blkOf (a9.tmps.getD 36 undef), g ∉ blkOf (.slice e2 Q.D.length f2)) ∧ ∀ g ∈ blkOf (a9.tmps.getD 36 undef), g ∉ blkOf (.slice e3 Q.A.length f3) at d1
          obtain ⟨k1, k2, k3, k4⟩ := d1
          obtain ⟨u, hu⟩ := hG.bx
          obtain ⟨a3, p3, e3'⟩ := k1.itS
          have h1c : (a9.tmps.getD 36 undef).oneCell' = true := by rw [e3']; rfl
          have hO : OutS [w2.heap.size] wn (wn.setCells w2.heap.size 0 [a9.tmps.getD 36 undef]) := OutS.setCells _ _ _
          have hS := objU.setCells [a9.tmps.getD 36 undef] [u] [] [.slice e2 Q.D.length f2, .slice e3 Q.A.length f3, .int .i64 Q.now] wn hu rfl
          have hfr : ∀ (v : Value) (e : TypeId) (k : Nat) (R : List (List Value)), ownR wn (w.heap.size + 2) e k v R → w2.heap.size ∉ blkOf v → ownR (wn.setCells w2.heap.size 0 [a9.tmps.getD 36 undef]) (w.heap.size + 2) e k v R := fun v e k R hv hn => hv.frame (fun g hg => hO.block g (hv.lt g hg).2 (fun hh => hn (by simp at hh; exact hh ▸ hg)))
          have hc := hc1 (by kernel_rfl)
          refine wp_skip ?_ (hk undef _ γ (by rw [if_neg (by decide)]; exact ⟨hG.be.outS hO (by have := hs2.out; simp; omega), (fun e => by rw [hc] at e; cases e), ⟨_, hS⟩, hfr _ _ _ _ hG.d9 HQ3.out.nd, hfr _ _ _ _ hG.a9 HQ3.out.na⟩) ⟨hO, fun _ _ => rfl⟩ ⟨_, hS, ⟨hfr _ _ _ _ k1 k2, hfr _ _ _ _ hG.d9 HQ3.out.nd, hfr _ _ _ _ hG.a9 HQ3.out.na, k3, k4, HQ3.out.q.da⟩, k2, HQ3.out.nd, HQ3.out.na⟩)
          exact store_run 24 (.tmp 37) (.tmp 36) rfl d0 rfl [a9.tmps.getD 36 undef] (cells_one h1c) (one1 h1c) (by kernel_rfl) (hu.there 0 1 (by simp))
        | i + 10, hi => cases hi
      case hend2 =>
        intro xx w9 γ hG hx
        obtain ⟨vI9, hQ9⟩ := hx 9 (by decide) rfl
        obtain ⟨QX, HBT, HQ9⟩ : ∃ QX : Qu, Hid (bentQ Q QX) ∧ Hid (QB w9 w2.heap.size (w.heap.size + 2) QX vI9 (.slice e2 Q.D.length f2) (.slice e3 Q.A.length f3)) := ⟨{ Q with I := Q.I ++ [(Q.I[0]'h0)] }, ⟨⟨⟨by have := HLL.out.1; simp; omega, fun y hy => by exact (List.mem_append.1 hy).elim (fun hy => HQK.out.1.2 y hy) (fun hy => by rw [List.mem_singleton.1 hy]; exact HQK.out.1.2 _ (List.getElem_mem h0))⟩, HQK.out.2⟩, by simp⟩, hQ9⟩
        obtain ⟨r1, k1, rfl⟩ := HQ9.out.q.i.itS
        have E9 := hide hG.be
        clear hG hx hQ9 HQ3 E3
        simp only [putAll, Act.put, List.setIfInBounds_toArray, List.set_cons_zero, List.set_cons_succ, Nat.zero_add, Nat.reduceAdd]
        have u0 := HQ9.out.o.cell 0 _ rfl
        have u1 := HQ9.out.o.cell 1 _ rfl
        have u2 := HQ9.out.o.cell 2 _ rfl
        have u3 := HQ9.out.o.cell 3 _ rfl
        have y0 := E9.out.oz.cell 0 _ rfl
        have y1 := E9.out.oz.cell 1 _ rfl
        have y2 := E9.out.oz.cell 2 _ rfl
        have y3 := E9.out.oz.cell 3 _ rfl
        have z0 := E9.out.oz.fz 0
        have z1 := E9.out.oz.fz 1
        have z2 := E9.out.oz.fz 2
        have z3 := E9.out.oz.fz 3
        have HO6 : Hid (ownQ (stQ w9 (w.heap.size + 1) (.slice r1 (QX).I.length k1) (.slice e2 (Q).D.length f2) (.slice e3 (Q).A.length f3) (QX).now) w.heap.size (QX) (.slice r1 (QX).I.length k1) (.slice e2 (Q).D.length f2) (.slice e3 (Q).A.length f3)) := (HQ9.out.q.outS (stQ_out _ (w.heap.size + 1) _ _ _ _) (by simp)).mono (by omega)
        have C6 : Hid (CurIn (stQ w9 (w.heap.size + 1) (.slice r1 (QX).I.length k1) (.slice e2 (Q).D.length f2) (.slice e3 (Q).A.length f3) (QX).now) d a n cap) := E9.out.cur.far (stQ_out _ (w.heap.size + 1) _ _ _ _) (B := w.heap.size) Hd.out HCL.out (by simp)
        have O6 : Hid (Out d (d + 1) w (stQ w9 (w.heap.size + 1) (.slice r1 (QX).I.length k1) (.slice e2 (Q).D.length f2) (.slice e3 (Q).A.length f3) (QX).now)) := E9.out.out.outS (stQ_out _ (w.heap.size + 1) _ _ _ _) (by simp)
        clear HQ9 E9
        go_wp2
        refine bodyPost_ret (v := .agg #[.slice r1 (QX).I.length k1, .slice e2 (Q).D.length f2, .slice e3 (Q).A.length f3, .int .i64 (QX).now]) ?_ rfl ⟨QX, _, _, _, rfl, HBT, HO6, C6, O6.out⟩
        simp [results, Try.results32, go_sem, y0, y1, y2, y3]
  · have v0 := HQ3.out.o.cell 0 _ rfl
    by_cases hI0 : Q.I.length = 0
    · have hI0' : ¬ (0 : Int) < (Q.I.length : Int) := by omega
      clear hI0
      have HQ9 := HQ3
      have E9 := E3
      clear HQ3 E3
      have HBT : Hid (bentQ Q (Q)) := ⟨HQK.out, Nat.le_succ _⟩
      have u0 := HQ9.out.o.cell 0 _ rfl
      have u1 := HQ9.out.o.cell 1 _ rfl
      have u2 := HQ9.out.o.cell 2 _ rfl
      have u3 := HQ9.out.o.cell 3 _ rfl
      have y0 := E9.out.oz.cell 0 _ rfl
      have y1 := E9.out.oz.cell 1 _ rfl
      have y2 := E9.out.oz.cell 2 _ rfl
      have y3 := E9.out.oz.cell 3 _ rfl
      have z0 := E9.out.oz.fz 0
      have z1 := E9.out.oz.fz 1
      have z2 := E9.out.oz.fz 2
      have z3 := E9.out.oz.fz 3
      have HO6 : Hid (ownQ (stQ w3 (w.heap.size + 1) (.slice e1 (Q).I.length f1) (.slice e2 (Q).D.length f2) (.slice e3 (Q).A.length f3) (Q).now) w.heap.size (Q) (.slice e1 (Q).I.length f1) (.slice e2 (Q).D.length f2) (.slice e3 (Q).A.length f3)) := (HQ9.out.q.outS (stQ_out _ (w.heap.size + 1) _ _ _ _) (by simp)).mono (by omega)
      have C6 : Hid (CurIn (stQ w3 (w.heap.size + 1) (.slice e1 (Q).I.length f1) (.slice e2 (Q).D.length f2) (.slice e3 (Q).A.length f3) (Q).now) d a n cap) := E9.out.cur.far (stQ_out _ (w.heap.size + 1) _ _ _ _) (B := w.heap.size) Hd.out HCL.out (by simp)
      have O6 : Hid (Out d (d + 1) w (stQ w3 (w.heap.size + 1) (.slice e1 (Q).I.length f1) (.slice e2 (Q).D.length f2) (.slice e3 (Q).A.length f3) (Q).now)) := E9.out.out.outS (stQ_out _ (w.heap.size + 1) _ _ _ _) (by simp)
      clear HQ9 E9
      go_wp2
      refine bodyPost_ret (v := .agg #[.slice e1 (Q).I.length f1, .slice e2 (Q).D.length f2, .slice e3 (Q).A.length f3, .int .i64 (Q).now]) ?_ rfl ⟨Q, _, _, _, rfl, HBT, HO6, C6, O6.out⟩
      simp [results, Try.results32, go_sem, y0, y1, y2, y3]
    · have h0 : 0 < Q.I.length := by omega
      have hI0' : (0 : Int) < (Q.I.length : Int) := by omega
      obtain ⟨g, cp, eg, hgb, hgl, -, hgk, -⟩ := HQ3.out.q.i.opened (by simpa using h0)
      injection eg with ea el ec
      subst ea
      subst ec
      clear el hI0
      go_wp2
      refine wp_region_inv2 (fun i => if i = 4 then Out d (d + 1) else if i = 7 then OutS [g] else fun u v => Below u.heap.size u v) (fun j => none) 7 (by decide) (G3 w w3 d n cap a w2.heap.size (w.heap.size + 2) Q (.slice (some ⟨g, 0, none⟩) Q.I.length f1) (.slice e2 Q.D.length f2) (.slice e3 Q.A.length f3)) (F3 w3 d w2.heap.size (w.heap.size + 2) Q g h0 (.slice (some ⟨g, 0, none⟩) Q.I.length f1) (.slice e2 Q.D.length f2) (.slice e3 Q.A.length f3)) (by kernel_rfl) (by kernel_rfl) (by kernel_rfl) ?hF3 ?hU3 ?hG3 ?hstep3 ?hend3
      case hF3 =>
        intro i j γ γ' v wa wb hij hsp hnd hsd h hfr
        have ho := hfr.out
        have hdd := Hd.out
        have hss := hs2.out
        match j, h with
        | 0, h => exact h
        | 1, h => exact h
        | 2, h => exact h
        | 3, ⟨g4, h1, h2, h3, h4⟩ =>
          by_cases e4 : i = 4
          · rw [if_pos e4] at ho; exact ⟨g4, h1, h2.outS (outS_of_out ho) (by simp; omega), h3, h4⟩
          · rw [if_neg e4] at ho
            by_cases e7 : i = 7
            · rw [if_pos e7] at ho; exact ⟨g4, h1, h2.outS ho (by simp; omega), h3, h4⟩
            · rw [if_neg e7] at ho; exact ⟨g4, h1, h2.below ho, h3, h4⟩
        | 4, h => exact h
        | 5, h => exact h
        | 6, h => exact h
        | 7, ⟨x, hxk, h⟩ =>
          by_cases e4 : i = 4
          · rw [if_pos e4] at ho; exact ⟨x, hxk, h.curs ho (by omega) (by omega)⟩
          · rw [if_neg e4, if_neg hij] at ho; exact ⟨x, hxk, h.below ho⟩
        | j + 8, h => exact h.elim
      case hU3 =>
        intro i o hi hd γ v wa h
        match i, hi with
        | 0, hi => (injection hi with hi; subst hi; cases hd)
        | 1, hi => (injection hi with hi; subst hi; cases hd)
        | 2, hi => (injection hi with hi; subst hi; cases hd)
        | 3, hi => (injection hi with hi; subst hi; cases hd)
        | 4, hi => (injection hi with hi; subst hi; cases hd)
        | 5, hi => (injection hi with hi; subst hi; cases hd)
        | 6, hi => (injection hi with hi; subst hi; cases hd)
        | 7, hi => exact h
        | i + 8, hi => cases hi
      case hG3 => exact ⟨E3.out.below (Below.drew (Below.refl _ _)), fun _ => HQ3.out.below (Below.drew (Below.refl _ _))⟩
      case hstep3 =>
        intro i o hi
        match i, hi with
        | 0, hi =>
          injection hi with hi; subst hi
          intro c a9 wn γ hc0 hc1 hG hK hD K hk
          have he1 := hK.at 5 (by kernel_rfl)
          refine wp_pure (.pointer (some ⟨w2.heap.size, 0, none⟩)) ?_ (hk _ _ γ (by rw [if_neg (by decide)]; exact hG) ⟨Below.refl _ _, fun _ _ => rfl⟩ rfl)
          simp [execOp, Act.eval, he1, go_sem]
        | 1, hi =>
          injection hi with hi; subst hi
          intro c a9 wn γ hc0 hc1 hG hK hD K hk
          have d0 := hD 0 (by decide) (by kernel_rfl) (.inl rfl)
          change a9.tmps.getD 44 undef = .pointer (some ⟨w2.heap.size, 0, none⟩) at d0
          have x0 := (hG.q (hc0 (.inl (by kernel_rfl)))).o.cell 0 _ rfl
          refine wp_pure (.slice (some ⟨g, 0, none⟩) Q.I.length f1) ?_ (hk _ _ γ (by rw [if_neg (by decide)]; exact hG) ⟨Below.refl _ _, fun _ _ => rfl⟩ rfl)
          simp [execOp, Act.eval, d0, x0, go_sem]
        | 2, hi =>
          injection hi with hi; subst hi
          intro c a9 wn γ hc0 hc1 hG hK hD K hk
          have he1 := hK.at 0 (by kernel_rfl)
          refine wp_pure (.pointer (some ⟨d, 0, none⟩)) ?_ (hk _ _ γ (by rw [if_neg (by decide)]; exact hG) ⟨Below.refl _ _, fun _ _ => rfl⟩ rfl)
          simp [execOp, Act.eval, he1, go_sem]
        | 3, hi =>
          injection hi with hi; subst hi
          intro c a9 wn γ hc0 hc1 hG hK hD K hk
          refine wp_val (w' := wn.alloc (.cells #[.int .i64 (-1), .int .i64 7, .int .i64 1000, .int .i64 1001] 3)) (.slice (some ⟨wn.heap.size, 0, none⟩) 4 4) ?_ (hk _ _ γ (by rw [if_neg (by decide)]; exact ⟨hG.be.below (below_alloc _ _), fun e => (hG.q e).below (below_alloc _ _)⟩) ⟨below_alloc _ _, fun _ _ => rfl⟩ ⟨_, rfl, objU.new _ _ _, by have := hG.be.cur.lt; omega, by have := (hG.q (hc0 (.inl (by kernel_rfl)))).q.i.lt g (by simp [blkOf, Value.ownBlock]); omega⟩)
          simp [execOp, Act.eval, go_sem]
        | 4, hi =>
          injection hi with hi; subst hi
          intro c a9 wn γ hc0 hc1 hG hK hD K hk
          have d0 := hD 0 (by decide) (by kernel_rfl) (.inl rfl)
          change a9.tmps.getD 46 undef = .pointer (some ⟨d, 0, none⟩) at d0
          have d1 := hD 1 (by decide) (by kernel_rfl) (.inl rfl)
          obtain ⟨g4, d1, ho, hgd, -⟩ := d1
          change a9.tmps.getD 47 undef = _ at d1
          refine wp_call 46 #[.tmp 46, .tmp 47] _ rfl (callFunc_enter Try.func46 (by kernel_rfl) (by kernel_rfl)) #[.pointer (some ⟨d, 0, none⟩), .slice (some ⟨g4, 0, none⟩) 4 4] (by simp only [List.map_toArray, List.map_cons, List.map_nil]; show #[a9.tmps.getD 46 undef, a9.tmps.getD 47 undef] = _; rw [d0, d1]) (l1Int_atQ d n cap g4 a [-1, 7, 1000, 1001] wn hn (by decide) (by decide) (fun j hj => ?_) hgd hG.be.cur) ?_
          · have hj5 : j < 4 := hj
            rcases (show j = 0 ∨ j = 1 ∨ j = 2 ∨ j = 3 by omega) with rfl | rfl | rfl | rfl
            · exact ho.cell 0 _ rfl
            · exact ho.cell 1 _ rfl
            · exact ho.cell 2 _ rfl
            · exact ho.cell 3 _ rfl
          rintro e w' ⟨x, hx, rfl, hc', ho'⟩
          exact ⟨_, rfl, hk _ w' γ (by rw [if_neg (by decide)]; exact ⟨hG.be.outd ho' hc'.out, fun e => (hG.q e).curs ho' (by have := Hd.out; have := hs2.out; omega) (by have := Hd.out; omega)⟩) ⟨ho', fun _ _ => rfl⟩ ⟨x, by simp at hx; unfold inK; omega, rfl⟩⟩
        | 5, hi =>
          injection hi with hi; subst hi
          intro c a9 wn γ hc0 hc1 hG hK hD K hk
          have d0 := hD 0 (by decide) (by kernel_rfl) (.inl rfl)
          change a9.tmps.getD 45 undef = .slice (some ⟨g, 0, none⟩) Q.I.length f1 at d0
          rw [Array.getD_eq_getD_getElem?] at d0
          refine wp_pure (.pointer (some ⟨g, 0, none⟩)) ?_ (hk _ _ γ (by rw [if_neg (by decide)]; exact hG) ⟨Below.refl _ _, fun _ _ => rfl⟩ rfl)
          simp [execOp, Act.eval, d0, h0, go_sem]
        | 6, hi =>
          injection hi with hi; subst hi
          intro c a9 wn γ hc0 hc1 hG hK hD K hk
          have d0 := hD 0 (by decide) (by kernel_rfl) (.inl rfl)
          change a9.tmps.getD 49 undef = .pointer (some ⟨g, 0, none⟩) at d0
          refine wp_pure (.pointer (some ⟨g, 2, none⟩)) ?_ (hk _ _ γ (by rw [if_neg (by decide)]; exact hG) ⟨Below.refl _ _, fun _ _ => rfl⟩ rfl)
          simp [execOp, Act.eval, d0, go_sem]
        | 7, hi =>
          injection hi with hi; subst hi
          intro c a9 wn γ hc0 hc1 hG hK hD K hk
          have d0 := hD 0 (by decide) (by kernel_rfl) (.inl rfl)
          change a9.tmps.getD 50 undef = .pointer (some ⟨g, 2, none⟩) at d0
          have d1 := hD 1 (by decide) (by kernel_rfl) (.inl rfl)
          obtain ⟨x, hxk, d1⟩ := d1
          change a9.tmps.getD 48 undef = _ at d1
          have hq1 := hG.q (hc0 (.inr rfl))
          have hf := hq1.setF h0 x
          rw [Nat.zero_mul, Nat.zero_add] at hf
          have hos : OutS [g] wn (wn.setCell ⟨g, 2, none⟩ (.int .i64 x)) := (OutS.refl _ _).setCell (p := ⟨g, 2, none⟩) (by simp) _
          obtain ⟨g', o', e6, -, c6, c7, c8⟩ := (hq1.q.i.rd (by decide)).itAt h0
          cases e6
          rw [Nat.zero_mul, Nat.add_zero] at c6 c7 c8
          have hfz : wn.frozen? ⟨g, 2, none⟩ = false := by
            obtain ⟨g5, c5, e5, -, -, -, -, -, h5⟩ := hq1.q.i.opened (by simpa using h0)
            injection e5 with e5a _ _
            cases e5a
            exact h5 2
          refine wp_skip ?_ (hk undef (wn.setCell ⟨g, 2, none⟩ (.int .i64 x)) γ (by rw [if_pos rfl]; exact ⟨hG.be.outS hos (by simp; omega), (fun e => by cases e)⟩) ⟨hos, fun _ _ => rfl⟩ ⟨x, hxk, hf⟩)
          rw [Array.getD_eq_getD_getElem?] at d0 d1
          simp [execOp, Act.eval, d0, d1, c8, hfz, go_sem]
        | i + 8, hi => cases hi
      case hend3 =>
        intro xx w9 γ hG hx
        obtain ⟨x, hxk, hQ9⟩ := hx 7 (by decide) rfl
        obtain ⟨QX, HBT, HQ9⟩ : ∃ QX : Qu, Hid (bentQ Q QX) ∧ Hid (QB w9 w2.heap.size (w.heap.size + 2) QX (.slice (some ⟨g, 0, none⟩) Q.I.length f1) (.slice e2 Q.D.length f2) (.slice e3 Q.A.length f3)) := ⟨{ Q with I := Q.I.set 0 ((Q.I[0]'h0).1, (Q.I[0]'h0).2.1, x) }, ⟨⟨okIs_set HQK.out.1 ⟨(HQK.out.1.2 _ (List.getElem_mem h0)).1, (HQK.out.1.2 _ (List.getElem_mem h0)).2.1, hxk⟩, HQK.out.2⟩, by simp⟩, hQ9⟩
        obtain ⟨r1, k1, er⟩ := HQ9.out.q.i.itS
        rw [er] at HQ9
        have E9 := hide hG.be
        clear hG hx hQ9 HQ3 E3
        simp only [putAll, Act.put, List.setIfInBounds_toArray, List.set_cons_zero, List.set_cons_succ, Nat.zero_add, Nat.reduceAdd]
        have u0 := HQ9.out.o.cell 0 _ rfl
        have u1 := HQ9.out.o.cell 1 _ rfl
        have u2 := HQ9.out.o.cell 2 _ rfl
        have u3 := HQ9.out.o.cell 3 _ rfl
        have y0 := E9.out.oz.cell 0 _ rfl
        have y1 := E9.out.oz.cell 1 _ rfl
        have y2 := E9.out.oz.cell 2 _ rfl
        have y3 := E9.out.oz.cell 3 _ rfl
        have z0 := E9.out.oz.fz 0
        have z1 := E9.out.oz.fz 1
        have z2 := E9.out.oz.fz 2
        have z3 := E9.out.oz.fz 3
        have HO6 : Hid (ownQ (stQ w9 (w.heap.size + 1) (.slice r1 (QX).I.length k1) (.slice e2 (Q).D.length f2) (.slice e3 (Q).A.length f3) (QX).now) w.heap.size (QX) (.slice r1 (QX).I.length k1) (.slice e2 (Q).D.length f2) (.slice e3 (Q).A.length f3)) := (HQ9.out.q.outS (stQ_out _ (w.heap.size + 1) _ _ _ _) (by simp)).mono (by omega)
        have C6 : Hid (CurIn (stQ w9 (w.heap.size + 1) (.slice r1 (QX).I.length k1) (.slice e2 (Q).D.length f2) (.slice e3 (Q).A.length f3) (QX).now) d a n cap) := E9.out.cur.far (stQ_out _ (w.heap.size + 1) _ _ _ _) (B := w.heap.size) Hd.out HCL.out (by simp)
        have O6 : Hid (Out d (d + 1) w (stQ w9 (w.heap.size + 1) (.slice r1 (QX).I.length k1) (.slice e2 (Q).D.length f2) (.slice e3 (Q).A.length f3) (QX).now)) := E9.out.out.outS (stQ_out _ (w.heap.size + 1) _ _ _ _) (by simp)
        clear HQ9 E9
        go_wp2
        refine bodyPost_ret (v := .agg #[.slice r1 (QX).I.length k1, .slice e2 (Q).D.length f2, .slice e3 (Q).A.length f3, .int .i64 (QX).now]) ?_ rfl ⟨QX, _, _, _, rfl, HBT, HO6, C6, O6.out⟩
        simp [results, Try.results32, go_sem, y0, y1, y2, y3]
  · have HQ9 := HQ3
    have E9 := E3
    clear HQ3 E3
    have HBT : Hid (bentQ Q (Q)) := ⟨HQK.out, Nat.le_succ _⟩
    have u0 := HQ9.out.o.cell 0 _ rfl
    have u1 := HQ9.out.o.cell 1 _ rfl
    have u2 := HQ9.out.o.cell 2 _ rfl
    have u3 := HQ9.out.o.cell 3 _ rfl
    have y0 := E9.out.oz.cell 0 _ rfl
    have y1 := E9.out.oz.cell 1 _ rfl
    have y2 := E9.out.oz.cell 2 _ rfl
    have y3 := E9.out.oz.cell 3 _ rfl
    have z0 := E9.out.oz.fz 0
    have z1 := E9.out.oz.fz 1
    have z2 := E9.out.oz.fz 2
    have z3 := E9.out.oz.fz 3
    have HO6 : Hid (ownQ (stQ w3 (w.heap.size + 1) (.slice e1 (Q).I.length f1) (.slice e2 (Q).D.length f2) (.slice e3 (Q).A.length f3) (Q).now) w.heap.size (Q) (.slice e1 (Q).I.length f1) (.slice e2 (Q).D.length f2) (.slice e3 (Q).A.length f3)) := (HQ9.out.q.outS (stQ_out _ (w.heap.size + 1) _ _ _ _) (by simp)).mono (by omega)
    have C6 : Hid (CurIn (stQ w3 (w.heap.size + 1) (.slice e1 (Q).I.length f1) (.slice e2 (Q).D.length f2) (.slice e3 (Q).A.length f3) (Q).now) d a n cap) := E9.out.cur.far (stQ_out _ (w.heap.size + 1) _ _ _ _) (B := w.heap.size) Hd.out HCL.out (by simp)
    have O6 : Hid (Out d (d + 1) w (stQ w3 (w.heap.size + 1) (.slice e1 (Q).I.length f1) (.slice e2 (Q).D.length f2) (.slice e3 (Q).A.length f3) (Q).now)) := E9.out.out.outS (stQ_out _ (w.heap.size + 1) _ _ _ _) (by simp)
    clear HQ9 E9
    go_wp2
    refine bodyPost_ret (v := .agg #[.slice e1 (Q).I.length f1, .slice e2 (Q).D.length f2, .slice e3 (Q).A.length f3, .int .i64 (Q).now]) ?_ rfl ⟨Q, _, _, _, rfl, HBT, HO6, C6, O6.out⟩
    simp [results, Try.results32, go_sem, y0, y1, y2, y3]
  · have HQ9 := HQ3
    have E9 := E3
    clear HQ3 E3
    have HBT : Hid (bentQ Q (Q)) := ⟨HQK.out, Nat.le_succ _⟩
    have u0 := HQ9.out.o.cell 0 _ rfl
    have u1 := HQ9.out.o.cell 1 _ rfl
    have u2 := HQ9.out.o.cell 2 _ rfl
    have u3 := HQ9.out.o.cell 3 _ rfl
    have y0 := E9.out.oz.cell 0 _ rfl
    have y1 := E9.out.oz.cell 1 _ rfl
    have y2 := E9.out.oz.cell 2 _ rfl
    have y3 := E9.out.oz.cell 3 _ rfl
    have z0 := E9.out.oz.fz 0
    have z1 := E9.out.oz.fz 1
    have z2 := E9.out.oz.fz 2
    have z3 := E9.out.oz.fz 3
    have HO6 : Hid (ownQ (stQ w3 (w.heap.size + 1) (.slice e1 (Q).I.length f1) (.slice e2 (Q).D.length f2) (.slice e3 (Q).A.length f3) (Q).now) w.heap.size (Q) (.slice e1 (Q).I.length f1) (.slice e2 (Q).D.length f2) (.slice e3 (Q).A.length f3)) := (HQ9.out.q.outS (stQ_out _ (w.heap.size + 1) _ _ _ _) (by simp)).mono (by omega)
    have C6 : Hid (CurIn (stQ w3 (w.heap.size + 1) (.slice e1 (Q).I.length f1) (.slice e2 (Q).D.length f2) (.slice e3 (Q).A.length f3) (Q).now) d a n cap) := E9.out.cur.far (stQ_out _ (w.heap.size + 1) _ _ _ _) (B := w.heap.size) Hd.out HCL.out (by simp)
    have O6 : Hid (Out d (d + 1) w (stQ w3 (w.heap.size + 1) (.slice e1 (Q).I.length f1) (.slice e2 (Q).D.length f2) (.slice e3 (Q).A.length f3) (Q).now)) := E9.out.out.outS (stQ_out _ (w.heap.size + 1) _ _ _ _) (by simp)
    clear HQ9 E9
    go_wp2
    refine bodyPost_ret (v := .agg #[.slice e1 (Q).I.length f1, .slice e2 (Q).D.length f2, .slice e3 (Q).A.length f3, .int .i64 (Q).now]) ?_ rfl ⟨Q, _, _, _, rfl, HBT, HO6, C6, O6.out⟩
    simp [results, Try.results32, go_sem, y0, y1, y2, y3]
  · have HQ9 := HQ3
    have E9 := E3
    clear HQ3 E3
    have HBT : Hid (bentQ Q (Q)) := ⟨HQK.out, Nat.le_succ _⟩
    have u0 := HQ9.out.o.cell 0 _ rfl
    have u1 := HQ9.out.o.cell 1 _ rfl
    have u2 := HQ9.out.o.cell 2 _ rfl
    have u3 := HQ9.out.o.cell 3 _ rfl
    have y0 := E9.out.oz.cell 0 _ rfl
    have y1 := E9.out.oz.cell 1 _ rfl
    have y2 := E9.out.oz.cell 2 _ rfl
    have y3 := E9.out.oz.cell 3 _ rfl
    have z0 := E9.out.oz.fz 0
    have z1 := E9.out.oz.fz 1
    have z2 := E9.out.oz.fz 2
    have z3 := E9.out.oz.fz 3
    have HO6 : Hid (ownQ (stQ w3 (w.heap.size + 1) (.slice e1 (Q).I.length f1) (.slice e2 (Q).D.length f2) (.slice e3 (Q).A.length f3) (Q).now) w.heap.size (Q) (.slice e1 (Q).I.length f1) (.slice e2 (Q).D.length f2) (.slice e3 (Q).A.length f3)) := (HQ9.out.q.outS (stQ_out _ (w.heap.size + 1) _ _ _ _) (by simp)).mono (by omega)
    have C6 : Hid (CurIn (stQ w3 (w.heap.size + 1) (.slice e1 (Q).I.length f1) (.slice e2 (Q).D.length f2) (.slice e3 (Q).A.length f3) (Q).now) d a n cap) := E9.out.cur.far (stQ_out _ (w.heap.size + 1) _ _ _ _) (B := w.heap.size) Hd.out HCL.out (by simp)
    have O6 : Hid (Out d (d + 1) w (stQ w3 (w.heap.size + 1) (.slice e1 (Q).I.length f1) (.slice e2 (Q).D.length f2) (.slice e3 (Q).A.length f3) (Q).now)) := E9.out.out.outS (stQ_out _ (w.heap.size + 1) _ _ _ _) (by simp)
    clear HQ9 E9
    go_wp2
    refine bodyPost_ret (v := .agg #[.slice e1 (Q).I.length f1, .slice e2 (Q).D.length f2, .slice e3 (Q).A.length f3, .int .i64 (Q).now]) ?_ rfl ⟨Q, _, _, _, rfl, HBT, HO6, C6, O6.out⟩
    simp [results, Try.results32, go_sem, y0, y1, y2, y3]
end Go.Proofs.Ytddojjigijfgbaa
