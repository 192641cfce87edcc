/- Queues that are drawn. -/
import Derived.Test.YtpmhmcekkppbhaaQdN
import Derived.Test.YtpmhmcekkppbhaaQdC
import Derived.Test.YtpmhmcekkppbhaaDraw4
namespace Go.Proofs.Ytpmhmcekkppbhaa
open Go.RowKit Go.BigFrame
set_option linter.unusedVariables false

/-- no more than k fails each -/
def flP (Q : Qu) (k : Int) : Prop := ∀ x ∈ Q.I ++ Q.D, x.2.2 ≤ k
def drQ (Q : Qu) (k : Nat) : Prop := okQ Q ∧ qOkP Q ∧ cntQ Q ≤ k ∧ flP Q k ∧ Q.now ≤ 10 + 4 * (k : Int)
theorem now_put (Q : Qu) (s : ByteArray) : (putC Q s).1.now = Q.now := by
  unfold putC
  split
  · split <;> rfl
  · split
    · rfl
    · split <;> rfl
theorem now_take (Q : Qu) : (takeC Q).1.now = Q.now := by
  unfold takeC
  split
  · split <;> rfl
  · rfl
theorem now_add (R : Qu) (x : It) : (addQ R x).now = R.now := by unfold addQ; split <;> rfl
theorem now_done (Q : Qu) (s : ByteArray) (well : Bool) : (doneC Q s well).1.now = Q.now := by
  unfold doneC
  split
  · dsimp only
    split
    · split
      · exact now_add _ _
      · rfl
    · exact now_add _ _
  · rfl
theorem now_pass {Q : Qu} {z m : Int} (h : Q.now ≤ m) (hz : z ≤ m) : (passQ Q z).now ≤ m := by
  unfold passQ
  split
  · exact hz
  · exact h
theorem flP.mono {Q : Qu} {k l : Int} (h : flP Q k) (hl : k ≤ l) : flP Q l := fun x hx => Int.le_trans (h x hx) hl
theorem flP_add {R : Qu} {x : It} {k : Int} (h : flP R k) (hx : x.2.2 ≤ k) : flP (addQ R x) k := by
  unfold addQ
  split
  · exact h
  · intro y hy
    have hy' : y ∈ (R.I ++ [x]) ++ R.D := hy
    rw [List.mem_append, List.mem_append, List.mem_singleton] at hy'
    rcases hy' with (hy | rfl) | hy
    · exact h y (List.mem_append_left _ hy)
    · exact hx
    · exact h y (List.mem_append_right _ hy)
theorem flP_out {Q : Qu} {k : Int} (h : flP Q k) (i : Nat) (s : ByteArray) : flP (outD Q i s) k := fun y hy => by
  have hy' : y ∈ Q.I ++ dropAt Q.D i := hy
  rcases List.mem_append.1 hy' with hy | hy
  · exact h y (List.mem_append_left _ hy)
  · exact h y (List.mem_append_right _ (mem_dropAt hy))
theorem flP_done {Q : Qu} {s : ByteArray} {well : Bool} {k : Nat} (hp : qOkP Q) (h : flP Q k) : flP (doneC Q s well).1 ((k : Int) + 1) := by
  by_cases hD : fndI Q.D s < Q.D.length
  · have hm := List.getElem_mem hD
    have hk := (hp.2.2.2.1 _ (List.mem_append_right _ hm)).2.2
    have hf := h _ (List.mem_append_right _ hm)
    obtain ⟨F, hF⟩ : ∃ F : Nat, min ((Q.D[fndI Q.D s]'hD).2.2 + 1) 1000 = (F : Int) := ⟨(min ((Q.D[fndI Q.D s]'hD).2.2 + 1) 1000).toNat, by omega⟩
    rw [doneC_at well hD hF]
    have ho := (flP_out h (fndI Q.D s) s).mono (show (k : Int) ≤ (k : Int) + 1 by omega)
    cases well with
    | true =>
      cases inA Q.A s with
      | true => exact flP_add ho (by show (0 : Int) ≤ _; omega)
      | false => exact ho
    | false => exact flP_add ho (by show (F : Int) ≤ _; omega)
  · rw [doneC_no well hD]
    exact h.mono (by omega)
theorem flP_put {Q : Qu} {s : ByteArray} {k : Nat} (h : flP Q k) : flP (putC Q s).1 k := by
  unfold putC
  split
  · split
    · exact h
    · exact h
  · split
    · rename_i hI
      intro y hy
      have hy' : y ∈ Q.I.set (fndI Q.I s) ((Q.I[fndI Q.I s]).1, min (Q.I[fndI Q.I s]).2.1 Q.now, (Q.I[fndI Q.I s]).2.2) ++ Q.D := hy
      rw [List.mem_append] at hy'
      rcases hy' with hy | hy
      · rcases List.mem_or_eq_of_mem_set hy with hy | rfl
        · exact h y (List.mem_append_left _ hy)
        · have := h (Q.I[fndI Q.I s]) (List.mem_append_left _ (List.getElem_mem hI))
          exact this
      · exact h y (List.mem_append_right _ hy)
    · split
      · exact h
      · intro y hy
        have hy' : y ∈ (Q.I ++ [(s, Q.now, (0 : Int))]) ++ Q.D := hy
        rw [List.mem_append, List.mem_append, List.mem_singleton] at hy'
        rcases hy' with (hy | rfl) | hy
        · exact h y (List.mem_append_left _ hy)
        · show (0 : Int) ≤ _; omega
        · exact h y (List.mem_append_right _ hy)
theorem flP_take {Q : Qu} {k : Int} (h : flP Q k) : flP (takeC Q).1 k := by
  unfold takeC
  split
  · rename_i hk
    split
    · exact h
    · intro y hy
      have hy' : y ∈ dropAt Q.I (rdyN Q.I Q.now) ++ (Q.D ++ [((Q.I[rdyN Q.I Q.now]).1, (0 : Int), (Q.I[rdyN Q.I Q.now]).2.2)]) := hy
      rw [List.mem_append, List.mem_append, List.mem_singleton] at hy'
      rcases hy' with hy | hy | rfl
      · exact h y (List.mem_append_left _ (mem_dropAt hy))
      · exact h y (List.mem_append_right _ hy)
      · have := h (Q.I[rdyN Q.I Q.now]) (List.mem_append_left _ (List.getElem_mem hk))
        exact this
  · exact h
theorem flP_pass {Q : Qu} {k z : Int} (h : flP Q k) : flP (passQ Q z) k := by
  unfold passQ
  split
  · exact h
  · exact h
theorem drQ.put {Q : Qu} {k : Nat} {s : ByteArray} (h : drQ Q k) (hs : nameB s = true) (hz : s.size ≤ maxLen) : drQ (putQ Q s).1 (k + 1) := by
  have ho := okQ_put h.1 hz
  have e : putQ Q s = putC Q s := if_pos ⟨qOk_true h.2.1, hs⟩
  rw [e] at ho ⊢
  exact ⟨ho, qOkP_put h.2.1 hs, by have := cntQ_put Q s; have := h.2.2.1; omega, (flP_put h.2.2.2.1).mono (by omega), by have := h.2.2.2.2; rw [now_put]; omega⟩
theorem drQ.take {Q : Qu} {k : Nat} (h : drQ Q k) : drQ (takeQ Q).1 (k + 1) := by
  have ho := (okQ_take h.1).1
  have e : takeQ Q = takeC Q := if_pos (qOk_true h.2.1)
  rw [e] at ho ⊢
  exact ⟨ho, qOkP_take h.2.1, by have := cntQ_take Q; have := h.2.2.1; omega, (flP_take h.2.2.2.1).mono (by omega), by have := h.2.2.2.2; rw [now_take]; omega⟩
theorem drQ.done {Q : Qu} {k : Nat} {s : ByteArray} {o : Bool} (h : drQ Q k) (hz : s.size ≤ maxLen) : drQ (doneQ Q s o).1 (k + 1) := by
  have ho := okQ_done h.1 hz o
  have e : doneQ Q s o = doneC Q s o := if_pos (qOk_true h.2.1)
  rw [e] at ho ⊢
  exact ⟨ho, qOkP_done h.2.1, by have := cntQ_done (s := s) (well := o) h.2.1; have := h.2.2.1; omega, (flP_done h.2.1 h.2.2.2.1).mono (by omega), by have := h.2.2.2.2; rw [now_done]; omega⟩
theorem drQ.pass {Q : Qu} {k : Nat} {z : Int} (h : drQ Q k) (hz : inK .i64 z) (hz4 : z ≤ Q.now + 4) : drQ (passQ Q z) (k + 1) :=
  ⟨okQ_pass h.1 hz, qOkP_pass h.2.1, by have := cntQ_pass Q z; have := h.2.2.1; omega, (flP_pass h.2.2.2.1).mono (by omega), now_pass (by have := h.2.2.2.2; omega) (by have := h.2.2.2.2; omega)⟩
theorem drQ.mono {Q : Qu} {k l : Nat} (h : drQ Q k) (hl : k ≤ l) : drQ Q l := ⟨h.1, h.2.1, Nat.le_trans h.2.2.1 hl, h.2.2.2.1.mono (by omega), by have := h.2.2.2.2; omega⟩
theorem drQ.zero {x : Nat} (h : x < 10) : drQ ⟨[], [], [], (x : Int)⟩ 0 :=
  ⟨⟨⟨by simp, by simp⟩, ⟨by simp, by simp⟩, ⟨by simp, by simp⟩, by show inK .i64 (x : Int); unfold inK; omega⟩, ⟨by simp, by simp, ⟨by show (0 : Int) ≤ (x : Int); omega, by show (x : Int) ≤ 1000000; omega⟩, by simp, by simp, by simp, by simp, by simp⟩, by simp [cntQ], (fun y hy => by simp at hy), by show (x : Int) ≤ _; omega⟩
theorem Out.outS {d : Nat} {a w w' : World} {T : List Nat} (h : Out d (d + 1) a w) (ho : OutS T w w') (hT : ∀ t ∈ T, a.heap.size ≤ t) : Out d (d + 1) a w' :=
  ⟨ho.os.trans h.os, ho.tape.trans h.tape, ho.output.trans h.output, Nat.le_trans h.size ho.size, fun k hk hr => (ho.block k (Nat.lt_of_lt_of_le hk h.size) (fun hh => by have := hT k hh; omega)).trans (h.block k hk hr)⟩
theorem outS_of_out {d : Nat} {w w' : World} (h : Out d (d + 1) w w') : OutS [d] w w' := ⟨h.os, h.tape, h.output, h.size, fun k hk hn => h.block k hk (by simp at hn; omega)⟩
theorem CurIn.far {w w' : World} {d : Nat} {a : Option Addr} {n cap B : Nat} {T : List Nat} (c : CurIn w d a n cap) (ho : OutS T w w') (hd : d < B) (hall : ∀ j, j < n → ∀ b off, a = some ⟨b, off, none⟩ → b < B) (hT : ∀ t ∈ T, B ≤ t) : CurIn w' d a n cap := by
  have hlt := c.lt
  have hb : ∀ k, k < w.heap.size → k < B → w'.heap[k]? = w.heap[k]? := fun k hk hkB => ho.block k hk (fun e => by have := hT k e; omega)
  obtain ⟨i, h, c⟩ := c
  refine ⟨i, h, c.le, ?_, ?_, ?_, ?_, ?_, ?_⟩
  · exact (World.cell?_of_block (w := w) (a := ⟨d, 0, none⟩) (hb d hlt hd)).trans c.c0
  · exact (World.cell?_of_block (w := w) (a := ⟨d, 1, none⟩) (hb d hlt hd)).trans c.c1
  · exact (World.cell?_of_block (w := w) (a := ⟨d, 2, none⟩) (hb d hlt hd)).trans c.c2
  · exact (World.frozen?_of_block (w := w) (a := ⟨d, 1, none⟩) (hb d hlt hd)).trans c.f1
  · exact (World.frozen?_of_block (w := w) (a := ⟨d, 2, none⟩) (hb d hlt hd)).trans c.f2
  · intro j hj
    obtain ⟨b, off, x, h1, h2, h3, h4⟩ := c.code j hj
    exact ⟨b, off, x, h1, h2, (World.cell?_of_block (w := w) (a := ⟨b, off + j, none⟩) (hb b (World.block_lt_of_cell? _ _ h3) (hall j hj b off h1))).trans h3, h4⟩
theorem CurIn.codeLt {w : World} {d : Nat} {a : Option Addr} {n cap : Nat} (c : CurIn w d a n cap) : ∀ j, j < n → ∀ b off, a = some ⟨b, off, none⟩ → b < w.heap.size := by
  obtain ⟨i, h, c⟩ := c
  intro j hj b off e
  obtain ⟨b', off', x, h1, h2, h3, h4⟩ := c.code j hj
  rw [h1] at e
  cases e
  exact World.block_lt_of_cell? _ _ h3
theorem QB.curs {w w' : World} {b base d : Nat} {Q : Qu} {vI vD vA : Value} (h : QB w b base Q vI vD vA) (ho : Out d (d + 1) w w') (hb : b ≠ d) (hd : d < base) : QB w' b base Q vI vD vA :=
  h.away (outS_of_out ho) hb (fun hh => by have := (h.q.i.lt _ hh).1; omega) (fun hh => by have := (h.q.d.lt _ hh).1; omega) (fun hh => by have := (h.q.a.lt _ hh).1; omega)
def stQ (w : World) (b : Nat) (vI vD vA : Value) (now : Int) : World := (((w.setCell ⟨b, 0, none⟩ vI).setCell ⟨b, 1, none⟩ vD).setCell ⟨b, 2, none⟩ vA).setCell ⟨b, 3, none⟩ (.int .i64 now)
theorem stQ_out (w : World) (b : Nat) (vI vD vA : Value) (now : Int) : OutS [b] w (stQ w b vI vD vA now) := OutS.setCells [vI, vD, vA, .int .i64 now] 0 w
theorem QB.ret {w w' : World} {b base : Nat} {Q Q' : Qu} {vI vD vA vI' vD' vA' : Value} (h : QB w b base Q vI vD vA) (hbb : b < base) (hbs : base ≤ w.heap.size) (hb : Below w.heap.size w w') (ho : ownQ w' w.heap.size Q' vI' vD' vA') : QB (stQ w' b vI' vD' vA' Q'.now) b base Q' vI' vD' vA' :=
  ⟨((((h.o.below hb).set 0 vI').set 1 vD').set 2 vA').set 3 (.int .i64 Q'.now), (ho.mono hbs).outS (stQ_out _ _ _ _ _ _) (fun t ht => by simp at ht; omega), fun hh => by have := (ho.i.lt _ hh).1; have := h.lt; omega, fun hh => by have := (ho.d.lt _ hh).1; have := h.lt; omega, fun hh => by have := (ho.a.lt _ hh).1; have := h.lt; omega⟩
theorem QB.ret0 {w : World} {b base base0 : Nat} {Q' : Qu} {x0 x1 x2 x3 vI' vD' vA' : Value} (h : objU w b 66 [x0, x1, x2, x3]) (hbb : b < base) (hbs : base ≤ base0) (hb : b < base0) (ho : ownQ w base0 Q' vI' vD' vA') : QB (stQ w b vI' vD' vA' Q'.now) b base Q' vI' vD' vA' :=
  ⟨(((h.set 0 vI').set 1 vD').set 2 vA').set 3 (.int .i64 Q'.now), (ho.mono hbs).outS (stQ_out _ _ _ _ _ _) (fun t ht => by simp at ht; omega), fun hh => by have := (ho.i.lt _ hh).1; omega, fun hh => by have := (ho.d.lt _ hh).1; omega, fun hh => by have := (ho.a.lt _ hh).1; omega⟩
structure GDr (w w0 : World) (d b n cap : Nat) (a : Option Addr) (Q : Qu) (vI vD vA : Value) (c : Bool) (wn : World) : Prop where
  out : Out d (d + 1) w wn
  cur : CurIn wn d a n cap
  z : objU wn w.heap.size 66 [.slice none 0 0, .slice none 0 0, .slice none 0 0, .int .i64 0]
  q : c = false → QB wn b (b + 1) Q vI vD vA
  size : w0.heap.size ≤ wn.heap.size
def FR15 (w0 : World) (d b : Nat) (Q : Qu) (s : ByteArray) (ag : Value) : Nat → (Nat → Nat) → Value → World → Prop
  | 0, γ, v, w => v = ag
  | 1, γ, v, w => v = .string s
  | 2, γ, v, w => v = .pointer (some ⟨d, 0, none⟩)
  | 3, γ, v, w => ∃ o : Bool, v = .bool o
  | 4, γ, v, w => ∃ (o : Bool) (vI vD vA : Value), v = .tuple #[.agg #[vI, vD, vA, .int .i64 (doneQ Q s o).1.now], .bool (doneQ Q s o).2] ∧ ownQ w w0.heap.size (doneQ Q s o).1 vI vD vA
  | 5, γ, v, w => ∃ (o : Bool) (vI vD vA : Value), v = .tuple #[.agg #[vI, vD, vA, .int .i64 (doneQ Q s o).1.now], .bool (doneQ Q s o).2] ∧ ownQ w w0.heap.size (doneQ Q s o).1 vI vD vA
  | 6, γ, v, w => ∃ (o : Bool) (vI vD vA : Value), v = .agg #[vI, vD, vA, .int .i64 (doneQ Q s o).1.now] ∧ ownQ w w0.heap.size (doneQ Q s o).1 vI vD vA
  | 7, γ, v, w => True
  | 8, γ, v, w => ∃ (o : Bool) (vI vD vA : Value), QB w b (b + 1) (doneQ Q s o).1 vI vD vA
  | _, _, _, _ => False
def FR8 (w0 : World) (d b : Nat) (Q : Qu) (s : ByteArray) (g pD : Nat) (ag : Value) : Nat → (Nat → Nat) → Value → World → Prop
  | 0, γ, v, w => v = ag
  | 1, γ, v, w => v = .pointer (some ⟨b, 1, none⟩)
  | 2, γ, v, w => v = .slice (some ⟨g, 0, none⟩) Q.D.length pD
  | 3, γ, v, w => v = .pointer (some ⟨g, 0, none⟩)
  | 4, γ, v, w => v = .pointer (some ⟨g, 0, none⟩)
  | 5, γ, v, w => v = .string s
  | 6, γ, v, w => v = .pointer (some ⟨d, 0, none⟩)
  | 7, γ, v, w => ∃ o : Bool, v = .bool o
  | 8, γ, v, w => ∃ (o : Bool) (vI vD vA : Value), v = .tuple #[.agg #[vI, vD, vA, .int .i64 (doneQ Q s o).1.now], .bool (doneQ Q s o).2] ∧ ownQ w w0.heap.size (doneQ Q s o).1 vI vD vA
  | 9, γ, v, w => ∃ (o : Bool) (vI vD vA : Value), v = .tuple #[.agg #[vI, vD, vA, .int .i64 (doneQ Q s o).1.now], .bool (doneQ Q s o).2] ∧ ownQ w w0.heap.size (doneQ Q s o).1 vI vD vA
  | 10, γ, v, w => ∃ (o : Bool) (vI vD vA : Value), v = .agg #[vI, vD, vA, .int .i64 (doneQ Q s o).1.now] ∧ ownQ w w0.heap.size (doneQ Q s o).1 vI vD vA
  | 11, γ, v, w => True
  | 12, γ, v, w => ∃ (o : Bool) (vI vD vA : Value), QB w b (b + 1) (doneQ Q s o).1 vI vD vA
  | _, _, _, _ => False
def FR17 (w0 : World) (d b : Nat) (Q : Qu)  (ag : Value) : Nat → (Nat → Nat) → Value → World → Prop
  | 0, γ, v, w => v = ag
  | 1, γ, v, w => v = .pointer (some ⟨b, 3, none⟩)
  | 2, γ, v, w => v = .int .i64 Q.now
  | 3, γ, v, w => v = .pointer (some ⟨d, 0, none⟩)
  | 4, γ, v, w => ∃ x : Nat, x < 4 ∧ v = .int .i64 x
  | 5, γ, v, w => ∃ x : Nat, x < 4 ∧ v = .int .i64 (Q.now + (x : Nat))
  | 6, γ, v, w => ∃ (o : Nat) (vI vD vA : Value), (o < 4 ∧ v = .agg #[vI, vD, vA, .int .i64 (passQ Q (Q.now + (o : Nat))).now]) ∧ ownQ w w0.heap.size (passQ Q (Q.now + (o : Nat))) vI vD vA
  | 7, γ, v, w => ∃ (o : Nat) (vI vD vA : Value), o < 4 ∧ QB w b (b + 1) (passQ Q (Q.now + (o : Nat))) vI vD vA
  | _, _, _, _ => False
def five : List ByteArray := [⟨#[97]⟩, ⟨#[98]⟩, ⟨#[99]⟩, ⟨#[100]⟩, ⟨#[101]⟩]
theorem five_ok : ∀ s ∈ five, nameB s = true ∧ s.size = 1 := by
  intro s hs
  unfold five at hs
  simp only [List.mem_cons, List.not_mem_nil, or_false] at hs
  rcases hs with rfl | rfl | rfl | rfl | rfl <;> exact ⟨by kernel_rfl, rfl⟩
set_option maxRecDepth 20000 in
set_option maxHeartbeats 3200000 in
theorem l9Draw_any (d n cap m : Nat) (a : Option Addr) (w : World) (hn : n ≤ 1048576) (hm0 : 0 < m) (hm : m ≤ 40) (hc : CurIn w d a n cap) :
    Calls Try.prog 99 #[.pointer (some ⟨d, 0, none⟩), .int .i64 m] w fun e w' => ∃ (Q : Qu) (vI vD vA : Value), e = .returned (.agg #[vI, vD, vA, .int .i64 Q.now]) ∧ Hid (drQ Q m) ∧ Hid (ownQ w' w.heap.size Q vI vD vA) ∧ Hid (CurIn w' d a n cap) ∧ Out d (d + 1) w w' := by
  have Hc := hide hc
  have hd := hc.lt
  have HCL := hide hc.codeLt
  clear hc
  go_enter Try.func99, Try.ntmps99
  have OZ0 : Hid (objU (w.alloc (.cells #[.slice none 0 0, .slice none 0 0, .slice none 0 0, .int .i64 0] 66)) w.heap.size 66 [.slice none 0 0, .slice none 0 0, .slice none 0 0, .int .i64 0]) := objU.new _ _ _
  go_wp2_with fail
  refine (l1Below_any d n cap 10 a _ hn (by omega) (Hc.out.later (below_alloc _ _))).mono ?_
  rintro e w1 ⟨x, hx, rfl, hc1, ho1⟩
  have hx' := hx (by omega)
  have OZ1 := hide (OZ0.out.outS (outS_of_out ho1) (by simp; omega))
  have O1 : Hid (Out d (d + 1) w w1) := (Out.of_below (below_alloc _ _)).trans ho1
  have hz1 : w.heap.size < w1.heap.size := OZ1.out.lt
  clear hx ho1 OZ0 Hc
  have HQ1 : Hid (QB (w1.alloc (.cells #[.slice none 0 0, .slice none 0 0, .slice none 0 0, .int .i64 x] 66)) w1.heap.size (w1.heap.size + 1) ⟨[], [], [], (x : Int)⟩ (.slice none 0 0) (.slice none 0 0) (.slice none 0 0)) := ⟨objU.new _ _ _, ⟨ownR.nil _ _ _ _, ownR.nil _ _ _ _, ownR.nil _ _ _ _, (fun g hg => by simp [blkOf, Value.ownBlock] at hg), (fun g hg => by simp [blkOf, Value.ownBlock] at hg), (fun g hg => by simp [blkOf, Value.ownBlock] at hg)⟩, (by simp [blkOf, Value.ownBlock]), (by simp [blkOf, Value.ownBlock]), (by simp [blkOf, Value.ownBlock])⟩
  have OZ1' := hide (OZ1.out.old (.cells #[.slice none 0 0, .slice none 0 0, .slice none 0 0, .int .i64 x] 66))
  have O1' : Hid (Out d (d + 1) w (w1.alloc (.cells #[.slice none 0 0, .slice none 0 0, .slice none 0 0, .int .i64 x] 66))) := O1.out.trans (Out.of_below (below_alloc _ _))
  go_wp2_with fail
  refine (l1Below_any d n cap m a _ hn (by omega) (hc1.out.later (below_alloc _ _))).mono ?_
  rintro e w2 ⟨i0, hi0, rfl, hc2, ho2⟩
  have hi0' := hi0 hm0
  have HQ2 := hide (HQ1.out.curs ho2 (by omega) (by omega))
  have OZ2 := hide (OZ1'.out.outS (outS_of_out ho2) (by simp; omega))
  have O2 : Hid (Out d (d + 1) w w2) := O1'.out.trans ho2
  have D2 := hide ((drQ.zero hx').mono (Nat.zero_le (m - i0)))
  clear hi0 ho2 OZ1' O1' HQ1 OZ1 O1 hc1
  go_wp2
  go_loopw [6] (fun i wr => ∃ (q : Nat) (Q : Qu) (vI vD vA : Value), q ≤ m ∧ i = .int .i64 q ∧ Hid (drQ Q (m - q)) ∧ Hid (QB wr w1.heap.size (w1.heap.size + 1) Q vI vD vA) ∧ Hid (objU wr w.heap.size 66 [.slice none 0 0, .slice none 0 0, .slice none 0 0, .int .i64 0]) ∧ Hid (CurIn wr d a n cap) ∧ Hid (Out d (d + 1) w wr)) (fun i _ => (intOf i).toNat)
  case atStart => exact ⟨i0, _, _, _, _, by omega, rfl, D2, HQ2, OZ2, hc2, O2⟩
  case round =>
    clear D2 HQ2 OZ2 hc2 O2
    obtain ⟨q, Q, vI, vD, vA, hq, rfl, Dr, HQr, OZr, Cr, Or⟩ := hrel
    obtain ⟨e1, f1, e2, f2, e3, f3, rfl, rfl, rfl⟩ := HQr.out.xs
    cases q with
    | zero =>
      have u0 := HQr.out.o.cell 0 _ rfl
      have u1 := HQr.out.o.cell 1 _ rfl
      have u2 := HQr.out.o.cell 2 _ rfl
      have u3 := HQr.out.o.cell 3 _ rfl
      have y0 := OZr.out.cell 0 _ rfl
      have y1 := OZr.out.cell 1 _ rfl
      have y2 := OZr.out.cell 2 _ rfl
      have y3 := OZr.out.cell 3 _ rfl
      have z0 := OZr.out.fz 0
      have z1 := OZr.out.fz 1
      have z2 := OZr.out.fz 2
      have z3 := OZr.out.fz 3
      have HO6 : Hid (ownQ (stQ wr w.heap.size (.slice e1 Q.I.length f1) (.slice e2 Q.D.length f2) (.slice e3 Q.A.length f3) Q.now) w.heap.size Q (.slice e1 Q.I.length f1) (.slice e2 Q.D.length f2) (.slice e3 Q.A.length f3)) := (HQr.out.q.outS (stQ_out _ w.heap.size _ _ _ _) (by simp; omega)).mono (by omega)
      have C6 : Hid (CurIn (stQ wr w.heap.size (.slice e1 Q.I.length f1) (.slice e2 Q.D.length f2) (.slice e3 Q.A.length f3) Q.now) d a n cap) := Cr.out.far (stQ_out _ w.heap.size _ _ _ _) hd HCL.out (by simp)
      have O6 : Hid (Out d (d + 1) w (stQ wr w.heap.size (.slice e1 Q.I.length f1) (.slice e2 Q.D.length f2) (.slice e3 Q.A.length f3) Q.now)) := Or.out.outS (stQ_out _ w.heap.size _ _ _ _) (by simp)
      have D6 := hide (Dr.out.mono (show m - 0 ≤ m by omega))
      go_wp2
      refine bodyPost_ret (v := .agg #[.slice e1 Q.I.length f1, .slice e2 Q.D.length f2, .slice e3 Q.A.length f3, .int .i64 Q.now]) ?_ rfl ⟨Q, _, _, _, rfl, D6, HO6, C6, O6.out⟩
      simp [results, Try.results99, go_sem, y0, y1, y2, y3]
    | succ q =>
      have hq0 : (0 : Int) < ((q + 1 : Nat) : Int) := by omega
      go_wp2_with fail
      refine (l1Str_lit d n cap a five wr hn (by decide) (by decide) (by have := Or.out.size; omega) Cr.out).mono ?_
      rintro e w3 ⟨s, hs, rfl, hc3, ho3⟩
      have hsk := five_ok s hs
      have hsz : s.size ≤ maxLen := by rw [hsk.2]; unfold maxLen; omega
      go_wp2_with fail
      refine (l1Below_any d n cap 6 a _ hn (by omega) hc3.out).mono ?_
      rintro e w4 ⟨x4, hx4, rfl, hc4, ho4⟩
      have hx4' := hx4 (by omega)
      have HQ4 := hide (HQr.out.curs (ho3.trans ho4) (by omega) (by omega))
      have OZ4 := hide (OZr.out.outS (outS_of_out (ho3.trans ho4)) (by simp; omega))
      have O4 : Hid (Out d (d + 1) w w4) := (Or.out.trans ho3).trans ho4
      have u0 := HQ4.out.o.cell 0 _ rfl
      have u1 := HQ4.out.o.cell 1 _ rfl
      have u2 := HQ4.out.o.cell 2 _ rfl
      have u3 := HQ4.out.o.cell 3 _ rfl
      have hb4 := HQ4.out.lt
      clear hx4 ho3 ho4 hc3 HQr OZr Or Cr
      have hx6 : x4 = 0 ∨ x4 = 1 ∨ x4 = 2 ∨ x4 = 3 ∨ x4 = 4 ∨ x4 = 5 := by omega
      clear hx4'
      rcases hx6 with rfl | rfl | rfl | rfl | rfl | rfl
      · go_wp2_with fail
        refine (sPut_any Q s _ w4 Dr.out.1 hsz HQ4.out.q.rd).mono ?_
        rintro e w5 ⟨vI', vD', vA', rfl, ho5, hb5⟩
        obtain ⟨g1, k1, rfl⟩ := ho5.i.itS
        obtain ⟨g2, k2, rfl⟩ := ho5.d.itS
        obtain ⟨g3, k3, rfl⟩ := ho5.a.stS
        have HD5 := hide ((Dr.out.put hsk.1 hsz).mono (show m - (q + 1) + 1 ≤ m - q by omega))
        have OB5 := HQ4.out.o.below hb5
        have y0 := OB5.cell 0 _ rfl
        have y1 := OB5.cell 1 _ rfl
        have y2 := OB5.cell 2 _ rfl
        have y3 := OB5.cell 3 _ rfl
        have z0 := OB5.fz 0
        have z1 := OB5.fz 1
        have z2 := OB5.fz 2
        have z3 := OB5.fz 3
        have HQ6 := hide (HQ4.out.ret (Nat.lt_succ_self _) (by omega) hb5 ho5)
        have OZ6 := hide ((OZ4.out.below hb5).outS (stQ_out w5 w1.heap.size (.slice g1 ((putQ Q s).1).I.length k1) (.slice g2 ((putQ Q s).1).D.length k2) (.slice g3 ((putQ Q s).1).A.length k3) ((putQ Q s).1).now) (by simp; omega))
        have C6 : Hid (CurIn (stQ w5 w1.heap.size (.slice g1 ((putQ Q s).1).I.length k1) (.slice g2 ((putQ Q s).1).D.length k2) (.slice g3 ((putQ Q s).1).A.length k3) ((putQ Q s).1).now) d a n cap) := (hc4.out.later hb5).far (stQ_out w5 w1.heap.size (.slice g1 ((putQ Q s).1).I.length k1) (.slice g2 ((putQ Q s).1).D.length k2) (.slice g3 ((putQ Q s).1).A.length k3) ((putQ Q s).1).now) hd HCL.out (by simp; omega)
        have O6 : Hid (Out d (d + 1) w (stQ w5 w1.heap.size (.slice g1 ((putQ Q s).1).I.length k1) (.slice g2 ((putQ Q s).1).D.length k2) (.slice g3 ((putQ Q s).1).A.length k3) ((putQ Q s).1).now)) := (O4.out.trans (Out.of_below hb5)).outS (stQ_out w5 w1.heap.size (.slice g1 ((putQ Q s).1).I.length k1) (.slice g2 ((putQ Q s).1).D.length k2) (.slice g3 ((putQ Q s).1).A.length k3) ((putQ Q s).1).now) (by simp; omega)
        clear ho5 hb5 OB5 HQ4 OZ4 O4 hc4 u0 u1 u2 u3
        go_wp2
        go_roundw
        case rel => exact ⟨q, _, _, _, _, by omega, by go_num, HD5, HQ6, OZ6, C6, O6⟩
        case measure => simp [intOf]
      · go_wp2_with fail
        refine (sPut_any Q s _ w4 Dr.out.1 hsz HQ4.out.q.rd).mono ?_
        rintro e w5 ⟨vI', vD', vA', rfl, ho5, hb5⟩
        obtain ⟨g1, k1, rfl⟩ := ho5.i.itS
        obtain ⟨g2, k2, rfl⟩ := ho5.d.itS
        obtain ⟨g3, k3, rfl⟩ := ho5.a.stS
        have HD5 := hide ((Dr.out.put hsk.1 hsz).mono (show m - (q + 1) + 1 ≤ m - q by omega))
        have OB5 := HQ4.out.o.below hb5
        have y0 := OB5.cell 0 _ rfl
        have y1 := OB5.cell 1 _ rfl
        have y2 := OB5.cell 2 _ rfl
        have y3 := OB5.cell 3 _ rfl
        have z0 := OB5.fz 0
        have z1 := OB5.fz 1
        have z2 := OB5.fz 2
        have z3 := OB5.fz 3
        have HQ6 := hide (HQ4.out.ret (Nat.lt_succ_self _) (by omega) hb5 ho5)
        have OZ6 := hide ((OZ4.out.below hb5).outS (stQ_out w5 w1.heap.size (.slice g1 ((putQ Q s).1).I.length k1) (.slice g2 ((putQ Q s).1).D.length k2) (.slice g3 ((putQ Q s).1).A.length k3) ((putQ Q s).1).now) (by simp; omega))
        have C6 : Hid (CurIn (stQ w5 w1.heap.size (.slice g1 ((putQ Q s).1).I.length k1) (.slice g2 ((putQ Q s).1).D.length k2) (.slice g3 ((putQ Q s).1).A.length k3) ((putQ Q s).1).now) d a n cap) := (hc4.out.later hb5).far (stQ_out w5 w1.heap.size (.slice g1 ((putQ Q s).1).I.length k1) (.slice g2 ((putQ Q s).1).D.length k2) (.slice g3 ((putQ Q s).1).A.length k3) ((putQ Q s).1).now) hd HCL.out (by simp; omega)
        have O6 : Hid (Out d (d + 1) w (stQ w5 w1.heap.size (.slice g1 ((putQ Q s).1).I.length k1) (.slice g2 ((putQ Q s).1).D.length k2) (.slice g3 ((putQ Q s).1).A.length k3) ((putQ Q s).1).now)) := (O4.out.trans (Out.of_below hb5)).outS (stQ_out w5 w1.heap.size (.slice g1 ((putQ Q s).1).I.length k1) (.slice g2 ((putQ Q s).1).D.length k2) (.slice g3 ((putQ Q s).1).A.length k3) ((putQ Q s).1).now) (by simp; omega)
        clear ho5 hb5 OB5 HQ4 OZ4 O4 hc4 u0 u1 u2 u3
        go_wp2
        go_roundw
        case rel => exact ⟨q, _, _, _, _, by omega, by go_num, HD5, HQ6, OZ6, C6, O6⟩
        case measure => simp [intOf]
      · go_wp2_with fail
        refine (sTake_any Q _ w4 Dr.out.1 HQ4.out.q.rd).mono ?_
        rintro e w5 ⟨vI', vD', vA', rfl, ho5, hb5⟩
        obtain ⟨g1, k1, rfl⟩ := ho5.i.itS
        obtain ⟨g2, k2, rfl⟩ := ho5.d.itS
        obtain ⟨g3, k3, rfl⟩ := ho5.a.stS
        have HD5 := hide (Dr.out.take.mono (show m - (q + 1) + 1 ≤ m - q by omega))
        have OB5 := HQ4.out.o.below hb5
        have y0 := OB5.cell 0 _ rfl
        have y1 := OB5.cell 1 _ rfl
        have y2 := OB5.cell 2 _ rfl
        have y3 := OB5.cell 3 _ rfl
        have z0 := OB5.fz 0
        have z1 := OB5.fz 1
        have z2 := OB5.fz 2
        have z3 := OB5.fz 3
        have HQ6 := hide (HQ4.out.ret (Nat.lt_succ_self _) (by omega) hb5 ho5)
        have OZ6 := hide ((OZ4.out.below hb5).outS (stQ_out w5 w1.heap.size (.slice g1 ((takeQ Q).1).I.length k1) (.slice g2 ((takeQ Q).1).D.length k2) (.slice g3 ((takeQ Q).1).A.length k3) ((takeQ Q).1).now) (by simp; omega))
        have C6 : Hid (CurIn (stQ w5 w1.heap.size (.slice g1 ((takeQ Q).1).I.length k1) (.slice g2 ((takeQ Q).1).D.length k2) (.slice g3 ((takeQ Q).1).A.length k3) ((takeQ Q).1).now) d a n cap) := (hc4.out.later hb5).far (stQ_out w5 w1.heap.size (.slice g1 ((takeQ Q).1).I.length k1) (.slice g2 ((takeQ Q).1).D.length k2) (.slice g3 ((takeQ Q).1).A.length k3) ((takeQ Q).1).now) hd HCL.out (by simp; omega)
        have O6 : Hid (Out d (d + 1) w (stQ w5 w1.heap.size (.slice g1 ((takeQ Q).1).I.length k1) (.slice g2 ((takeQ Q).1).D.length k2) (.slice g3 ((takeQ Q).1).A.length k3) ((takeQ Q).1).now)) := (O4.out.trans (Out.of_below hb5)).outS (stQ_out w5 w1.heap.size (.slice g1 ((takeQ Q).1).I.length k1) (.slice g2 ((takeQ Q).1).D.length k2) (.slice g3 ((takeQ Q).1).A.length k3) ((takeQ Q).1).now) (by simp; omega)
        clear ho5 hb5 OB5 HQ4 OZ4 O4 hc4 u0 u1 u2 u3
        go_wp2
        go_roundw
        case rel => exact ⟨q, _, _, _, _, by omega, by go_num, HD5, HQ6, OZ6, C6, O6⟩
        case measure => simp [intOf]
      · go_wp2
        have HG0 : Hid (GDr w w4 d w1.heap.size n cap a Q (.slice e1 Q.I.length f1) (.slice e2 Q.D.length f2) (.slice e3 Q.A.length f3) false w4.drew) := ⟨O4.out.drew, hc4.out.drew, objU.dr9 OZ4.out, fun _ => HQ4.out.below (Below.drew (Below.refl _ _)), Nat.le_refl _⟩
        have hdw : d < w1.heap.size := by omega
        refine wp_region_inv2 (fun i => if i = 3 then Out d (d + 1) else if i = 8 then OutS [w1.heap.size] else fun u v => Below u.heap.size u v) (fun _ => none) 8 (by decide) (GDr w w4 d w1.heap.size n cap a Q (.slice e1 Q.I.length f1) (.slice e2 Q.D.length f2) (.slice e3 Q.A.length f3)) (FR15 w4 d w1.heap.size Q s (.agg #[.slice e1 Q.I.length f1, .slice e2 Q.D.length f2, .slice e3 Q.A.length f3, .int .i64 Q.now])) (by kernel_rfl) (by kernel_rfl) (by kernel_rfl) ?hF15 ?hU15 ?hG15 ?hstep15 ?hend15
        case hF15 =>
          intro i j γ γ' v wa wb hij hsp hnd hsd h hfr
          have ho := hfr.out
          have KO : ∀ (R : Qu) (vI vD vA : Value), ownQ wa w4.heap.size R vI vD vA → ownQ wb w4.heap.size R vI vD vA := fun R vI vD vA h2 => by
            by_cases e3 : i = 3
            · rw [if_pos e3] at ho; exact h2.outS (outS_of_out ho) (by simp; omega)
            · rw [if_neg e3] at ho
              by_cases e8 : i = 8
              · rw [if_pos e8] at ho; exact h2.outS ho (by simp; omega)
              · rw [if_neg e8] at ho; exact h2.below ho
          match j, h with
          | 0, h => exact h
          | 1, h => exact h
          | 2, h => exact h
          | 3, h => exact h
          | 4, ⟨o, vI, vD, vA, h1, h2⟩ => exact ⟨o, vI, vD, vA, h1, KO _ _ _ _ h2⟩
          | 5, ⟨o, vI, vD, vA, h1, h2⟩ => exact ⟨o, vI, vD, vA, h1, KO _ _ _ _ h2⟩
          | 6, ⟨o, vI, vD, vA, h1, h2⟩ => exact ⟨o, vI, vD, vA, h1, KO _ _ _ _ h2⟩
          | 7, h => exact h
          | 8, ⟨o, vI, vD, vA, h1⟩ =>
            refine ⟨o, vI, vD, vA, ?_⟩
            by_cases e3 : i = 3
            · rw [if_pos e3] at ho; exact h1.curs ho (by omega) (by omega)
            · rw [if_neg e3, if_neg hij] at ho; exact h1.below ho
          | j + 9, h => exact h.elim
        case hU15 =>
          intro i o hi hd γ v wa h
          match i, hi with
          | 0, hi => (first | exact trivial | (injection hi with hi; subst hi; cases hd))
          | 1, hi => (first | exact trivial | (injection hi with hi; subst hi; cases hd))
          | 2, hi => (first | exact trivial | (injection hi with hi; subst hi; cases hd))
          | 3, hi => (first | exact trivial | (injection hi with hi; subst hi; cases hd))
          | 4, hi => (first | exact trivial | (injection hi with hi; subst hi; cases hd))
          | 5, hi => (first | exact trivial | (injection hi with hi; subst hi; cases hd))
          | 6, hi => (first | exact trivial | (injection hi with hi; subst hi; cases hd))
          | 7, hi => (first | exact trivial | (injection hi with hi; subst hi; cases hd))
          | 8, hi => exact h
          | i + 9, hi => cases hi
        case hG15 => exact HG0.out
        case hstep15 =>
          intro i o hi
          match i, hi with
          | 0, hi =>
            injection hi with hi; subst hi
            intro c a1 wn γ hc0 hc1 hG hK hD K hk
            have he1 := hK.at 5 (by kernel_rfl)
            have hq1 := hG.q (hc0 (.inl (by kernel_rfl)))
            have x0 := hq1.o.cell 0 _ rfl
            have x1 := hq1.o.cell 1 _ rfl
            have x2 := hq1.o.cell 2 _ rfl
            have x3 := hq1.o.cell 3 _ rfl
            refine wp_pure (.agg #[.slice e1 Q.I.length f1, .slice e2 Q.D.length f2, .slice e3 Q.A.length f3, .int .i64 Q.now]) ?_ (hk _ _ γ (by rw [if_neg (by decide)]; exact hG) ⟨Below.refl _ _, fun _ _ => rfl⟩ rfl)
            simp [execOp, Act.eval, he1, x0, x1, x2, x3, go_sem]
          | 1, hi =>
            injection hi with hi; subst hi
            intro c a1 wn γ hc0 hc1 hG hK hD K hk
            have he1 := hK.at 7 (by kernel_rfl)
            refine wp_pure (.string s) ?_ (hk _ _ γ (by rw [if_neg (by decide)]; exact hG) ⟨Below.refl _ _, fun _ _ => rfl⟩ rfl)
            simp [execOp, Act.eval, he1, go_sem]
          | 2, hi =>
            injection hi with hi; subst hi
            intro c a1 wn γ hc0 hc1 hG hK hD K hk
            have he1 := hK.at 0 (by kernel_rfl)
            refine wp_pure (.pointer (some ⟨d, 0, none⟩)) ?_ (hk _ _ γ (by rw [if_neg (by decide)]; exact hG) ⟨Below.refl _ _, fun _ _ => rfl⟩ rfl)
            simp [execOp, Act.eval, he1, go_sem]
          | 3, hi =>
            injection hi with hi; subst hi
            intro c a1 wn γ hc0 hc1 hG hK hD K hk
            have d0 := hD 0 (by decide) (by kernel_rfl) (.inl rfl)
            change a1.tmps.getD 61 undef = .pointer (some ⟨d, 0, none⟩) at d0
            refine wp_call 47 #[.tmp 61, .const (.int .i64 2)] _ rfl (callFunc_enter Try.func47 (by kernel_rfl) (by kernel_rfl)) #[.pointer (some ⟨d, 0, none⟩), .int .i64 ((2 : Nat) : Int)] (by simp only [List.map_toArray, List.map_cons, List.map_nil]; show #[a1.tmps.getD 61 undef, _] = _; rw [d0]; rfl) (l1Once_any d n cap 2 a wn hn (by omega) hG.cur) ?_
            rintro e w' ⟨o, rfl, hc', ho'⟩
            exact ⟨_, rfl, hk _ w' γ (by rw [if_neg (by decide)]; exact ⟨hG.out.trans ho', hc'.out, hG.z.outS (outS_of_out ho') (by simp; omega), (fun e => (hG.q e).curs ho' (by omega) (by omega)), Nat.le_trans hG.size ho'.size⟩) ⟨ho', fun _ _ => rfl⟩ ⟨o, rfl⟩⟩
          | 4, hi =>
            injection hi with hi; subst hi
            intro c a1 wn γ hc0 hc1 hG hK hD K hk
            have d0 := hD 0 (by decide) (by kernel_rfl) (.inl rfl)
            change a1.tmps.getD 59 undef = .agg #[.slice e1 Q.I.length f1, .slice e2 Q.D.length f2, .slice e3 Q.A.length f3, .int .i64 Q.now] at d0
            have d1 := hD 1 (by decide) (by kernel_rfl) (.inl rfl)
            change a1.tmps.getD 60 undef = .string s at d1
            have d2 := hD 2 (by decide) (by kernel_rfl) (.inl rfl)
            change ∃ o : Bool, a1.tmps.getD 62 undef = .bool o at d2
            obtain ⟨o, d2⟩ := d2
            have hq1 := hG.q (hc0 (.inl (by kernel_rfl)))
            refine wp_call 141 #[.tmp 59, .tmp 60, .tmp 62] _ rfl (callFunc_enter Try.func141 (by kernel_rfl) (by kernel_rfl)) #[.agg #[.slice e1 Q.I.length f1, .slice e2 Q.D.length f2, .slice e3 Q.A.length f3, .int .i64 Q.now], .string s, .bool o] (by simp only [List.map_toArray, List.map_cons, List.map_nil]; show #[a1.tmps.getD 59 undef, a1.tmps.getD 60 undef, a1.tmps.getD 62 undef] = _; rw [d0, d1, d2]) (sDone_any Q s o _ wn Dr.out.1 hsz hq1.q.rd) ?_
            rintro e w' ⟨vI', vD', vA', rfl, hq', hb'⟩
            exact ⟨_, rfl, hk _ w' γ (by rw [if_neg (by decide)]; exact ⟨hG.out.trans (Out.of_below hb'), hG.cur.later hb', hG.z.below hb', (fun e => (hG.q e).below hb'), Nat.le_trans hG.size hb'.size⟩) ⟨hb', fun _ _ => rfl⟩ ⟨o, _, _, _, rfl, hq'.mono hG.size⟩⟩
          | 5, hi =>
            injection hi with hi; subst hi
            intro c a1 wn γ hc0 hc1 hG hK hD K hk
            have d0 := hD 0 (by decide) (by kernel_rfl) (.inl rfl)
            obtain ⟨o, vI', vD', vA', d0, h2⟩ := d0
            change a1.tmps.getD 63 undef = _ at d0
            refine wp_pure _ ?_ (hk _ _ γ (by rw [if_neg (by decide)]; exact hG) ⟨Below.refl _ _, fun _ _ => rfl⟩ ⟨o, vI', vD', vA', rfl, h2⟩)
            simp [execOp, Act.eval, d0, go_sem]
          | 6, hi =>
            injection hi with hi; subst hi
            intro c a1 wn γ hc0 hc1 hG hK hD K hk
            have d0 := hD 0 (by decide) (by kernel_rfl) (.inl rfl)
            obtain ⟨o, vI', vD', vA', d0, h2⟩ := d0
            change a1.tmps.getD 58 undef = _ at d0
            refine wp_pure _ ?_ (hk _ _ γ (by rw [if_neg (by decide)]; exact hG) ⟨Below.refl _ _, fun _ _ => rfl⟩ ⟨o, vI', vD', vA', rfl, h2⟩)
            simp [execOp, Act.eval, d0, go_sem]
          | 7, hi =>
            injection hi with hi; subst hi
            intro c a1 wn γ hc0 hc1 hG hK hD K hk
            have d0 := hD 0 (by decide) (by kernel_rfl) (.inl rfl)
            obtain ⟨o, vI', vD', vA', d0, h2⟩ := d0
            change a1.tmps.getD 58 undef = _ at d0
            refine wp_pure (.bool (doneQ Q s o).2) ?_ (hk _ _ γ (by rw [if_neg (by decide)]; exact hG) ⟨Below.refl _ _, fun _ _ => rfl⟩ trivial)
            simp [execOp, Act.eval, d0, go_sem]
          | 8, hi =>
            injection hi with hi; subst hi
            intro c a1 wn γ hc0 hc1 hG hK hD K hk
            have e5 := hK.at 5 (by kernel_rfl)
            have d0 := hD 0 (by decide) (by kernel_rfl) (.inl rfl)
            obtain ⟨o, vI', vD', vA', d0, h2⟩ := d0
            change a1.tmps.getD 64 undef = _ at d0
            obtain ⟨g1, k1, rfl⟩ := h2.i.itS
            obtain ⟨g2, k2, rfl⟩ := h2.d.itS
            obtain ⟨g3, k3, rfl⟩ := h2.a.stS
            have hu := (hG.q (hc0 (.inr rfl))).o
            have hQ := QB.ret0 hu (Nat.lt_succ_self _) (by omega) (by omega) h2
            have hO := stQ_out wn w1.heap.size (.slice g1 ((doneQ Q s o).1).I.length k1) (.slice g2 ((doneQ Q s o).1).D.length k2) (.slice g3 ((doneQ Q s o).1).A.length k3) ((doneQ Q s o).1).now
            refine wp_skip ?_ (hk undef (stQ wn w1.heap.size (.slice g1 ((doneQ Q s o).1).I.length k1) (.slice g2 ((doneQ Q s o).1).D.length k2) (.slice g3 ((doneQ Q s o).1).A.length k3) ((doneQ Q s o).1).now) γ (by rw [if_pos rfl]; exact ⟨hG.out.outS hO (by simp; omega), hG.cur.far hO hd HCL.out (by simp; omega), hG.z.outS hO (by simp; omega), (fun e => by cases e), Nat.le_trans hG.size hO.size⟩) ⟨hO, fun _ _ => rfl⟩ ⟨o, _, _, _, hQ⟩)
            exact store_run 66 (.tmp 5) (.tmp 64) rfl e5 d0 [.slice g1 ((doneQ Q s o).1).I.length k1, .slice g2 ((doneQ Q s o).1).D.length k2, .slice g3 ((doneQ Q s o).1).A.length k3, .int .i64 ((doneQ Q s o).1).now] rfl (by intro u hu; simp at hu; rcases hu with rfl | rfl | rfl | rfl <;> rfl) Try.zQueue_impl_Queue (hu.there 0 4 (by simp))
          | i + 9, hi => cases hi
        case hend15 =>
          intro x w9 γ hG hx
          obtain ⟨o, vI9, vD9, vA9, hQ9⟩ := hx 8 (by decide) rfl
          obtain ⟨g1, k1, g2, k2, g3, k3, rfl, rfl, rfl⟩ := hQ9.xs
          have HQ9 := hide hQ9
          have OZ9 := hide hG.z
          have C9 := hide hG.cur
          have O9 := hide hG.out
          have D9 := hide ((Dr.out.done (o := o) hsz).mono (show m - (q + 1) + 1 ≤ m - q by omega))
          clear hG hx hQ9 HG0
          simp only [putAll, Act.put, List.setIfInBounds_toArray, List.set_cons_zero, List.set_cons_succ, Nat.zero_add, Nat.reduceAdd]
          go_wp2
          go_roundw
          case rel => exact ⟨q, _, _, _, _, by omega, by go_num, D9, HQ9, OZ9, C9, O9⟩
          case measure => simp [intOf]
      · have HNQ : Hid (0 ≤ Q.now ∧ Q.now ≤ 1000000) := Dr.out.2.1.2.2.1
        go_wp2
        have HG0 : Hid (GDr w w4 d w1.heap.size n cap a Q (.slice e1 Q.I.length f1) (.slice e2 Q.D.length f2) (.slice e3 Q.A.length f3) false w4.drew) := ⟨O4.out.drew, hc4.out.drew, objU.dr9 OZ4.out, fun _ => HQ4.out.below (Below.drew (Below.refl _ _)), Nat.le_refl _⟩
        have hdw : d < w1.heap.size := by omega
        refine wp_region_inv2 (fun i => if i = 4 then Out d (d + 1) else if i = 7 then OutS [w1.heap.size] else fun u v => Below u.heap.size u v) (fun _ => none) 7 (by decide) (GDr w w4 d w1.heap.size n cap a Q (.slice e1 Q.I.length f1) (.slice e2 Q.D.length f2) (.slice e3 Q.A.length f3)) (FR17 w4 d w1.heap.size Q  (.agg #[.slice e1 Q.I.length f1, .slice e2 Q.D.length f2, .slice e3 Q.A.length f3, .int .i64 Q.now])) (by kernel_rfl) (by kernel_rfl) (by kernel_rfl) ?hF17 ?hU17 ?hG17 ?hstep17 ?hend17
        case hF17 =>
          intro i j γ γ' v wa wb hij hsp hnd hsd h hfr
          have ho := hfr.out
          have KO : ∀ (R : Qu) (vI vD vA : Value), ownQ wa w4.heap.size R vI vD vA → ownQ wb w4.heap.size R vI vD vA := fun R vI vD vA h2 => by
            by_cases e3 : i = 4
            · rw [if_pos e3] at ho; exact h2.outS (outS_of_out ho) (by simp; omega)
            · rw [if_neg e3] at ho
              by_cases e8 : i = 7
              · rw [if_pos e8] at ho; exact h2.outS ho (by simp; omega)
              · rw [if_neg e8] at ho; exact h2.below ho
          match j, h with
          | 0, h => exact h
          | 1, h => exact h
          | 2, h => exact h
          | 3, h => exact h
          | 4, h => exact h
          | 5, h => exact h
          | 6, ⟨o, vI, vD, vA, h1, h2⟩ => exact ⟨o, vI, vD, vA, h1, KO _ _ _ _ h2⟩
          | 7, ⟨o, vI, vD, vA, hx4, h1⟩ =>
            refine ⟨o, vI, vD, vA, hx4, ?_⟩
            by_cases e3 : i = 4
            · rw [if_pos e3] at ho; exact h1.curs ho (by omega) (by omega)
            · rw [if_neg e3, if_neg hij] at ho; exact h1.below ho
          | j + 8, h => exact h.elim
        case hU17 =>
          intro i o hi hd γ v wa h
          match i, hi with
          | 0, hi => (first | exact trivial | (injection hi with hi; subst hi; cases hd))
          | 1, hi => (first | exact trivial | (injection hi with hi; subst hi; cases hd))
          | 2, hi => (first | exact trivial | (injection hi with hi; subst hi; cases hd))
          | 3, hi => (first | exact trivial | (injection hi with hi; subst hi; cases hd))
          | 4, hi => (first | exact trivial | (injection hi with hi; subst hi; cases hd))
          | 5, hi => (first | exact trivial | (injection hi with hi; subst hi; cases hd))
          | 6, hi => (first | exact trivial | (injection hi with hi; subst hi; cases hd))
          | 7, hi => exact h
          | i + 8, hi => cases hi
        case hG17 => exact HG0.out
        case hstep17 =>
          intro i o hi
          match i, hi with
          | 0, hi =>
            injection hi with hi; subst hi
            intro c a1 wn γ hc0 hc1 hG hK hD K hk
            have he1 := hK.at 5 (by kernel_rfl)
            have hq1 := hG.q (hc0 (.inl (by kernel_rfl)))
            have x0 := hq1.o.cell 0 _ rfl
            have x1 := hq1.o.cell 1 _ rfl
            have x2 := hq1.o.cell 2 _ rfl
            have x3 := hq1.o.cell 3 _ rfl
            refine wp_pure (.agg #[.slice e1 Q.I.length f1, .slice e2 Q.D.length f2, .slice e3 Q.A.length f3, .int .i64 Q.now]) ?_ (hk _ _ γ (by rw [if_neg (by decide)]; exact hG) ⟨Below.refl _ _, fun _ _ => rfl⟩ rfl)
            simp [execOp, Act.eval, he1, x0, x1, x2, x3, go_sem]
          | 1, hi =>
            injection hi with hi; subst hi
            intro c a1 wn γ hc0 hc1 hG hK hD K hk
            have he1 := hK.at 5 (by kernel_rfl)
            refine wp_pure (.pointer (some ⟨w1.heap.size, 3, none⟩)) ?_ (hk _ _ γ (by rw [if_neg (by decide)]; exact hG) ⟨Below.refl _ _, fun _ _ => rfl⟩ rfl)
            simp [execOp, Act.eval, he1, go_sem]
          | 2, hi =>
            injection hi with hi; subst hi
            intro c a1 wn γ hc0 hc1 hG hK hD K hk
            have d0 := hD 0 (by decide) (by kernel_rfl) (.inl rfl)
            change a1.tmps.getD 69 undef = .pointer (some ⟨w1.heap.size, 3, none⟩) at d0
            have hq1 := hG.q (hc0 (.inl (by kernel_rfl)))
            have x3 := hq1.o.cell 3 _ rfl
            refine wp_pure (.int .i64 Q.now) ?_ (hk _ _ γ (by rw [if_neg (by decide)]; exact hG) ⟨Below.refl _ _, fun _ _ => rfl⟩ rfl)
            simp [execOp, Act.eval, d0, x3, go_sem]
          | 3, hi =>
            injection hi with hi; subst hi
            intro c a1 wn γ hc0 hc1 hG hK hD K hk
            have he1 := hK.at 0 (by kernel_rfl)
            refine wp_pure (.pointer (some ⟨d, 0, none⟩)) ?_ (hk _ _ γ (by rw [if_neg (by decide)]; exact hG) ⟨Below.refl _ _, fun _ _ => rfl⟩ rfl)
            simp [execOp, Act.eval, he1, go_sem]
          | 4, hi =>
            injection hi with hi; subst hi
            intro c a1 wn γ hc0 hc1 hG hK hD K hk
            have d0 := hD 0 (by decide) (by kernel_rfl) (.inl rfl)
            change a1.tmps.getD 71 undef = .pointer (some ⟨d, 0, none⟩) at d0
            refine wp_call 45 #[.tmp 71, .const (.int .i64 4)] _ rfl (callFunc_enter Try.func45 (by kernel_rfl) (by kernel_rfl)) #[.pointer (some ⟨d, 0, none⟩), .int .i64 ((4 : Nat) : Int)] (by simp only [List.map_toArray, List.map_cons, List.map_nil]; show #[a1.tmps.getD 71 undef, _] = _; rw [d0]; rfl) (l1Below_any d n cap 4 a wn hn (by omega) hG.cur) ?_
            rintro e w' ⟨o, ho4, rfl, hc', ho'⟩
            exact ⟨_, rfl, hk _ w' γ (by rw [if_neg (by decide)]; exact ⟨hG.out.trans ho', hc'.out, hG.z.outS (outS_of_out ho') (by simp; omega), (fun e => (hG.q e).curs ho' (by omega) (by omega)), Nat.le_trans hG.size ho'.size⟩) ⟨ho', fun _ _ => rfl⟩ ⟨o, ho4 (by omega), rfl⟩⟩
          | 5, hi =>
            injection hi with hi; subst hi
            intro c a1 wn γ hc0 hc1 hG hK hD K hk
            have d0 := hD 0 (by decide) (by kernel_rfl) (.inl rfl)
            change a1.tmps.getD 70 undef = .int .i64 Q.now at d0
            have d1 := hD 1 (by decide) (by kernel_rfl) (.inl rfl)
            change ∃ x : Nat, x < 4 ∧ a1.tmps.getD 72 undef = .int .i64 x at d1
            obtain ⟨o, ho4, d1⟩ := d1
            have hwr : IntKind.i64.wrap (Q.now + (o : Nat)) = Q.now + (o : Nat) := uwrap64 _ (by have := HNQ.out; omega) (by have := HNQ.out; omega)
            refine wp_pure (.int .i64 (Q.now + (o : Nat))) ?_ (hk _ _ γ (by rw [if_neg (by decide)]; exact hG) ⟨Below.refl _ _, fun _ _ => rfl⟩ ⟨o, ho4, rfl⟩)
            simp [execOp, Act.eval, d0, d1, hwr, go_sem]
          | 6, hi =>
            injection hi with hi; subst hi
            intro c a1 wn γ hc0 hc1 hG hK hD K hk
            have d0 := hD 0 (by decide) (by kernel_rfl) (.inl rfl)
            change a1.tmps.getD 68 undef = .agg #[.slice e1 Q.I.length f1, .slice e2 Q.D.length f2, .slice e3 Q.A.length f3, .int .i64 Q.now] at d0
            have d1 := hD 1 (by decide) (by kernel_rfl) (.inl rfl)
            change ∃ x : Nat, x < 4 ∧ a1.tmps.getD 73 undef = .int .i64 (Q.now + (x : Nat)) at d1
            obtain ⟨o, ho4, d1⟩ := d1
            have hq1 := hG.q (hc0 (.inl (by kernel_rfl)))
            refine wp_call 142 #[.tmp 68, .tmp 73] _ rfl (callFunc_enter Try.func142 (by kernel_rfl) (by kernel_rfl)) #[.agg #[.slice e1 Q.I.length f1, .slice e2 Q.D.length f2, .slice e3 Q.A.length f3, .int .i64 Q.now], .int .i64 (Q.now + (o : Nat))] (by simp only [List.map_toArray, List.map_cons, List.map_nil]; show #[a1.tmps.getD 68 undef, a1.tmps.getD 73 undef] = _; rw [d0, d1]) (sPass_any Q (Q.now + (o : Nat)) _ wn Dr.out.1 hq1.q.rd) ?_
            rintro e w' ⟨vI', vD', vA', rfl, hq', hb'⟩
            exact ⟨_, rfl, hk _ w' γ (by rw [if_neg (by decide)]; exact ⟨hG.out.trans (Out.of_below hb'), hG.cur.later hb', hG.z.below hb', (fun e => (hG.q e).below hb'), Nat.le_trans hG.size hb'.size⟩) ⟨hb', fun _ _ => rfl⟩ ⟨o, _, _, _, ⟨ho4, rfl⟩, hq'.mono hG.size⟩⟩
          | 7, hi =>
            injection hi with hi; subst hi
            intro c a1 wn γ hc0 hc1 hG hK hD K hk
            have e5 := hK.at 5 (by kernel_rfl)
            have d0 := hD 0 (by decide) (by kernel_rfl) (.inl rfl)
            obtain ⟨o, vI', vD', vA', ⟨ho4, d0⟩, h2⟩ := d0
            change a1.tmps.getD 74 undef = _ at d0
            obtain ⟨g1, k1, rfl⟩ := h2.i.itS
            obtain ⟨g2, k2, rfl⟩ := h2.d.itS
            obtain ⟨g3, k3, rfl⟩ := h2.a.stS
            have hu := (hG.q (hc0 (.inr rfl))).o
            have hQ := QB.ret0 hu (Nat.lt_succ_self _) (by omega) (by omega) h2
            have hO := stQ_out wn w1.heap.size (.slice g1 (passQ Q (Q.now + (o : Nat))).I.length k1) (.slice g2 (passQ Q (Q.now + (o : Nat))).D.length k2) (.slice g3 (passQ Q (Q.now + (o : Nat))).A.length k3) (passQ Q (Q.now + (o : Nat))).now
            refine wp_skip ?_ (hk undef (stQ wn w1.heap.size (.slice g1 (passQ Q (Q.now + (o : Nat))).I.length k1) (.slice g2 (passQ Q (Q.now + (o : Nat))).D.length k2) (.slice g3 (passQ Q (Q.now + (o : Nat))).A.length k3) (passQ Q (Q.now + (o : Nat))).now) γ (by rw [if_pos rfl]; exact ⟨hG.out.outS hO (by simp; omega), hG.cur.far hO hd HCL.out (by simp; omega), hG.z.outS hO (by simp; omega), (fun e => by cases e), Nat.le_trans hG.size hO.size⟩) ⟨hO, fun _ _ => rfl⟩ ⟨o, _, _, _, ho4, hQ⟩)
            exact store_run 66 (.tmp 5) (.tmp 74) rfl e5 d0 [.slice g1 (passQ Q (Q.now + (o : Nat))).I.length k1, .slice g2 (passQ Q (Q.now + (o : Nat))).D.length k2, .slice g3 (passQ Q (Q.now + (o : Nat))).A.length k3, .int .i64 (passQ Q (Q.now + (o : Nat))).now] rfl (by intro u hu; simp at hu; rcases hu with rfl | rfl | rfl | rfl <;> rfl) Try.zQueue_impl_Queue (hu.there 0 4 (by simp))
          | i + 8, hi => cases hi
        case hend17 =>
          intro x w9 γ hG hx
          obtain ⟨o, vI9, vD9, vA9, ho4, hQ9⟩ := hx 7 (by decide) rfl
          obtain ⟨g1, k1, g2, k2, g3, k3, rfl, rfl, rfl⟩ := hQ9.xs
          have HQ9 := hide hQ9
          have OZ9 := hide hG.z
          have C9 := hide hG.cur
          have O9 := hide hG.out
          have D9 := hide ((Dr.out.pass (z := Q.now + (o : Nat)) (by have := HNQ.out; unfold inK; omega) (by omega)).mono (show m - (q + 1) + 1 ≤ m - q by omega))
          clear hG hx hQ9 HG0
          simp only [putAll, Act.put, List.setIfInBounds_toArray, List.set_cons_zero, List.set_cons_succ, Nat.zero_add, Nat.reduceAdd]
          go_wp2
          go_roundw
          case rel => exact ⟨q, _, _, _, _, by omega, by go_num, D9, HQ9, OZ9, C9, O9⟩
          case measure => simp [intOf]
      · by_cases hD0 : 0 < Q.D.length
        · have hD0' : (0 : Int) < (Q.D.length : Int) := by omega
          have hnz : ((Q.D[0]'hD0).1).size ≤ maxLen := (Dr.out.1.2.1.2 _ (List.getElem_mem hD0)).1
          obtain ⟨g, k2, eg, -⟩ := HQ4.out.q.d.opened (by rw [List.length_map]; exact hD0)
          rw [List.length_map] at eg
          cases eg
          go_wp2
          have HG0 : Hid (GDr w w4 d w1.heap.size n cap a Q (.slice e1 Q.I.length f1) (.slice (some ⟨g, 0, none⟩) Q.D.length f2) (.slice e3 Q.A.length f3) false w4.drew) := ⟨O4.out.drew, hc4.out.drew, objU.dr9 OZ4.out, fun _ => HQ4.out.below (Below.drew (Below.refl _ _)), Nat.le_refl _⟩
          have hdw : d < w1.heap.size := by omega
          refine wp_region_inv2 (fun i => if i = 7 then Out d (d + 1) else if i = 12 then OutS [w1.heap.size] else fun u v => Below u.heap.size u v) (fun _ => none) 12 (by decide) (GDr w w4 d w1.heap.size n cap a Q (.slice e1 Q.I.length f1) (.slice (some ⟨g, 0, none⟩) Q.D.length f2) (.slice e3 Q.A.length f3)) (FR8 w4 d w1.heap.size Q (Q.D[0]'hD0).1 g f2 (.agg #[.slice e1 Q.I.length f1, .slice (some ⟨g, 0, none⟩) Q.D.length f2, .slice e3 Q.A.length f3, .int .i64 Q.now])) (by kernel_rfl) (by kernel_rfl) (by kernel_rfl) ?hF8 ?hU8 ?hG8 ?hstep8 ?hend8
          case hF8 =>
            intro i j γ γ' v wa wb hij hsp hnd hsd h hfr
            have ho := hfr.out
            have KO : ∀ (R : Qu) (vI vD vA : Value), ownQ wa w4.heap.size R vI vD vA → ownQ wb w4.heap.size R vI vD vA := fun R vI vD vA h2 => by
              by_cases e3 : i = 7
              · rw [if_pos e3] at ho; exact h2.outS (outS_of_out ho) (by simp; omega)
              · rw [if_neg e3] at ho
                by_cases e8 : i = 12
                · rw [if_pos e8] at ho; exact h2.outS ho (by simp; omega)
                · rw [if_neg e8] at ho; exact h2.below ho
            match j, h with
            | 0, h => exact h
            | 1, h => exact h
            | 2, h => exact h
            | 3, h => exact h
            | 4, h => exact h
            | 5, h => exact h
            | 6, h => exact h
            | 7, h => exact h
            | 8, ⟨o, vI, vD, vA, h1, h2⟩ => exact ⟨o, vI, vD, vA, h1, KO _ _ _ _ h2⟩
            | 9, ⟨o, vI, vD, vA, h1, h2⟩ => exact ⟨o, vI, vD, vA, h1, KO _ _ _ _ h2⟩
            | 10, ⟨o, vI, vD, vA, h1, h2⟩ => exact ⟨o, vI, vD, vA, h1, KO _ _ _ _ h2⟩
            | 11, h => exact h
            | 12, ⟨o, vI, vD, vA, h1⟩ =>
              refine ⟨o, vI, vD, vA, ?_⟩
              by_cases e3 : i = 7
              · rw [if_pos e3] at ho; exact h1.curs ho (by omega) (by omega)
              · rw [if_neg e3, if_neg hij] at ho; exact h1.below ho
            | j + 13, h => exact h.elim
          case hU8 =>
            intro i o hi hd γ v wa h
            match i, hi with
            | 0, hi => (first | exact trivial | (injection hi with hi; subst hi; cases hd))
            | 1, hi => (first | exact trivial | (injection hi with hi; subst hi; cases hd))
            | 2, hi => (first | exact trivial | (injection hi with hi; subst hi; cases hd))
            | 3, hi => (first | exact trivial | (injection hi with hi; subst hi; cases hd))
            | 4, hi => (first | exact trivial | (injection hi with hi; subst hi; cases hd))
            | 5, hi => (first | exact trivial | (injection hi with hi; subst hi; cases hd))
            | 6, hi => (first | exact trivial | (injection hi with hi; subst hi; cases hd))
            | 7, hi => (first | exact trivial | (injection hi with hi; subst hi; cases hd))
            | 8, hi => (first | exact trivial | (injection hi with hi; subst hi; cases hd))
            | 9, hi => (first | exact trivial | (injection hi with hi; subst hi; cases hd))
            | 10, hi => (first | exact trivial | (injection hi with hi; subst hi; cases hd))
            | 11, hi => (first | exact trivial | (injection hi with hi; subst hi; cases hd))
            | 12, hi => exact h
            | i + 13, hi => cases hi
          case hG8 => exact HG0.out
          case hstep8 =>
            intro i o hi
            match i, hi with
            | 0, hi =>
              injection hi with hi; subst hi
              intro c a1 wn γ hc0 hc1 hG hK hD K hk
              have he1 := hK.at 5 (by kernel_rfl)
              have hq1 := hG.q (hc0 (.inl (by kernel_rfl)))
              have x0 := hq1.o.cell 0 _ rfl
              have x1 := hq1.o.cell 1 _ rfl
              have x2 := hq1.o.cell 2 _ rfl
              have x3 := hq1.o.cell 3 _ rfl
              refine wp_pure (.agg #[.slice e1 Q.I.length f1, .slice (some ⟨g, 0, none⟩) Q.D.length f2, .slice e3 Q.A.length f3, .int .i64 Q.now]) ?_ (hk _ _ γ (by rw [if_neg (by decide)]; exact hG) ⟨Below.refl _ _, fun _ _ => rfl⟩ rfl)
              simp [execOp, Act.eval, he1, x0, x1, x2, x3, go_sem]
            | 1, hi =>
              injection hi with hi; subst hi
              intro c a1 wn γ hc0 hc1 hG hK hD K hk
              have he1 := hK.at 5 (by kernel_rfl)
              refine wp_pure (.pointer (some ⟨w1.heap.size, 1, none⟩)) ?_ (hk _ _ γ (by rw [if_neg (by decide)]; exact hG) ⟨Below.refl _ _, fun _ _ => rfl⟩ rfl)
              simp [execOp, Act.eval, he1, go_sem]
            | 2, hi =>
              injection hi with hi; subst hi
              intro c a1 wn γ hc0 hc1 hG hK hD K hk
              have d0 := hD 0 (by decide) (by kernel_rfl) (.inl rfl)
              change a1.tmps.getD 29 undef = .pointer (some ⟨w1.heap.size, 1, none⟩) at d0
              have hq1 := hG.q (hc0 (.inl (by kernel_rfl)))
              have x1 := hq1.o.cell 1 _ rfl
              refine wp_pure (.slice (some ⟨g, 0, none⟩) Q.D.length f2) ?_ (hk _ _ γ (by rw [if_neg (by decide)]; exact hG) ⟨Below.refl _ _, fun _ _ => rfl⟩ rfl)
              simp [execOp, Act.eval, d0, x1, go_sem]
            | 3, hi =>
              injection hi with hi; subst hi
              intro c a1 wn γ hc0 hc1 hG hK hD K hk
              have d0 := hD 0 (by decide) (by kernel_rfl) (.inl rfl)
              change a1.tmps.getD 30 undef = .slice (some ⟨g, 0, none⟩) Q.D.length f2 at d0
              rw [Array.getD_eq_getD_getElem?] at d0
              refine wp_pure (.pointer (some ⟨g, 0, none⟩)) ?_ (hk _ _ γ (by rw [if_neg (by decide)]; exact hG) ⟨Below.refl _ _, fun _ _ => rfl⟩ rfl)
              simp [execOp, Act.eval, d0, hD0, go_sem]
            | 4, hi =>
              injection hi with hi; subst hi
              intro c a1 wn γ hc0 hc1 hG hK hD K hk
              have d0 := hD 0 (by decide) (by kernel_rfl) (.inl rfl)
              change a1.tmps.getD 31 undef = .pointer (some ⟨g, 0, none⟩) at d0
              refine wp_pure (.pointer (some ⟨g, 0, none⟩)) ?_ (hk _ _ γ (by rw [if_neg (by decide)]; exact hG) ⟨Below.refl _ _, fun _ _ => rfl⟩ rfl)
              simp [execOp, Act.eval, d0, go_sem]
            | 5, hi =>
              injection hi with hi; subst hi
              intro c a1 wn γ hc0 hc1 hG hK hD K hk
              have d0 := hD 0 (by decide) (by kernel_rfl) (.inl rfl)
              change a1.tmps.getD 32 undef = .pointer (some ⟨g, 0, none⟩) at d0
              have hq1 := hG.q (hc0 (.inl (by kernel_rfl)))
              obtain ⟨g', o', e6, -, c6, -, -⟩ := (hq1.q.d.rd (by decide)).itAt hD0
              cases e6
              rw [Nat.zero_mul, Nat.add_zero] at c6
              refine wp_pure (.string (Q.D[0]'hD0).1) ?_ (hk _ _ γ (by rw [if_neg (by decide)]; exact hG) ⟨Below.refl _ _, fun _ _ => rfl⟩ rfl)
              simp [execOp, Act.eval, d0, c6, go_sem]
            | 6, hi =>
              injection hi with hi; subst hi
              intro c a1 wn γ hc0 hc1 hG hK hD K hk
              have he1 := hK.at 0 (by kernel_rfl)
              refine wp_pure (.pointer (some ⟨d, 0, none⟩)) ?_ (hk _ _ γ (by rw [if_neg (by decide)]; exact hG) ⟨Below.refl _ _, fun _ _ => rfl⟩ rfl)
              simp [execOp, Act.eval, he1, go_sem]
            | 7, hi =>
              injection hi with hi; subst hi
              intro c a1 wn γ hc0 hc1 hG hK hD K hk
              have d0 := hD 0 (by decide) (by kernel_rfl) (.inl rfl)
              change a1.tmps.getD 34 undef = .pointer (some ⟨d, 0, none⟩) at d0
              refine wp_call 47 #[.tmp 34, .const (.int .i64 3)] _ rfl (callFunc_enter Try.func47 (by kernel_rfl) (by kernel_rfl)) #[.pointer (some ⟨d, 0, none⟩), .int .i64 ((3 : Nat) : Int)] (by simp only [List.map_toArray, List.map_cons, List.map_nil]; show #[a1.tmps.getD 34 undef, _] = _; rw [d0]; rfl) (l1Once_any d n cap 3 a wn hn (by omega) hG.cur) ?_
              rintro e w' ⟨o, rfl, hc', ho'⟩
              exact ⟨_, rfl, hk _ w' γ (by rw [if_neg (by decide)]; exact ⟨hG.out.trans ho', hc'.out, hG.z.outS (outS_of_out ho') (by simp; omega), (fun e => (hG.q e).curs ho' (by omega) (by omega)), Nat.le_trans hG.size ho'.size⟩) ⟨ho', fun _ _ => rfl⟩ ⟨o, rfl⟩⟩
            | 8, hi =>
              injection hi with hi; subst hi
              intro c a1 wn γ hc0 hc1 hG hK hD K hk
              have d0 := hD 0 (by decide) (by kernel_rfl) (.inl rfl)
              change a1.tmps.getD 28 undef = .agg #[.slice e1 Q.I.length f1, .slice (some ⟨g, 0, none⟩) Q.D.length f2, .slice e3 Q.A.length f3, .int .i64 Q.now] at d0
              have d1 := hD 1 (by decide) (by kernel_rfl) (.inl rfl)
              change a1.tmps.getD 33 undef = .string (Q.D[0]'hD0).1 at d1
              have d2 := hD 2 (by decide) (by kernel_rfl) (.inl rfl)
              change ∃ o : Bool, a1.tmps.getD 35 undef = .bool o at d2
              obtain ⟨o, d2⟩ := d2
              have hq1 := hG.q (hc0 (.inl (by kernel_rfl)))
              refine wp_call 141 #[.tmp 28, .tmp 33, .tmp 35] _ rfl (callFunc_enter Try.func141 (by kernel_rfl) (by kernel_rfl)) #[.agg #[.slice e1 Q.I.length f1, .slice (some ⟨g, 0, none⟩) Q.D.length f2, .slice e3 Q.A.length f3, .int .i64 Q.now], .string (Q.D[0]'hD0).1, .bool o] (by simp only [List.map_toArray, List.map_cons, List.map_nil]; show #[a1.tmps.getD 28 undef, a1.tmps.getD 33 undef, a1.tmps.getD 35 undef] = _; rw [d0, d1, d2]) (sDone_any Q (Q.D[0]'hD0).1 o _ wn Dr.out.1 hnz hq1.q.rd) ?_
              rintro e w' ⟨vI', vD', vA', rfl, hq', hb'⟩
              exact ⟨_, rfl, hk _ w' γ (by rw [if_neg (by decide)]; exact ⟨hG.out.trans (Out.of_below hb'), hG.cur.later hb', hG.z.below hb', (fun e => (hG.q e).below hb'), Nat.le_trans hG.size hb'.size⟩) ⟨hb', fun _ _ => rfl⟩ ⟨o, _, _, _, rfl, hq'.mono hG.size⟩⟩
            | 9, hi =>
              injection hi with hi; subst hi
              intro c a1 wn γ hc0 hc1 hG hK hD K hk
              have d0 := hD 0 (by decide) (by kernel_rfl) (.inl rfl)
              obtain ⟨o, vI', vD', vA', d0, h2⟩ := d0
              change a1.tmps.getD 36 undef = _ at d0
              refine wp_pure _ ?_ (hk _ _ γ (by rw [if_neg (by decide)]; exact hG) ⟨Below.refl _ _, fun _ _ => rfl⟩ ⟨o, vI', vD', vA', rfl, h2⟩)
              simp [execOp, Act.eval, d0, go_sem]
            | 10, hi =>
              injection hi with hi; subst hi
              intro c a1 wn γ hc0 hc1 hG hK hD K hk
              have d0 := hD 0 (by decide) (by kernel_rfl) (.inl rfl)
              obtain ⟨o, vI', vD', vA', d0, h2⟩ := d0
              change a1.tmps.getD 27 undef = _ at d0
              refine wp_pure _ ?_ (hk _ _ γ (by rw [if_neg (by decide)]; exact hG) ⟨Below.refl _ _, fun _ _ => rfl⟩ ⟨o, vI', vD', vA', rfl, h2⟩)
              simp [execOp, Act.eval, d0, go_sem]
            | 11, hi =>
              injection hi with hi; subst hi
              intro c a1 wn γ hc0 hc1 hG hK hD K hk
              have d0 := hD 0 (by decide) (by kernel_rfl) (.inl rfl)
              obtain ⟨o, vI', vD', vA', d0, h2⟩ := d0
              change a1.tmps.getD 27 undef = _ at d0
              refine wp_pure (.bool (doneQ Q (Q.D[0]'hD0).1 o).2) ?_ (hk _ _ γ (by rw [if_neg (by decide)]; exact hG) ⟨Below.refl _ _, fun _ _ => rfl⟩ trivial)
              simp [execOp, Act.eval, d0, go_sem]
            | 12, hi =>
              injection hi with hi; subst hi
              intro c a1 wn γ hc0 hc1 hG hK hD K hk
              have e5 := hK.at 5 (by kernel_rfl)
              have d0 := hD 0 (by decide) (by kernel_rfl) (.inl rfl)
              obtain ⟨o, vI', vD', vA', d0, h2⟩ := d0
              change a1.tmps.getD 37 undef = _ at d0
              obtain ⟨g1, k1, rfl⟩ := h2.i.itS
              obtain ⟨g2, k2, rfl⟩ := h2.d.itS
              obtain ⟨g3, k3, rfl⟩ := h2.a.stS
              have hu := (hG.q (hc0 (.inr rfl))).o
              have hQ := QB.ret0 hu (Nat.lt_succ_self _) (by omega) (by omega) h2
              have hO := stQ_out wn w1.heap.size (.slice g1 ((doneQ Q (Q.D[0]'hD0).1 o).1).I.length k1) (.slice g2 ((doneQ Q (Q.D[0]'hD0).1 o).1).D.length k2) (.slice g3 ((doneQ Q (Q.D[0]'hD0).1 o).1).A.length k3) ((doneQ Q (Q.D[0]'hD0).1 o).1).now
              refine wp_skip ?_ (hk undef (stQ wn w1.heap.size (.slice g1 ((doneQ Q (Q.D[0]'hD0).1 o).1).I.length k1) (.slice g2 ((doneQ Q (Q.D[0]'hD0).1 o).1).D.length k2) (.slice g3 ((doneQ Q (Q.D[0]'hD0).1 o).1).A.length k3) ((doneQ Q (Q.D[0]'hD0).1 o).1).now) γ (by rw [if_pos rfl]; exact ⟨hG.out.outS hO (by simp; omega), hG.cur.far hO hd HCL.out (by simp; omega), hG.z.outS hO (by simp; omega), (fun e => by cases e), Nat.le_trans hG.size hO.size⟩) ⟨hO, fun _ _ => rfl⟩ ⟨o, _, _, _, hQ⟩)
              exact store_run 66 (.tmp 5) (.tmp 37) rfl e5 d0 [.slice g1 ((doneQ Q (Q.D[0]'hD0).1 o).1).I.length k1, .slice g2 ((doneQ Q (Q.D[0]'hD0).1 o).1).D.length k2, .slice g3 ((doneQ Q (Q.D[0]'hD0).1 o).1).A.length k3, .int .i64 ((doneQ Q (Q.D[0]'hD0).1 o).1).now] rfl (by intro u hu; simp at hu; rcases hu with rfl | rfl | rfl | rfl <;> rfl) Try.zQueue_impl_Queue (hu.there 0 4 (by simp))
            | i + 13, hi => cases hi
          case hend8 =>
            intro x w9 γ hG hx
            obtain ⟨o, vI9, vD9, vA9, hQ9⟩ := hx 12 (by decide) rfl
            obtain ⟨g1, k1, g2, k2, g3, k3, rfl, rfl, rfl⟩ := hQ9.xs
            have HQ9 := hide hQ9
            have OZ9 := hide hG.z
            have C9 := hide hG.cur
            have O9 := hide hG.out
            have D9 := hide ((Dr.out.done (o := o) hnz).mono (show m - (q + 1) + 1 ≤ m - q by omega))
            clear hG hx hQ9 HG0
            simp only [putAll, Act.put, List.setIfInBounds_toArray, List.set_cons_zero, List.set_cons_succ, Nat.zero_add, Nat.reduceAdd]
            go_wp2
            go_roundw
            case rel => exact ⟨q, _, _, _, _, by omega, by go_num, D9, HQ9, OZ9, C9, O9⟩
            case measure => simp [intOf]
        · have hD0' : ¬ (0 : Int) < (Q.D.length : Int) := by omega
          have D9 := hide (Dr.out.mono (show m - (q + 1) ≤ m - q by omega))
          go_wp2
          go_roundw
          case rel => exact ⟨q, _, _, _, _, by omega, by go_num, D9, HQ4, OZ4, hc4, O4⟩
          case measure => simp [intOf]
end Go.Proofs.Ytpmhmcekkppbhaa
