/- Objects copied by the program: impl.copyOfObj. -/
import Derived.Test.YtamlgjmboljcdaaGreatCpyA
import Derived.Test.YtamlgjmboljcdaaGreatUTObja
namespace Go.Proofs.YtamlgjmboljcdaaGreat
open Go.RowKit Go.BigFrame
set_option linter.unusedVariables false

theorem step_load_row {P : Program} {w : World} {ops : Array Oper} {o : Oper} {a : Act} {K : Act → World → Prop} {Q : Exit → Act → World → Prop} {E : Prop} (hw : Region.wanted o (yielded ops a.tmps) = true) (t : TypeId) (x : Operand) (ho : o.op = .load t x)
    (b j : Nat) (hx : a.eval x = .pointer (some ⟨b, j, none⟩)) (ys : List Value) (hu : (P.underlying t).map TypeDesc.isRow = some true) (hi : (P.info? t).map (·.size) = some ys.length) (hr : w.rangeAt b j ys) (h : K (a.put o.dst (.agg ys.toArray)) w) : if Region.wanted o (yielded ops a.tmps) = true then Oper.wp P o a w K Q else E := by
  rw [if_pos hw]
  unfold Oper.wp execOp
  simp only [ho, Sem.run_bind, Sem.run_pure, hx, load_row_eq hu hi hr, Result.andThen_ok]
  exact h
theorem step_store_cells {P : Program} {w : World} {ops : Array Oper} {o : Oper} {a : Act} {K : Act → World → Prop} {Q : Exit → Act → World → Prop} {E : Prop} (hw : Region.wanted o (yielded ops a.tmps) = true) (t : TypeId) (x y : Operand) (ho : o.op = .store t x y) (hd : o.dst = none)
    (b j : Nat) (hx : a.eval x = .pointer (some ⟨b, j, none⟩)) (v : Value) (hy : a.eval y = v) (ys : List Value) (hv : v.cells = ys.toArray) (h1 : ∀ u ∈ ys, u.oneCell' = true) (hi : (P.info? t).map (·.size) = some ys.length) (ht : w.there b j ys.length)
    (h : ∀ w', w' = w.setCells b j ys → K (a.put none undef) w') : if Region.wanted o (yielded ops a.tmps) = true then Oper.wp P o a w K Q else E := by
  rw [if_pos hw]
  unfold Oper.wp execOp
  simp only [ho, hx, hy, Sem.run_bind, run_storeAt_cells hv h1 hi ht, Result.andThen_ok]
  have := h _ rfl
  show K (a.put o.dst undef) _
  rw [hd]; exact this
theorem wpList_append_rows {P : Program} {w : World} {ops : Array Oper} {rest : List Oper} {o : Oper} {a : Act} {Q : Exit → Act → World → Prop} (hgd : o.guard = none) (s x : Operand) (t : TypeId)
    (ho : o.op = .call { callee := .builtin .append, args := #[s, x], argTypes := #[t, t] })
    (base : Nat) (e : TypeId) (i : TypeInfo) (z : Value) (size bytes : Nat) (ht : P.underlying t = some (.slice e)) (hi : P.info? e = some i) (hz : i.zero = some z)
    (hsize : i.size = size) (hby : i.bytes = bytes) (hzs : z.cells.size = size) (hsz : 0 < size)
    (v : Value) (n : Nat) (xs : List Value) (hs : a.eval s = v) (hown : w.ownsRow base e size v n xs)
    (xv : Value) (hx : a.eval x = xv) (m : Nat) (news : List Value) (hl : news.length = m * size) (h1 : ∀ u ∈ news, u.oneCell' = true)
    (hsrc : (xv = .slice none 0 0 ∧ m = 0) ∨ ∃ ad c, xv = .slice (some ad) m c ∧ ∀ j u, news[j]? = some u → w.cell? (ad.add j) = some u)
    (h63 : n + m ≤ maxLen) (hbytes : (n + m) * bytes ≤ 140737488355328) (hbase : base ≤ w.heap.size)
    (h : ∀ v' w', w'.ownsRow base e size v' (n + m) (xs ++ news) → w.grownBy w' v.ownBlock → (v'.ownBlock = v.ownBlock ∨ v'.ownBlock = some w.heap.size) → wpList P ops Q rest (a.put o.dst v') w') : wpList P ops Q (o :: rest) a w := by
  refine wpList_plain hgd fun K hK => ?_
  rcases hsrc with ⟨rfl, rfl⟩ | ⟨ad, c, rfl, hnews⟩
  · have hn0 : news = [] := by simpa using hl
    subst hn0
    have hrun := run_append_owned_none (P := P) (w := w) base t o.type e i size ht hi v n xs hown
    have := h v w (by simpa using hown) (World.grownBy.refl w _) (Or.inl rfl)
    unfold Oper.wp
    simp [execOp, ho, resolve, invoke, builtin, hs, hx, hrun, Result.andThen]
    exact hK _ _ this
  · obtain ⟨v', w', hr, h2, h3, _, h5⟩ := run_append_own_at (P := P) w base t o.type e i z size bytes ht hi hz hsize hby hzs hsz v n xs hown ad m c news hl hnews h1 h63 hbytes hbase
    unfold Oper.wp execOp
    simp only [ho, resolve, invoke, builtin, Sem.run_bind, Sem.run_pure, Result.andThen_ok, List.map_toArray, List.map_cons, List.map_nil, hs, hx, hr]
    exact hK _ _ (h v' w' h2 h3 h5)
theorem own_src {w : World} {e : TypeId} {B k n : Nat} {v : Value} {zs : List Value} (h : w.ownsRow B e k v n zs) : (v = .slice none 0 0 ∧ n = 0) ∨ ∃ ad c, v = .slice (some ad) n c ∧ ∀ j u, zs[j]? = some u → w.cell? (ad.add j) = some u := by
  have h0 := h
  rcases h.2 with ⟨rfl, h1⟩ | ⟨g, cap, cur, rfl, _⟩
  · exact .inl ⟨rfl, h1⟩
  · refine .inr ⟨⟨g, 0, none⟩, cap, rfl, fun j u hj => ?_⟩
    have hj2 : j < n * k := by have := (List.getElem?_eq_some_iff.1 hj).1; rw [h0.1] at this; exact this
    rw [Go.WideShapes.add_plain, Nat.zero_add, h0.cellAt j hj2]; exact hj
/-- behind the stores: the struct, the result's cells, all of one's own -/
structure CpEnd (w w7 : World) (T : TypeId) (d : UD) (AX Z : List Value) : Prop where
  box : objU w7 w.heap.size T AX
  res : objU w7 (w.heap.size + 1) T Z
  own : ∃ S, oH w7 d AX S ∧ own2 S (w.heap.size + 2) w7.heap.size
  bel : Below w.heap.size w w7
  ones : ∀ u ∈ AX, u.oneCell' = true
theorem CpEnd.fin {w w7 w8 : World} {T : TypeId} {d : UD} {AX Z : List Value} (h : CpEnd w w7 T d AX Z) (hl : AX.length = Z.length) (e : w8 = w7.setCells (w.heap.size + 1) 0 AX) : objU w8 (w.heap.size + 1) T AX ∧ ∃ S, oH w8 d AX S ∧ own2 S w.heap.size w8.heap.size ∧ Below w.heap.size w w8 := by
  obtain ⟨S, h1, h2⟩ := h.own
  have ho : OutS [w.heap.size + 1] w7 w8 := by subst e; exact OutS.setCells AX 0 w7
  refine ⟨?_, S, h1.outS ho (fun g hg => by have := h2.2 g hg; simp; omega), ⟨h2.1, fun s hs => by have := h2.2 s hs; have := ho.size; omega⟩, h.bel.trans (ho.below (fun t ht => by simp at ht; omega) h.bel.size)⟩
  have := objU.setCells AX Z [] [] w7 (by simpa using h.res) hl.symm
  subst e
  simpa using this
theorem cpobj_end {w W0 w3 w5 w6 w7 : World} {T : TypeId} {Z : List Value} {z0 : Int} {z1 : ByteArray} {z2 z3 z4 : Int} {z5 : Bool} {n6 : Nat} {c6 d7 d8 : UD} {v6 : Value} {x7 x8 : List Value} {S6 T7 T8 : List Nat} {a b c c2 e : Nat}
    (hz : objU W0 (w.heap.size + 1) T Z) (hb : Below w.heap.size w W0) (hsz : w.heap.size + 2 ≤ W0.heap.size) (o6 : oS W0 1 n6 c6 v6 S6) (k6 : ∀ u ∈ [Value.int .i64 z0, .string z1, .int .i64 z2, .int .i64 z3, .int .i64 z4, .bool z5, v6], u.oneCell' = true) (w6' : own2 S6 (w.heap.size + 2) a)
    (k7 : oH w3 d7 x7 T7) (w7' : own2 T7 b c) (k8 : oH w5 d8 x8 T8) (w8' : own2 T8 c2 e) (hab : a ≤ b) (hbc : b ≤ c) (hcc : c ≤ c2) (he : e ≤ w5.heap.size) (hce : c ≤ w5.heap.size) (hae : w.heap.size + 2 ≤ a) (u7 : ∀ u ∈ x7, u.oneCell' = true) (u8 : ∀ u ∈ x8, u.oneCell' = true) (hb5 : Below W0.heap.size W0 w5) (b8 : Below w3.heap.size w3 w5)
    (e6 : OutS [w.heap.size] w5 w6) (e7 : OutS [w.heap.size] w6 w7) (ob : objU w7 w.heap.size T (([Value.int .i64 z0, .string z1, .int .i64 z2, .int .i64 z3, .int .i64 z4, .bool z5, v6] ++ x7) ++ (x8 ++ []))) :
    CpEnd w w7 T (.p (.int .i64 z0) (.p (.string z1) (.p (.int .i64 z2) (.p (.int .i64 z3) (.p (.int .i64 z4) (.p (.bool z5) (.l 1 n6 c6 (UD.app d7 (UD.app d8 UD.nil))))))))) (([Value.int .i64 z0, .string z1, .int .i64 z2, .int .i64 z3, .int .i64 z4, .bool z5, v6] ++ x7) ++ (x8 ++ [])) Z := by
  have e57 : OutS [w.heap.size] w5 w7 := e6.trans e7
  have h35 := b8.size
  have h57 := e57.size
  refine ⟨ob, (hz.below hb5).outS e57 (by simp), ⟨S6 ++ (T7 ++ (T8 ++ [])), ?_, ?_⟩, (hb.trans (hb5.mono hb.size)).trans (e57.below (fun t ht => by simp at ht; omega) (Nat.le_trans hb.size hb5.size)), ?_⟩
  · have q6 : oS w7 1 n6 c6 v6 S6 := (o6.below hb5).frame (fun g hg => e57.block g (Nat.lt_of_lt_of_le (o6.lt g hg) hb5.size) (by have := w6'.2 g hg; simp; omega))
    have q7 : oH w7 d7 x7 T7 := (k7.below b8).outS e57 (fun g hg => by have := w7'.2 g hg; simp; omega)
    have q8 : oH w7 d8 x8 T8 := k8.outS e57 (fun g hg => by have := w8'.2 g hg; have := w8'.2 g hg; simp; omega)
    have := oH.consP (.int .i64 z0) (oH.consP (.string z1) (oH.consP (.int .i64 z2) (oH.consP (.int .i64 z3) (oH.consP (.int .i64 z4) (oH.consP (.bool z5) (oH.consS q6 (oH.app q7 (oH.app q8 (oH.nil w7)))))))))
    simpa using this
  · have e1 := w6'.1
    have e2 := w7'.1
    have e3 := w8'.1
    have f1 := w6'.2
    have f2 := w7'.2
    have f3 := w8'.2
    refine ⟨?_, fun s hs => ?_⟩
    · simp only [List.nodup_append, List.mem_append, List.append_nil]
      refine ⟨e1, ⟨e2, e3, fun a ha b hb => ?_⟩, fun a ha b hb => ?_⟩
      · have := f2 a ha; have := f3 b hb; omega
      · have := f1 a ha
        rcases hb with hb | hb
        · have := f2 b hb; omega
        · have := f3 b hb; omega
    · simp only [List.mem_append, List.append_nil] at hs
      rcases hs with hs | hs | hs
      · have := f1 s hs; have := hb5.size; omega
      · have := f2 s hs; omega
      · have := f3 s hs; omega
  · intro u hu
    simp only [List.mem_append, List.append_nil] at hu
    rcases hu with (hu | hu) | hu
    · exact k6 u hu
    · exact u7 u hu
    · exact u8 u hu
end Go.Proofs.YtamlgjmboljcdaaGreat
