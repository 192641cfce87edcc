/- Texts of one claim, joined: each in its own section, in build order. -/
import Derived.Test.YtdnodaoeflbfkaaGreatJ3
import Derived.Test.YtdnodaoeflbfkaaGreatJ1
import Derived.Laws.AppendOwnNone
import Derived.Maps.AppendAt
import Derived.Deep.RegionHeld3
import Derived.Deep.CutRange
import Derived.OwnWalk
import Derived.Test.YtdnodaoeflbfkaaGreatJ2
import Derived.Test.YtdnodaoeflbfkaaGreatChecked
import Derived.RangeFuncNested
import Derived.RangeFuncBound
import Derived.RangeFuncCalls
import Derived.RangeFuncLeaves
import Derived.Shelf.Abstract
import Derived.Shelf.RegionOpen
import Derived.WalkKit
import Derived.OwnWalkIn
import Derived.TacticsInMore
import Derived.LoopNIn
import Derived.LoopIn
/- Objects copied by the program: impl.copyOfObj. -/
namespace Go.Proofs.YtdnodaoeflbfkaaGreat
open Go.RowKit Go.BigFrame
set_option linter.unusedVariables false

theorem step_load_row {P : Program} {w : World} {ops : Array Oper} {o : Oper} {a : Act} {K : Act → World → Prop} {Q : Exit → Act → World → Prop} {E : Prop} (hw : Region.wanted o (yielded ops a.tmps) = true) (t : TypeId) (x : Operand) (ho : o.op = .load t x)
    (b j : Nat) (hx : a.eval x = .pointer (some ⟨b, j, none⟩)) (ys : List Value) (hu : (P.underlying t).map TypeDesc.isRow = some true) (hi : (P.info? t).map (·.size) = some ys.length) (hr : w.rangeAt b j ys) (h : K (a.put o.dst (.agg ys.toArray)) w) : if Region.wanted o (yielded ops a.tmps) = true then Oper.wp P o a w K Q else E := by
  rw [if_pos hw]
  unfold Oper.wp execOp
  simp only [ho, Sem.run_bind, Sem.run_pure, hx, load_row_eq hu hi hr, Result.andThen_ok]
  exact h
theorem step_store_cells {P : Program} {w : World} {ops : Array Oper} {o : Oper} {a : Act} {K : Act → World → Prop} {Q : Exit → Act → World → Prop} {E : Prop} (hw : Region.wanted o (yielded ops a.tmps) = true) (t : TypeId) (x y : Operand) (ho : o.op = .store t x y) (hd : o.dst = none)
    (b j : Nat) (hx : a.eval x = .pointer (some ⟨b, j, none⟩)) (v : Value) (hy : a.eval y = v) (ys : List Value) (hv : v.cells = ys.toArray) (h1 : ∀ u ∈ ys, u.oneCell' = true) (hi : (P.info? t).map (·.size) = some ys.length) (ht : w.there b j ys.length)
    (h : ∀ w', w' = w.setCells b j ys → K (a.put none undef) w') : if Region.wanted o (yielded ops a.tmps) = true then Oper.wp P o a w K Q else E := by
  rw [if_pos hw]
  unfold Oper.wp execOp
  simp only [ho, hx, hy, Sem.run_bind, run_storeAt_cells hv h1 hi ht, Result.andThen_ok]
  have := h _ rfl
  show K (a.put o.dst undef) _
  rw [hd]; exact this
theorem wpList_append_rows {P : Program} {w : World} {ops : Array Oper} {rest : List Oper} {o : Oper} {a : Act} {Q : Exit → Act → World → Prop} (hgd : o.guard = none) (s x : Operand) (t : TypeId)
    (ho : o.op = .call { callee := .builtin .append, args := #[s, x], argTypes := #[t, t] })
    (base : Nat) (e : TypeId) (i : TypeInfo) (z : Value) (size bytes : Nat) (ht : P.underlying t = some (.slice e)) (hi : P.info? e = some i) (hz : i.zero = some z)
    (hsize : i.size = size) (hby : i.bytes = bytes) (hzs : z.cells.size = size) (hsz : 0 < size)
    (v : Value) (n : Nat) (xs : List Value) (hs : a.eval s = v) (hown : w.ownsRow base e size v n xs)
    (xv : Value) (hx : a.eval x = xv) (m : Nat) (news : List Value) (hl : news.length = m * size) (h1 : ∀ u ∈ news, u.oneCell' = true)
    (hsrc : (xv = .slice none 0 0 ∧ m = 0) ∨ ∃ ad c, xv = .slice (some ad) m c ∧ ∀ j u, news[j]? = some u → w.cell? (ad.add j) = some u)
    (h63 : n + m ≤ maxLen) (hbytes : (n + m) * bytes ≤ 140737488355328) (hbase : base ≤ w.heap.size)
    (h : ∀ v' w', w'.ownsRow base e size v' (n + m) (xs ++ news) → w.grownBy w' v.ownBlock → (v'.ownBlock = v.ownBlock ∨ v'.ownBlock = some w.heap.size) → wpList P ops Q rest (a.put o.dst v') w') : wpList P ops Q (o :: rest) a w := by
  refine wpList_plain hgd fun K hK => ?_
  rcases hsrc with ⟨rfl, rfl⟩ | ⟨ad, c, rfl, hnews⟩
  · have hn0 : news = [] := by simpa using hl
    subst hn0
    have hrun := run_append_owned_none (P := P) (w := w) base t o.type e i size ht hi v n xs hown
    have := h v w (by simpa using hown) (World.grownBy.refl w _) (Or.inl rfl)
    unfold Oper.wp
    simp [execOp, ho, resolve, invoke, builtin, hs, hx, hrun, Result.andThen]
    exact hK _ _ this
  · obtain ⟨v', w', hr, h2, h3, _, h5⟩ := run_append_own_at (P := P) w base t o.type e i z size bytes ht hi hz hsize hby hzs hsz v n xs hown ad m c news hl hnews h1 h63 hbytes hbase
    unfold Oper.wp execOp
    simp only [ho, resolve, invoke, builtin, Sem.run_bind, Sem.run_pure, Result.andThen_ok, List.map_toArray, List.map_cons, List.map_nil, hs, hx, hr]
    exact hK _ _ (h v' w' h2 h3 h5)
theorem own_src {w : World} {e : TypeId} {B k n : Nat} {v : Value} {zs : List Value} (h : w.ownsRow B e k v n zs) : (v = .slice none 0 0 ∧ n = 0) ∨ ∃ ad c, v = .slice (some ad) n c ∧ ∀ j u, zs[j]? = some u → w.cell? (ad.add j) = some u := by
  have h0 := h
  rcases h.2 with ⟨rfl, h1⟩ | ⟨g, cap, cur, rfl, _⟩
  · exact .inl ⟨rfl, h1⟩
  · refine .inr ⟨⟨g, 0, none⟩, cap, rfl, fun j u hj => ?_⟩
    have hj2 : j < n * k := by have := (List.getElem?_eq_some_iff.1 hj).1; rw [h0.1] at this; exact this
    rw [Go.WideShapes.add_plain, Nat.zero_add, h0.cellAt j hj2]; exact hj
/-- behind the stores: the struct, the result's cells, all of one's own -/
structure CpEnd (w w7 : World) (T : TypeId) (d : UD) (AX Z : List Value) : Prop where
  box : objU w7 w.heap.size T AX
  res : objU w7 (w.heap.size + 1) T Z
  own : ∃ S, oH w7 d AX S ∧ own2 S (w.heap.size + 2) w7.heap.size
  bel : Below w.heap.size w w7
  ones : ∀ u ∈ AX, u.oneCell' = true
theorem CpEnd.fin {w w7 w8 : World} {T : TypeId} {d : UD} {AX Z : List Value} (h : CpEnd w w7 T d AX Z) (hl : AX.length = Z.length) (e : w8 = w7.setCells (w.heap.size + 1) 0 AX) : objU w8 (w.heap.size + 1) T AX ∧ ∃ S, oH w8 d AX S ∧ own2 S w.heap.size w8.heap.size ∧ Below w.heap.size w w8 := by
  obtain ⟨S, h1, h2⟩ := h.own
  have ho : OutS [w.heap.size + 1] w7 w8 := by subst e; exact OutS.setCells AX 0 w7
  refine ⟨?_, S, h1.outS ho (fun g hg => by have := h2.2 g hg; simp; omega), ⟨h2.1, fun s hs => by have := h2.2 s hs; have := ho.size; omega⟩, h.bel.trans (ho.below (fun t ht => by simp at ht; omega) h.bel.size)⟩
  have := objU.setCells AX Z [] [] w7 (by simpa using h.res) hl.symm
  subst e
  simpa using this
theorem cpobj_end {w W0 w3 w5 w6 w7 : World} {T : TypeId} {Z : List Value} {z0 : Int} {z1 : ByteArray} {z2 z3 z4 : Int} {z5 : Bool} {n6 : Nat} {c6 d7 d8 : UD} {v6 : Value} {x7 x8 : List Value} {S6 T7 T8 : List Nat} {a b c c2 e : Nat}
    (hz : objU W0 (w.heap.size + 1) T Z) (hb : Below w.heap.size w W0) (hsz : w.heap.size + 2 ≤ W0.heap.size) (o6 : oS W0 1 n6 c6 v6 S6) (k6 : ∀ u ∈ [Value.int .i64 z0, .string z1, .int .i64 z2, .int .i64 z3, .int .i64 z4, .bool z5, v6], u.oneCell' = true) (w6' : own2 S6 (w.heap.size + 2) a)
    (k7 : oH w3 d7 x7 T7) (w7' : own2 T7 b c) (k8 : oH w5 d8 x8 T8) (w8' : own2 T8 c2 e) (hab : a ≤ b) (hbc : b ≤ c) (hcc : c ≤ c2) (he : e ≤ w5.heap.size) (hce : c ≤ w5.heap.size) (hae : w.heap.size + 2 ≤ a) (u7 : ∀ u ∈ x7, u.oneCell' = true) (u8 : ∀ u ∈ x8, u.oneCell' = true) (hb5 : Below W0.heap.size W0 w5) (b8 : Below w3.heap.size w3 w5)
    (e6 : OutS [w.heap.size] w5 w6) (e7 : OutS [w.heap.size] w6 w7) (ob : objU w7 w.heap.size T (([Value.int .i64 z0, .string z1, .int .i64 z2, .int .i64 z3, .int .i64 z4, .bool z5, v6] ++ x7) ++ (x8 ++ []))) :
    CpEnd w w7 T (.p (.int .i64 z0) (.p (.string z1) (.p (.int .i64 z2) (.p (.int .i64 z3) (.p (.int .i64 z4) (.p (.bool z5) (.l 1 n6 c6 (UD.app d7 (UD.app d8 UD.nil))))))))) (([Value.int .i64 z0, .string z1, .int .i64 z2, .int .i64 z3, .int .i64 z4, .bool z5, v6] ++ x7) ++ (x8 ++ [])) Z := by
  have e57 : OutS [w.heap.size] w5 w7 := e6.trans e7
  have h35 := b8.size
  have h57 := e57.size
  refine ⟨ob, (hz.below hb5).outS e57 (by simp), ⟨S6 ++ (T7 ++ (T8 ++ [])), ?_, ?_⟩, (hb.trans (hb5.mono hb.size)).trans (e57.below (fun t ht => by simp at ht; omega) (Nat.le_trans hb.size hb5.size)), ?_⟩
  · have q6 : oS w7 1 n6 c6 v6 S6 := (o6.below hb5).frame (fun g hg => e57.block g (Nat.lt_of_lt_of_le (o6.lt g hg) hb5.size) (by have := w6'.2 g hg; simp; omega))
    have q7 : oH w7 d7 x7 T7 := (k7.below b8).outS e57 (fun g hg => by have := w7'.2 g hg; simp; omega)
    have q8 : oH w7 d8 x8 T8 := k8.outS e57 (fun g hg => by have := w8'.2 g hg; have := w8'.2 g hg; simp; omega)
    have := oH.consP (.int .i64 z0) (oH.consP (.string z1) (oH.consP (.int .i64 z2) (oH.consP (.int .i64 z3) (oH.consP (.int .i64 z4) (oH.consP (.bool z5) (oH.consS q6 (oH.app q7 (oH.app q8 (oH.nil w7)))))))))
    simpa using this
  · have e1 := w6'.1
    have e2 := w7'.1
    have e3 := w8'.1
    have f1 := w6'.2
    have f2 := w7'.2
    have f3 := w8'.2
    refine ⟨?_, fun s hs => ?_⟩
    · simp only [List.nodup_append, List.mem_append, List.append_nil]
      refine ⟨e1, ⟨e2, e3, fun a ha b hb => ?_⟩, fun a ha b hb => ?_⟩
      · have := f2 a ha; have := f3 b hb; omega
      · have := f1 a ha
        rcases hb with hb | hb
        · have := f2 b hb; omega
        · have := f3 b hb; omega
    · simp only [List.mem_append, List.append_nil] at hs
      rcases hs with hs | hs | hs
      · have := f1 s hs; have := hb5.size; omega
      · have := f2 s hs; omega
      · have := f3 s hs; omega
  · intro u hu
    simp only [List.mem_append, List.append_nil] at hu
    rcases hu with (hu | hu) | hu
    · exact k6 u hu
    · exact u7 u hu
    · exact u8 u hu
end Go.Proofs.YtdnodaoeflbfkaaGreat
/- Objects copied by the program: impl.copyOfObj, walked. -/
namespace Go.Proofs.YtdnodaoeflbfkaaGreat
open Go.RowKit Go.BigFrame
set_option linter.unusedVariables false
set_option linter.unusedSimpArgs false

set_option maxRecDepth 40000 in
set_option maxHeartbeats 3200000 in
theorem copyOfObj_N (d : UD) (xs : List Value) (S : List Nat) (w : World) (ht : tyL d (uE 8)) (hwt : wt d ≤ 1048576) (hx : oH w d xs S) (hS : S.Nodup) :
    Calls Tryz.prog 176 #[.agg xs.toArray] w fun e w' => copied w w' d e := by
  replace ht : tyL d [.i .i64, .s, .i .i64, .i .i64, .i .i64, .b, .l 1 0, .i .i64, .s, .i .i64, .l 1 0, .l 5 6, .i .i64, .s, .i .i64, .l 1 0, .l 5 6] := ht
  obtain ⟨z0, _, rfl, g0, h0⟩ := tyL.i ht
  obtain ⟨z1, _, rfl, g1, h1⟩ := tyL.s h0
  clear h0
  obtain ⟨z2, _, rfl, g2, h2⟩ := tyL.i h1
  clear h1
  obtain ⟨z3, _, rfl, g3, h3⟩ := tyL.i h2
  clear h2
  obtain ⟨z4, _, rfl, g4, h4⟩ := tyL.i h3
  clear h3
  obtain ⟨z5, _, rfl, h5⟩ := tyL.b h4
  clear h4
  obtain ⟨n6, c6, _, rfl, g6, h6⟩ := tyL.l h5
  clear h5
  obtain ⟨d7, _, rfl, g7, h7⟩ := tyL.split (f1 := uE 6) (f2 := [.i .i64, .s, .i .i64, .l 1 0, .l 5 6]) h6
  clear h6
  obtain ⟨d8, _, rfl, g8, h8⟩ := tyL.split (f1 := uE 6) (f2 := []) h7
  clear h7
  obtain rfl := tyL.nil h8
  clear h8 ht
  obtain ⟨_, rfl, h0⟩ := hx
  obtain ⟨_, rfl, h1⟩ := h0
  obtain ⟨_, rfl, h2⟩ := h1
  obtain ⟨_, rfl, h3⟩ := h2
  obtain ⟨_, rfl, h4⟩ := h3
  obtain ⟨_, rfl, h5⟩ := h4
  obtain ⟨u6, _, S6i, Sr, rfl, rfl, hk6, ⟨e6, zs6, o6, m6⟩, h6⟩ := h5
  obtain ⟨y7, _, S7, _, rfl, rfl, h7, h9⟩ := oH.split h6
  obtain ⟨y8, _, S8, _, rfl, rfl, h8, ⟨rfl, rfl⟩⟩ := oH.split h9
  clear h9
  have l7 : y7.length = 5 := h7.len.trans (tyL.len g7)
  have l8 : y8.length = 5 := h8.len.trans (tyL.len g8)
  simp only [wt, wtP, wt_app] at hwt
  obtain ⟨a6, p6, rfl⟩ := uowns_slice o6
  have hn6 : n6 ≤ 1048576 := by omega
  have hS7 : S7.Nodup := by simp only [List.nodup_append] at hS; exact hS.2.1.1
  have hS8 : S8.Nodup := by simp only [List.nodup_append] at hS; exact hS.2.1.2.1.1
  have hone6 : ∀ u ∈ zs6, u.oneCell' = true := oH.ones g6.2.2.2.2 m6
  obtain ⟨j0, hj0, hj1, hj2, hj3⟩ := infoCpS
  have HC7 : Hid (∀ wx, Below w.heap.size w wx → Calls Tryz.prog 217 #[.agg y7.toArray] wx fun e w' => ∃ ys T, e = .returned (.agg ys.toArray) ∧ ys.length = 5 ∧ Hid (oH w' d7 ys T) ∧ Hid (own2 T wx.heap.size w'.heap.size) ∧ Hid (∀ u ∈ ys, u.oneCell' = true) ∧ Hid (Below wx.heap.size wx w')) := fun wx hb => (copyOfAny_N d7 y7 S7 wx g7 (by omega) (h7.below hb) hS7).mono fun e w' ⟨ys, T, q1, q2, q3, q4⟩ => ⟨ys, T, q1, q2.len.trans (tyL.len g7), q2, q3, ones_own g7 q2, q4⟩
  have HC8 : Hid (∀ wx, Below w.heap.size w wx → Calls Tryz.prog 217 #[.agg y8.toArray] wx fun e w' => ∃ ys T, e = .returned (.agg ys.toArray) ∧ ys.length = 5 ∧ Hid (oH w' d8 ys T) ∧ Hid (own2 T wx.heap.size w'.heap.size) ∧ Hid (∀ u ∈ ys, u.oneCell' = true) ∧ Hid (Below wx.heap.size wx w')) := fun wx hb => (copyOfAny_N d8 y8 S8 wx g8 (by omega) (h8.below hb) hS8).mono fun e w' ⟨ys, T, q1, q2, q3, q4⟩ => ⟨ys, T, q1, q2.len.trans (tyL.len g8), q2, q3, ones_own g8 q2, q4⟩
  have O6 := uhide o6
  have M6 := uhide m6
  have H6 := uhide hone6
  have G6 := uhide g6
  have HY7 := uhide l7
  have HY8 := uhide l8
  have U7 : Hid (∀ u ∈ y7, u.oneCell' = true) := ones_own g7 h7
  have U8 : Hid (∀ u ∈ y8, u.oneCell' = true) := ones_own g8 h8
  have HL7 : Hid (∀ x : List Value, x.length = 5 → (Tryz.prog.info? 90).map (·.size) = some x.length) := fun x h => by rw [h]; exact Tryz.zObj_impl_Value
  clear o6 m6 hone6 g6 h6 h7 h8 g7 g8 hS hS7 hS8 hwt l7 l8
  obtain ⟨AX, hAX⟩ : ∃ AX : List Value, AX = (Value.int .i64 z0 :: (Value.string z1 :: (Value.int .i64 z2 :: (Value.int .i64 z3 :: (Value.int .i64 z4 :: (Value.bool z5 :: (Value.slice a6 n6 p6 :: (y7 ++ (y8 ++ []))))))))) := ⟨_, rfl⟩
  rw [← hAX]
  have BX : Hid (Below w.heap.size w ((w.alloc (.cells AX.toArray 138)).alloc (.cells [.int .i64 0, .string ⟨#[]⟩, .int .i64 0, .int .i64 0, .int .i64 0, .bool false, .slice none 0 0, .int .i64 0, .string ⟨#[]⟩, .int .i64 0, .slice none 0 0, .slice none 0 0, .int .i64 0, .string ⟨#[]⟩, .int .i64 0, .slice none 0 0, .slice none 0 0].toArray 138))) := ((Below.refl _ _).alloc (Nat.le_refl _) _).alloc (by simp) _
  have OBX : Hid (objU ((w.alloc (.cells AX.toArray 138)).alloc (.cells [.int .i64 0, .string ⟨#[]⟩, .int .i64 0, .int .i64 0, .int .i64 0, .bool false, .slice none 0 0, .int .i64 0, .string ⟨#[]⟩, .int .i64 0, .slice none 0 0, .slice none 0 0, .int .i64 0, .string ⟨#[]⟩, .int .i64 0, .slice none 0 0, .slice none 0 0].toArray 138)) w.heap.size 138 AX) := (objU.new _ _ _).old _
  have OZX : Hid (objU ((w.alloc (.cells AX.toArray 138)).alloc (.cells [.int .i64 0, .string ⟨#[]⟩, .int .i64 0, .int .i64 0, .int .i64 0, .bool false, .slice none 0 0, .int .i64 0, .string ⟨#[]⟩, .int .i64 0, .slice none 0 0, .slice none 0 0, .int .i64 0, .string ⟨#[]⟩, .int .i64 0, .slice none 0 0, .slice none 0 0].toArray 138)) (w.heap.size + 1) 138 [.int .i64 0, .string ⟨#[]⟩, .int .i64 0, .int .i64 0, .int .i64 0, .bool false, .slice none 0 0, .int .i64 0, .string ⟨#[]⟩, .int .i64 0, .slice none 0 0, .slice none 0 0, .int .i64 0, .string ⟨#[]⟩, .int .i64 0, .slice none 0 0, .slice none 0 0]) := objU.new2 _ _ (by simp)
  have C6 : Hid (((w.alloc (.cells AX.toArray 138)).alloc (.cells [.int .i64 0, .string ⟨#[]⟩, .int .i64 0, .int .i64 0, .int .i64 0, .bool false, .slice none 0 0, .int .i64 0, .string ⟨#[]⟩, .int .i64 0, .slice none 0 0, .slice none 0 0, .int .i64 0, .string ⟨#[]⟩, .int .i64 0, .slice none 0 0, .slice none 0 0].toArray 138)).cell? ⟨w.heap.size, 6, none⟩ = some (.slice a6 n6 p6)) := OBX.out.cell 6 _ (by rw [hAX]; rfl)
  have SZX : Hid (w.heap.size + 2 ≤ ((w.alloc (.cells AX.toArray 138)).alloc (.cells [.int .i64 0, .string ⟨#[]⟩, .int .i64 0, .int .i64 0, .int .i64 0, .bool false, .slice none 0 0, .int .i64 0, .string ⟨#[]⟩, .int .i64 0, .slice none 0 0, .slice none 0 0, .int .i64 0, .string ⟨#[]⟩, .int .i64 0, .slice none 0 0, .slice none 0 0].toArray 138)).heap.size) := by show _ ≤ _; simp
  have O6X : Hid (((w.alloc (.cells AX.toArray 138)).alloc (.cells [.int .i64 0, .string ⟨#[]⟩, .int .i64 0, .int .i64 0, .int .i64 0, .bool false, .slice none 0 0, .int .i64 0, .string ⟨#[]⟩, .int .i64 0, .slice none 0 0, .slice none 0 0, .int .i64 0, .string ⟨#[]⟩, .int .i64 0, .slice none 0 0, .slice none 0 0].toArray 138)).ownsRow 0 e6 1 (.slice a6 n6 p6) n6 zs6) := uowns_frame O6.out (fun x hx => BX.out.block x (ublk_lt O6.out x hx).2)
  have M6w : Hid (∀ wx, oH wx c6 zs6 []) := fun wx => plain_own (by intro f hf k t e; subst e; simp [uE] at hf) G6.out.2.2.2.2 (M6.out.hand (lo := 0) (hi := w.heap.size) (fun g hg => ⟨Nat.zero_le _, M6.out.lt _ _ _ g hg⟩))
  have HAX := uhide hAX
  clear hAX
  go_enter Tryz.func176, Tryz.ntmps176
  go_wp2_with (first
    | ((with_reducible refine wpList_load_one ?qqg1 23 ?qqx1 ?qqo1 w.heap.size 6 ?qqh1 (.slice a6 n6 p6) Tryz.rObj_Lstring C6.out ?_); (case qqg1 => rfl); (case qqo1 => rfl); (case qqh1 => simp [Act.eval, Act.put]))
    | (at_builtin
       refine wpList_append_rows rfl _ _ 23 rfl (w.heap.size + 2) 9 j0 (.string ByteArray.empty) 1 16 Tryz.underlying23 hj0 hj1 hj2 hj3 (by decide) (by decide) (.slice none 0 0) 0 [] rfl (World.ownsRow_nil _ _ _ _) (.slice a6 n6 p6) rfl n6 zs6 O6X.out.1 H6.out (own_src O6X.out) (by unfold maxLen; omega) (by omega) SZX.out ?_
       intro v1 w1 hown1 hgrow1 hat1
       rw [Nat.zero_add, List.nil_append] at hown1
       obtain ⟨a1, p1, rfl⟩ := uowns_slice hown1
       have EG : Hid (OutS [] _ w1) := OutS.grownNone hgrow1
       have OB1 := uhide (OBX.out.outS EG.out (by simp))
       have OZ1 := uhide (OZX.out.outS EG.out (by simp))
       have BW1 : Hid (Below w.heap.size w w1) := BX.out.trans (EG.out.below (fun t ht => by cases ht) (Nat.le_trans (by omega) SZX.out))
       have SZ1 : Hid (w.heap.size + 2 ≤ w1.heap.size) := Nat.le_trans SZX.out EG.out.size
       have R1 := uhide hown1
       have TH1 : Hid (w1.there w.heap.size 6 1) := OB1.out.there 6 1 (by rw [HAX.out]; simp)
       clear hown1 hgrow1 hat1 EG OBX OZX BX C6 SZX O6X)
    | ((with_reducible refine wpList_store_v ?qqg2 23 ?qqx2 ?qqy2 ?qqo2 ?qqd2 w.heap.size 6 ?qqh2 (.slice a1 n6 p1) ?qqv2 one_slice Tryz.zObj_Lstring TH1.out ?_); (case qqg2 => rfl); (case qqo2 => rfl); (case qqd2 => rfl); (case qqh2 => simp [Act.eval, Act.put]); (case qqv2 => simp [Act.eval, Act.put])
       intro W0 eW
       have EW : Hid (OutS [w.heap.size] w1 W0) := by subst eW; exact OutS.setCells _ 6 w1
       have OB : Hid (objU W0 w.heap.size 138 ([Value.int .i64 z0, .string z1, .int .i64 z2, .int .i64 z3, .int .i64 z4, .bool z5, .slice a1 n6 p1] ++ (y7 ++ (y8 ++ [])))) := by
         have h := OB1.out
         rw [HAX.out] at h
         have h2 := objU.setCells [Value.slice a1 n6 p1] [Value.slice a6 n6 p6] [Value.int .i64 z0, .string z1, .int .i64 z2, .int .i64 z3, .int .i64 z4, .bool z5] (y7 ++ (y8 ++ [])) w1 h rfl
         subst eW; exact h2
       have OZ : Hid (objU W0 (w.heap.size + 1) 138 [.int .i64 0, .string ⟨#[]⟩, .int .i64 0, .int .i64 0, .int .i64 0, .bool false, .slice none 0 0, .int .i64 0, .string ⟨#[]⟩, .int .i64 0, .slice none 0 0, .slice none 0 0, .int .i64 0, .string ⟨#[]⟩, .int .i64 0, .slice none 0 0, .slice none 0 0]) := OZ1.out.outS EW.out (by simp)
       have B0 : Hid (Below w.heap.size w W0) := BW1.out.trans (EW.out.below (fun t ht => by simp at ht; omega) BW1.out.size)
       have HZ : Hid (w.heap.size + 2 ≤ W0.heap.size) := Nat.le_trans SZ1.out EW.out.size
       have R0 := uowns_frame R1.out (w' := W0) (fun x hx => EW.out.block x (ublk_lt R1.out x hx).2 (by have := (ublk_lt R1.out x hx).1; simp; omega))
       have W6 : Hid (own2 (blkOf (.slice a1 n6 p1)) (w.heap.size + 2) W0.heap.size) := ⟨by unfold blkOf; split <;> simp, fun s hs => ublk_lt R0 s hs⟩
       have O6n : Hid (oS W0 1 n6 c6 (.slice a1 n6 p1) (blkOf (.slice a1 n6 p1))) := ⟨by decide, 9, zs6, [], owns_base R0, M6w.out W0, by simp⟩
       have K6 : Hid (∀ u ∈ [Value.int .i64 z0, .string z1, .int .i64 z2, .int .i64 z3, .int .i64 z4, .bool z5, .slice a1 n6 p1], u.oneCell' = true) := fun u hu => by
         simp only [List.mem_cons, List.not_mem_nil, or_false] at hu
         rcases hu with rfl | rfl | rfl | rfl | rfl | rfl | rfl <;> rfl
       clear R0 eW EW OB1 OZ1 BW1 SZ1 R1 TH1 O6 M6 H6 G6 HAX M6w)
    )
  have O6 := O6n
  clear O6n
  have Hy7 : Hid (∀ i v, y7[i]? = some v → ([Value.int .i64 z0, .string z1, .int .i64 z2, .int .i64 z3, .int .i64 z4, .bool z5, .slice a1 n6 p1] ++ (y7 ++ (y8 ++ [])))[7 + i]? = some v) := fun i v h => at_mid (pre := [Value.int .i64 z0, .string z1, .int .i64 z2, .int .i64 z3, .int .i64 z4, .bool z5, .slice a1 n6 p1]) (ys := y7) (post := (y8 ++ [])) rfl rfl h
  have Hy8 : Hid (∀ i v, y8[i]? = some v → ([Value.int .i64 z0, .string z1, .int .i64 z2, .int .i64 z3, .int .i64 z4, .bool z5, .slice a1 n6 p1] ++ (y7 ++ (y8 ++ [])))[12 + i]? = some v) := fun i v h => at_mid (pre := [Value.int .i64 z0, .string z1, .int .i64 z2, .int .i64 z3, .int .i64 z4, .bool z5, .slice a1 n6 p1] ++ y7) (ys := y8) (post := []) (by simp) (by simp [HY7.out]) h
  have HLy7 := uhide (HL7.out y7 HY7.out)
  have HLy8 := uhide (HL7.out y8 HY8.out)
  have HC7 : Hid (∀ wx, Below W0.heap.size W0 wx → Calls Tryz.prog 217 #[.agg y7.toArray] wx fun e w' => ∃ ys T, e = .returned (.agg ys.toArray) ∧ ys.length = 5 ∧ Hid (oH w' d7 ys T) ∧ Hid (own2 T wx.heap.size w'.heap.size) ∧ Hid (∀ u ∈ ys, u.oneCell' = true) ∧ Hid (Below wx.heap.size wx w')) := fun wx hb => HC7.out wx (B0.out.trans (hb.mono B0.out.size))
  have HC8 : Hid (∀ wx, Below W0.heap.size W0 wx → Calls Tryz.prog 217 #[.agg y8.toArray] wx fun e w' => ∃ ys T, e = .returned (.agg ys.toArray) ∧ ys.length = 5 ∧ Hid (oH w' d8 ys T) ∧ Hid (own2 T wx.heap.size w'.heap.size) ∧ Hid (∀ u ∈ ys, u.oneCell' = true) ∧ Hid (Below wx.heap.size wx w')) := fun wx hb => HC8.out wx (B0.out.trans (hb.mono B0.out.size))
  clear U7 U8
  refine wp_region_held_drew (S := fun _ => True) (by kernel_rfl) trivial (fun hHeld => ?_)
  refine wpAnyH_take (i := 0) (oi := ⟨some 7, .fieldAddr _ (.tmp 1) 7, _, _, _, _⟩) (v := .pointer (some ⟨w.heap.size, 7, none⟩)) rfl (by kernel_rfl) (by kernel_rfl) (by kernel_rfl) (fun _ _ _ h => h) (Or.inl ⟨by rfl, by intro w hSw; go_simp⟩) hHeld ?_
  simp only [Act.put, List.setIfInBounds_toArray, List.set_cons_zero, List.set_cons_succ]
  refine wpAnyH_take (i := 3) (oi := ⟨some 10, .fieldAddr _ (.tmp 1) 8, _, _, _, _⟩) (v := .pointer (some ⟨w.heap.size, 12, none⟩)) rfl (by kernel_rfl) (by kernel_rfl) (by kernel_rfl) (fun _ _ _ h => h) (Or.inl ⟨by rfl, by intro w hSw; go_simp⟩) hHeld ?_
  simp only [Act.put, List.setIfInBounds_toArray, List.set_cons_zero, List.set_cons_succ]
  refine wpAnyH_ready (rs := [1, 4]) (by kernel_rfl) (by simp) (AllReadyH.cons (o := ⟨some 8, .load 90 (.tmp 7), _, _, _, _⟩) rfl (fun K hK => ?_) (AllReadyH.cons (o := ⟨some 11, .load 90 (.tmp 10), _, _, _, _⟩) rfl (fun K hK => ?_) AllReadyH.nil))
  · refine step_load_row (by rfl) 90 _ rfl w.heap.size 7 rfl y7 (by kernel_rfl) HLy7.out ((OB.out.below (Below.drew (Below.refl W0.heap.size W0))).range 7 y7 Hy7.out) ?_
    refine hK.out _ _ trivial (fun hHeld => ?_)
    clear hK K
    simp only [Act.put, List.setIfInBounds_toArray, List.set_cons_zero, List.set_cons_succ]
    refine wpAnyH_ready (rs := [2, 4]) (by kernel_rfl) (by simp) (AllReadyH.cons (o := ⟨some 9, .call { callee := .value (.func 217), args := #[.tmp 8], argTypes := #[90] }, _, _, _, _⟩) rfl (fun K hK => ?_) (AllReadyH.cons (o := ⟨some 11, .load 90 (.tmp 10), _, _, _, _⟩) rfl (fun K hK => ?_) AllReadyH.nil))
    · refine step_call_of rfl 217 #[.tmp 8] #[90] rfl (callFunc_enter Tryz.func217 (by kernel_rfl) (by kernel_rfl)) #[.agg y7.toArray] (by simp [Act.eval]) (HC7.out W0.drew (Below.drew (Below.refl W0.heap.size W0))) ?_
      rintro e w3 ⟨x7, T7, rfl, l7, K7, W7, U7, B7⟩
      refine ⟨.agg x7.toArray, rfl, hK.out _ _ trivial (fun hHeld => ?_)⟩
      clear hK K
      simp only [Act.put, List.setIfInBounds_toArray, List.set_cons_zero, List.set_cons_succ]
      refine wpAnyH_ready (rs := [4]) (by kernel_rfl) (by simp) (AllReadyH.cons (o := ⟨some 11, .load 90 (.tmp 10), _, _, _, _⟩) rfl (fun K hK => ?_) AllReadyH.nil)
      refine step_load_row (by rfl) 90 _ rfl w.heap.size 12 rfl y8 (by kernel_rfl) HLy8.out ((OB.out.below (Below.trans (Below.drew (Below.refl W0.heap.size W0)) (B7.out.mono ((Below.drew (Below.refl W0.heap.size W0))).size))).range 12 y8 Hy8.out) ?_
      refine hK.out _ _ trivial (fun hHeld => ?_)
      clear hK K
      simp only [Act.put, List.setIfInBounds_toArray, List.set_cons_zero, List.set_cons_succ]
      refine wpAnyH_take (i := 6) (oi := ⟨some 13, .fieldAddr _ (.tmp 1) 7, _, _, _, _⟩) (v := .pointer (some ⟨w.heap.size, 7, none⟩)) rfl (by kernel_rfl) (by kernel_rfl) (by kernel_rfl) (fun _ _ _ h => h) (Or.inl ⟨by rfl, by intro w hSw; go_simp⟩) hHeld ?_
      simp only [Act.put, List.setIfInBounds_toArray, List.set_cons_zero, List.set_cons_succ]
      refine wpAnyH_ready (rs := [5]) (by kernel_rfl) (by simp) (AllReadyH.cons (o := ⟨some 12, .call { callee := .value (.func 217), args := #[.tmp 11], argTypes := #[90] }, _, _, _, _⟩) rfl (fun K hK => ?_) AllReadyH.nil)
      refine step_call_of rfl 217 #[.tmp 11] #[90] rfl (callFunc_enter Tryz.func217 (by kernel_rfl) (by kernel_rfl)) #[.agg y8.toArray] (by simp [Act.eval]) (HC8.out w3 (Below.trans (Below.drew (Below.refl W0.heap.size W0)) (B7.out.mono ((Below.drew (Below.refl W0.heap.size W0))).size))) ?_
      rintro e w5 ⟨x8, T8, rfl, l8, K8, W8, U8, B8⟩
      refine ⟨.agg x8.toArray, rfl, hK.out _ _ trivial (fun hHeld => ?_)⟩
      clear hK K
      simp only [Act.put, List.setIfInBounds_toArray, List.set_cons_zero, List.set_cons_succ]
      have HB5 : Hid (Below W0.heap.size W0 w5) := (Below.trans (Below.trans (Below.drew (Below.refl W0.heap.size W0)) (B7.out.mono ((Below.drew (Below.refl W0.heap.size W0))).size)) (B8.out.mono ((Below.trans (Below.drew (Below.refl W0.heap.size W0)) (B7.out.mono ((Below.drew (Below.refl W0.heap.size W0))).size))).size))
      have OB5 : Hid (objU w5 w.heap.size 138 ([Value.int .i64 z0, .string z1, .int .i64 z2, .int .i64 z3, .int .i64 z4, .bool z5, .slice a1 n6 p1] ++ (y7 ++ (y8 ++ [])))) := OB.out.below HB5.out
      refine wpAnyH_ready (rs := [7]) (by kernel_rfl) (by simp) (AllReadyH.cons (o := ⟨none, .store 90 (.tmp 13) (.tmp 9), _, _, _, _⟩) rfl (fun K hK => ?_) AllReadyH.nil)
      refine step_store_cells (by rfl) 90 _ _ rfl rfl w.heap.size 7 rfl (.agg x7.toArray) rfl x7 cells_agg U7.out (HL7.out x7 l7) (OB5.out.there 7 x7.length (by rw [l7]; simp [HY7.out, HY8.out])) ?_
      intro w6 e6
      have OB6 : Hid (objU w6 w.heap.size 138 ([Value.int .i64 z0, .string z1, .int .i64 z2, .int .i64 z3, .int .i64 z4, .bool z5, .slice a1 n6 p1] ++ (x7 ++ (y8 ++ [])))) := by subst e6; exact objU.setCells x7 y7 ([Value.int .i64 z0, .string z1, .int .i64 z2, .int .i64 z3, .int .i64 z4, .bool z5, .slice a1 n6 p1]) (y8 ++ []) w5 OB5.out (by rw [l7, HY7.out])
      have E6 : Hid (OutS [w.heap.size] w5 w6) := by subst e6; exact OutS.setCells x7 7 w5
      clear e6
      refine hK.out _ _ trivial (fun hHeld => ?_)
      clear hK K
      simp only [Act.put]
      refine wpAnyH_take (i := 8) (oi := ⟨some 14, .fieldAddr _ (.tmp 1) 8, _, _, _, _⟩) (v := .pointer (some ⟨w.heap.size, 12, none⟩)) rfl (by kernel_rfl) (by kernel_rfl) (by kernel_rfl) (fun _ _ _ h => h) (Or.inl ⟨by rfl, by intro w hSw; go_simp⟩) hHeld ?_
      simp only [Act.put, List.setIfInBounds_toArray, List.set_cons_zero, List.set_cons_succ]
      refine wpAnyH_ready (rs := [9]) (by kernel_rfl) (by simp) (AllReadyH.cons (o := ⟨none, .store 90 (.tmp 14) (.tmp 12), _, _, _, _⟩) rfl (fun K hK => ?_) AllReadyH.nil)
      refine step_store_cells (by rfl) 90 _ _ rfl rfl w.heap.size 12 rfl (.agg x8.toArray) rfl x8 cells_agg U8.out (HL7.out x8 l8) (OB6.out.there 12 x8.length (by rw [l8]; simp [l7, HY8.out])) ?_
      intro w7 e7
      have OB7 : Hid (objU w7 w.heap.size 138 (([Value.int .i64 z0, .string z1, .int .i64 z2, .int .i64 z3, .int .i64 z4, .bool z5, .slice a1 n6 p1] ++ x7) ++ (x8 ++ []))) := by
        have h := objU.setCells x8 y8 ([Value.int .i64 z0, .string z1, .int .i64 z2, .int .i64 z3, .int .i64 z4, .bool z5, .slice a1 n6 p1] ++ x7) [] w6 (by rw [List.append_assoc]; exact OB6.out) (by rw [l8, HY8.out])
        rw [show ([Value.int .i64 z0, .string z1, .int .i64 z2, .int .i64 z3, .int .i64 z4, .bool z5, .slice a1 n6 p1] ++ x7).length = 12 by simp [l7]] at h
        subst e7; exact h
      have E7 : Hid (OutS [w.heap.size] w6 w7) := by subst e7; exact OutS.setCells x8 12 w6
      clear e7
      refine hK.out _ _ trivial (fun hHeld => ?_)
      clear hK K
      simp only [Act.put]
      refine wpAnyH_done (by kernel_rfl) ?_ _
      clear hHeld
      have HE : Hid (CpEnd w w7 138 (.p (.int .i64 z0) (.p (.string z1) (.p (.int .i64 z2) (.p (.int .i64 z3) (.p (.int .i64 z4) (.p (.bool z5) (.l 1 n6 c6 (UD.app d7 (UD.app d8 UD.nil))))))))) (([Value.int .i64 z0, .string z1, .int .i64 z2, .int .i64 z3, .int .i64 z4, .bool z5, .slice a1 n6 p1] ++ x7) ++ (x8 ++ [])) [.int .i64 0, .string ⟨#[]⟩, .int .i64 0, .int .i64 0, .int .i64 0, .bool false, .slice none 0 0, .int .i64 0, .string ⟨#[]⟩, .int .i64 0, .slice none 0 0, .slice none 0 0, .int .i64 0, .string ⟨#[]⟩, .int .i64 0, .slice none 0 0, .slice none 0 0]) := cpobj_end (w3 := w3) (w5 := w5) (w6 := w6) OZ.out B0.out HZ.out O6.out K6.out W6.out K7.out W7.out K8.out W8.out (Below.drew (Below.refl W0.heap.size W0)).size B7.out.size (Nat.le_refl _) (Nat.le_refl _) B8.out.size HZ.out U7.out U8.out HB5.out B8.out E6.out E7.out OB7.out
      obtain ⟨AX, hAX⟩ : ∃ AX : List Value, AX = (([Value.int .i64 z0, .string z1, .int .i64 z2, .int .i64 z3, .int .i64 z4, .bool z5, .slice a1 n6 p1] ++ x7) ++ (x8 ++ [])) := ⟨_, rfl⟩
      rw [← hAX] at HE
      have hal : AX.length = 17 := by rw [hAX]; simp [l7, l8]
      have HAL := uhide hal
      have HFA : Hid ((Tryz.prog.info? 138).map (·.size) = some AX.length) := by show _ = _; rw [hal]; exact Tryz.zObj_impl_Obj
      have HTH : Hid (w7.there (w.heap.size + 1) 0 AX.length) := by show World.there _ _ _ _; rw [hal]; exact HE.out.res.there 0 17 (by decide)
      have HRG : Hid (w7.rangeAt w.heap.size 0 AX) := HE.out.box.range 0 AX (fun j v h => by rw [Nat.zero_add]; exact h)
      clear hAX hal OB OZ B0 HZ O6 K6 W6 K7 W7 K8 W8 B7 B8 E6 E7 OB7 OB5 OB6 HB5 U7 U8 HC7 HC8 l7 l8 HY7 HY8 HLy7 HLy8 HL7 Hy7 Hy8
      go_wp2_with (first
        | ((with_reducible refine wpList_load_row2 ?qqg21 138 ?qqx21 ?qqo21 w.heap.size 0 ?qqh21 AX Tryz.rObj_impl_Obj HFA.out HRG.out ?_); (case qqg21 => rfl); (case qqo21 => rfl); (case qqh21 => simp [Act.eval, Act.put]))
        | ((with_reducible refine wpList_store_cells ?qqg22 138 ?qqx22 ?qqy22 ?qqo22 ?qqd22 (w.heap.size + 1) 0 ?qqh22 (.agg AX.toArray) ?qqv22 AX cells_agg HE.out.ones HFA.out HTH.out ?_); (case qqg22 => rfl); (case qqo22 => rfl); (case qqd22 => rfl); (case qqh22 => simp [Act.eval, Act.put]); (case qqv22 => simp [Act.eval, Act.put]); intro w8 e8; have HF := uhide (HE.out.fin HAL.out e8); clear e8)
        )
      obtain ⟨hres, S', ho', hS', hb'⟩ := HF.out
      refine bodyPost_ret (v := .agg AX.toArray) ?_ rfl (copied.mk' ho' hS' hb')
      exact results_row rfl _ _ (w.heap.size + 1) _ _ (by simp [Act.put]) hres Tryz.rObj_impl_Obj HFA.out
    · refine step_load_row (by rfl) 90 _ rfl w.heap.size 12 rfl y8 (by kernel_rfl) HLy8.out ((OB.out.below (Below.drew (Below.refl W0.heap.size W0))).range 12 y8 Hy8.out) ?_
      refine hK.out _ _ trivial (fun hHeld => ?_)
      clear hK K
      simp only [Act.put, List.setIfInBounds_toArray, List.set_cons_zero, List.set_cons_succ]
      refine wpAnyH_ready (rs := [2]) (by kernel_rfl) (by simp) (AllReadyH.cons (o := ⟨some 9, .call { callee := .value (.func 217), args := #[.tmp 8], argTypes := #[90] }, _, _, _, _⟩) rfl (fun K hK => ?_) AllReadyH.nil)
      refine step_call_of rfl 217 #[.tmp 8] #[90] rfl (callFunc_enter Tryz.func217 (by kernel_rfl) (by kernel_rfl)) #[.agg y7.toArray] (by simp [Act.eval]) (HC7.out W0.drew (Below.drew (Below.refl W0.heap.size W0))) ?_
      rintro e w3 ⟨x7, T7, rfl, l7, K7, W7, U7, B7⟩
      refine ⟨.agg x7.toArray, rfl, hK.out _ _ trivial (fun hHeld => ?_)⟩
      clear hK K
      simp only [Act.put, List.setIfInBounds_toArray, List.set_cons_zero, List.set_cons_succ]
      refine wpAnyH_take (i := 6) (oi := ⟨some 13, .fieldAddr _ (.tmp 1) 7, _, _, _, _⟩) (v := .pointer (some ⟨w.heap.size, 7, none⟩)) rfl (by kernel_rfl) (by kernel_rfl) (by kernel_rfl) (fun _ _ _ h => h) (Or.inl ⟨by rfl, by intro w hSw; go_simp⟩) hHeld ?_
      simp only [Act.put, List.setIfInBounds_toArray, List.set_cons_zero, List.set_cons_succ]
      refine wpAnyH_ready (rs := [5]) (by kernel_rfl) (by simp) (AllReadyH.cons (o := ⟨some 12, .call { callee := .value (.func 217), args := #[.tmp 11], argTypes := #[90] }, _, _, _, _⟩) rfl (fun K hK => ?_) AllReadyH.nil)
      refine step_call_of rfl 217 #[.tmp 11] #[90] rfl (callFunc_enter Tryz.func217 (by kernel_rfl) (by kernel_rfl)) #[.agg y8.toArray] (by simp [Act.eval]) (HC8.out w3 (Below.trans (Below.drew (Below.refl W0.heap.size W0)) (B7.out.mono ((Below.drew (Below.refl W0.heap.size W0))).size))) ?_
      rintro e w5 ⟨x8, T8, rfl, l8, K8, W8, U8, B8⟩
      refine ⟨.agg x8.toArray, rfl, hK.out _ _ trivial (fun hHeld => ?_)⟩
      clear hK K
      simp only [Act.put, List.setIfInBounds_toArray, List.set_cons_zero, List.set_cons_succ]
      have HB5 : Hid (Below W0.heap.size W0 w5) := (Below.trans (Below.trans (Below.drew (Below.refl W0.heap.size W0)) (B7.out.mono ((Below.drew (Below.refl W0.heap.size W0))).size)) (B8.out.mono ((Below.trans (Below.drew (Below.refl W0.heap.size W0)) (B7.out.mono ((Below.drew (Below.refl W0.heap.size W0))).size))).size))
      have OB5 : Hid (objU w5 w.heap.size 138 ([Value.int .i64 z0, .string z1, .int .i64 z2, .int .i64 z3, .int .i64 z4, .bool z5, .slice a1 n6 p1] ++ (y7 ++ (y8 ++ [])))) := OB.out.below HB5.out
      refine wpAnyH_ready (rs := [7]) (by kernel_rfl) (by simp) (AllReadyH.cons (o := ⟨none, .store 90 (.tmp 13) (.tmp 9), _, _, _, _⟩) rfl (fun K hK => ?_) AllReadyH.nil)
      refine step_store_cells (by rfl) 90 _ _ rfl rfl w.heap.size 7 rfl (.agg x7.toArray) rfl x7 cells_agg U7.out (HL7.out x7 l7) (OB5.out.there 7 x7.length (by rw [l7]; simp [HY7.out, HY8.out])) ?_
      intro w6 e6
      have OB6 : Hid (objU w6 w.heap.size 138 ([Value.int .i64 z0, .string z1, .int .i64 z2, .int .i64 z3, .int .i64 z4, .bool z5, .slice a1 n6 p1] ++ (x7 ++ (y8 ++ [])))) := by subst e6; exact objU.setCells x7 y7 ([Value.int .i64 z0, .string z1, .int .i64 z2, .int .i64 z3, .int .i64 z4, .bool z5, .slice a1 n6 p1]) (y8 ++ []) w5 OB5.out (by rw [l7, HY7.out])
      have E6 : Hid (OutS [w.heap.size] w5 w6) := by subst e6; exact OutS.setCells x7 7 w5
      clear e6
      refine hK.out _ _ trivial (fun hHeld => ?_)
      clear hK K
      simp only [Act.put]
      refine wpAnyH_take (i := 8) (oi := ⟨some 14, .fieldAddr _ (.tmp 1) 8, _, _, _, _⟩) (v := .pointer (some ⟨w.heap.size, 12, none⟩)) rfl (by kernel_rfl) (by kernel_rfl) (by kernel_rfl) (fun _ _ _ h => h) (Or.inl ⟨by rfl, by intro w hSw; go_simp⟩) hHeld ?_
      simp only [Act.put, List.setIfInBounds_toArray, List.set_cons_zero, List.set_cons_succ]
      refine wpAnyH_ready (rs := [9]) (by kernel_rfl) (by simp) (AllReadyH.cons (o := ⟨none, .store 90 (.tmp 14) (.tmp 12), _, _, _, _⟩) rfl (fun K hK => ?_) AllReadyH.nil)
      refine step_store_cells (by rfl) 90 _ _ rfl rfl w.heap.size 12 rfl (.agg x8.toArray) rfl x8 cells_agg U8.out (HL7.out x8 l8) (OB6.out.there 12 x8.length (by rw [l8]; simp [l7, HY8.out])) ?_
      intro w7 e7
      have OB7 : Hid (objU w7 w.heap.size 138 (([Value.int .i64 z0, .string z1, .int .i64 z2, .int .i64 z3, .int .i64 z4, .bool z5, .slice a1 n6 p1] ++ x7) ++ (x8 ++ []))) := by
        have h := objU.setCells x8 y8 ([Value.int .i64 z0, .string z1, .int .i64 z2, .int .i64 z3, .int .i64 z4, .bool z5, .slice a1 n6 p1] ++ x7) [] w6 (by rw [List.append_assoc]; exact OB6.out) (by rw [l8, HY8.out])
        rw [show ([Value.int .i64 z0, .string z1, .int .i64 z2, .int .i64 z3, .int .i64 z4, .bool z5, .slice a1 n6 p1] ++ x7).length = 12 by simp [l7]] at h
        subst e7; exact h
      have E7 : Hid (OutS [w.heap.size] w6 w7) := by subst e7; exact OutS.setCells x8 12 w6
      clear e7
      refine hK.out _ _ trivial (fun hHeld => ?_)
      clear hK K
      simp only [Act.put]
      refine wpAnyH_done (by kernel_rfl) ?_ _
      clear hHeld
      have HE : Hid (CpEnd w w7 138 (.p (.int .i64 z0) (.p (.string z1) (.p (.int .i64 z2) (.p (.int .i64 z3) (.p (.int .i64 z4) (.p (.bool z5) (.l 1 n6 c6 (UD.app d7 (UD.app d8 UD.nil))))))))) (([Value.int .i64 z0, .string z1, .int .i64 z2, .int .i64 z3, .int .i64 z4, .bool z5, .slice a1 n6 p1] ++ x7) ++ (x8 ++ [])) [.int .i64 0, .string ⟨#[]⟩, .int .i64 0, .int .i64 0, .int .i64 0, .bool false, .slice none 0 0, .int .i64 0, .string ⟨#[]⟩, .int .i64 0, .slice none 0 0, .slice none 0 0, .int .i64 0, .string ⟨#[]⟩, .int .i64 0, .slice none 0 0, .slice none 0 0]) := cpobj_end (w3 := w3) (w5 := w5) (w6 := w6) OZ.out B0.out HZ.out O6.out K6.out W6.out K7.out W7.out K8.out W8.out (Below.drew (Below.refl W0.heap.size W0)).size B7.out.size (Nat.le_refl _) (Nat.le_refl _) B8.out.size HZ.out U7.out U8.out HB5.out B8.out E6.out E7.out OB7.out
      obtain ⟨AX, hAX⟩ : ∃ AX : List Value, AX = (([Value.int .i64 z0, .string z1, .int .i64 z2, .int .i64 z3, .int .i64 z4, .bool z5, .slice a1 n6 p1] ++ x7) ++ (x8 ++ [])) := ⟨_, rfl⟩
      rw [← hAX] at HE
      have hal : AX.length = 17 := by rw [hAX]; simp [l7, l8]
      have HAL := uhide hal
      have HFA : Hid ((Tryz.prog.info? 138).map (·.size) = some AX.length) := by show _ = _; rw [hal]; exact Tryz.zObj_impl_Obj
      have HTH : Hid (w7.there (w.heap.size + 1) 0 AX.length) := by show World.there _ _ _ _; rw [hal]; exact HE.out.res.there 0 17 (by decide)
      have HRG : Hid (w7.rangeAt w.heap.size 0 AX) := HE.out.box.range 0 AX (fun j v h => by rw [Nat.zero_add]; exact h)
      clear hAX hal OB OZ B0 HZ O6 K6 W6 K7 W7 K8 W8 B7 B8 E6 E7 OB7 OB5 OB6 HB5 U7 U8 HC7 HC8 l7 l8 HY7 HY8 HLy7 HLy8 HL7 Hy7 Hy8
      go_wp2_with (first
        | ((with_reducible refine wpList_load_row2 ?qqg31 138 ?qqx31 ?qqo31 w.heap.size 0 ?qqh31 AX Tryz.rObj_impl_Obj HFA.out HRG.out ?_); (case qqg31 => rfl); (case qqo31 => rfl); (case qqh31 => simp [Act.eval, Act.put]))
        | ((with_reducible refine wpList_store_cells ?qqg32 138 ?qqx32 ?qqy32 ?qqo32 ?qqd32 (w.heap.size + 1) 0 ?qqh32 (.agg AX.toArray) ?qqv32 AX cells_agg HE.out.ones HFA.out HTH.out ?_); (case qqg32 => rfl); (case qqo32 => rfl); (case qqd32 => rfl); (case qqh32 => simp [Act.eval, Act.put]); (case qqv32 => simp [Act.eval, Act.put]); intro w8 e8; have HF := uhide (HE.out.fin HAL.out e8); clear e8)
        )
      obtain ⟨hres, S', ho', hS', hb'⟩ := HF.out
      refine bodyPost_ret (v := .agg AX.toArray) ?_ rfl (copied.mk' ho' hS' hb')
      exact results_row rfl _ _ (w.heap.size + 1) _ _ (by simp [Act.put]) hres Tryz.rObj_impl_Obj HFA.out
  · refine step_load_row (by rfl) 90 _ rfl w.heap.size 12 rfl y8 (by kernel_rfl) HLy8.out ((OB.out.below (Below.drew (Below.refl W0.heap.size W0))).range 12 y8 Hy8.out) ?_
    refine hK.out _ _ trivial (fun hHeld => ?_)
    clear hK K
    simp only [Act.put, List.setIfInBounds_toArray, List.set_cons_zero, List.set_cons_succ]
    refine wpAnyH_ready (rs := [1]) (by kernel_rfl) (by simp) (AllReadyH.cons (o := ⟨some 8, .load 90 (.tmp 7), _, _, _, _⟩) rfl (fun K hK => ?_) AllReadyH.nil)
    refine step_load_row (by rfl) 90 _ rfl w.heap.size 7 rfl y7 (by kernel_rfl) HLy7.out ((OB.out.below (Below.drew (Below.refl W0.heap.size W0))).range 7 y7 Hy7.out) ?_
    refine hK.out _ _ trivial (fun hHeld => ?_)
    clear hK K
    simp only [Act.put, List.setIfInBounds_toArray, List.set_cons_zero, List.set_cons_succ]
    refine wpAnyH_ready (rs := [2]) (by kernel_rfl) (by simp) (AllReadyH.cons (o := ⟨some 9, .call { callee := .value (.func 217), args := #[.tmp 8], argTypes := #[90] }, _, _, _, _⟩) rfl (fun K hK => ?_) AllReadyH.nil)
    refine step_call_of rfl 217 #[.tmp 8] #[90] rfl (callFunc_enter Tryz.func217 (by kernel_rfl) (by kernel_rfl)) #[.agg y7.toArray] (by simp [Act.eval]) (HC7.out W0.drew (Below.drew (Below.refl W0.heap.size W0))) ?_
    rintro e w3 ⟨x7, T7, rfl, l7, K7, W7, U7, B7⟩
    refine ⟨.agg x7.toArray, rfl, hK.out _ _ trivial (fun hHeld => ?_)⟩
    clear hK K
    simp only [Act.put, List.setIfInBounds_toArray, List.set_cons_zero, List.set_cons_succ]
    refine wpAnyH_take (i := 6) (oi := ⟨some 13, .fieldAddr _ (.tmp 1) 7, _, _, _, _⟩) (v := .pointer (some ⟨w.heap.size, 7, none⟩)) rfl (by kernel_rfl) (by kernel_rfl) (by kernel_rfl) (fun _ _ _ h => h) (Or.inl ⟨by rfl, by intro w hSw; go_simp⟩) hHeld ?_
    simp only [Act.put, List.setIfInBounds_toArray, List.set_cons_zero, List.set_cons_succ]
    refine wpAnyH_ready (rs := [5]) (by kernel_rfl) (by simp) (AllReadyH.cons (o := ⟨some 12, .call { callee := .value (.func 217), args := #[.tmp 11], argTypes := #[90] }, _, _, _, _⟩) rfl (fun K hK => ?_) AllReadyH.nil)
    refine step_call_of rfl 217 #[.tmp 11] #[90] rfl (callFunc_enter Tryz.func217 (by kernel_rfl) (by kernel_rfl)) #[.agg y8.toArray] (by simp [Act.eval]) (HC8.out w3 (Below.trans (Below.drew (Below.refl W0.heap.size W0)) (B7.out.mono ((Below.drew (Below.refl W0.heap.size W0))).size))) ?_
    rintro e w5 ⟨x8, T8, rfl, l8, K8, W8, U8, B8⟩
    refine ⟨.agg x8.toArray, rfl, hK.out _ _ trivial (fun hHeld => ?_)⟩
    clear hK K
    simp only [Act.put, List.setIfInBounds_toArray, List.set_cons_zero, List.set_cons_succ]
    have HB5 : Hid (Below W0.heap.size W0 w5) := (Below.trans (Below.trans (Below.drew (Below.refl W0.heap.size W0)) (B7.out.mono ((Below.drew (Below.refl W0.heap.size W0))).size)) (B8.out.mono ((Below.trans (Below.drew (Below.refl W0.heap.size W0)) (B7.out.mono ((Below.drew (Below.refl W0.heap.size W0))).size))).size))
    have OB5 : Hid (objU w5 w.heap.size 138 ([Value.int .i64 z0, .string z1, .int .i64 z2, .int .i64 z3, .int .i64 z4, .bool z5, .slice a1 n6 p1] ++ (y7 ++ (y8 ++ [])))) := OB.out.below HB5.out
    refine wpAnyH_ready (rs := [7]) (by kernel_rfl) (by simp) (AllReadyH.cons (o := ⟨none, .store 90 (.tmp 13) (.tmp 9), _, _, _, _⟩) rfl (fun K hK => ?_) AllReadyH.nil)
    refine step_store_cells (by rfl) 90 _ _ rfl rfl w.heap.size 7 rfl (.agg x7.toArray) rfl x7 cells_agg U7.out (HL7.out x7 l7) (OB5.out.there 7 x7.length (by rw [l7]; simp [HY7.out, HY8.out])) ?_
    intro w6 e6
    have OB6 : Hid (objU w6 w.heap.size 138 ([Value.int .i64 z0, .string z1, .int .i64 z2, .int .i64 z3, .int .i64 z4, .bool z5, .slice a1 n6 p1] ++ (x7 ++ (y8 ++ [])))) := by subst e6; exact objU.setCells x7 y7 ([Value.int .i64 z0, .string z1, .int .i64 z2, .int .i64 z3, .int .i64 z4, .bool z5, .slice a1 n6 p1]) (y8 ++ []) w5 OB5.out (by rw [l7, HY7.out])
    have E6 : Hid (OutS [w.heap.size] w5 w6) := by subst e6; exact OutS.setCells x7 7 w5
    clear e6
    refine hK.out _ _ trivial (fun hHeld => ?_)
    clear hK K
    simp only [Act.put]
    refine wpAnyH_take (i := 8) (oi := ⟨some 14, .fieldAddr _ (.tmp 1) 8, _, _, _, _⟩) (v := .pointer (some ⟨w.heap.size, 12, none⟩)) rfl (by kernel_rfl) (by kernel_rfl) (by kernel_rfl) (fun _ _ _ h => h) (Or.inl ⟨by rfl, by intro w hSw; go_simp⟩) hHeld ?_
    simp only [Act.put, List.setIfInBounds_toArray, List.set_cons_zero, List.set_cons_succ]
    refine wpAnyH_ready (rs := [9]) (by kernel_rfl) (by simp) (AllReadyH.cons (o := ⟨none, .store 90 (.tmp 14) (.tmp 12), _, _, _, _⟩) rfl (fun K hK => ?_) AllReadyH.nil)
    refine step_store_cells (by rfl) 90 _ _ rfl rfl w.heap.size 12 rfl (.agg x8.toArray) rfl x8 cells_agg U8.out (HL7.out x8 l8) (OB6.out.there 12 x8.length (by rw [l8]; simp [l7, HY8.out])) ?_
    intro w7 e7
    have OB7 : Hid (objU w7 w.heap.size 138 (([Value.int .i64 z0, .string z1, .int .i64 z2, .int .i64 z3, .int .i64 z4, .bool z5, .slice a1 n6 p1] ++ x7) ++ (x8 ++ []))) := by
      have h := objU.setCells x8 y8 ([Value.int .i64 z0, .string z1, .int .i64 z2, .int .i64 z3, .int .i64 z4, .bool z5, .slice a1 n6 p1] ++ x7) [] w6 (by rw [List.append_assoc]; exact OB6.out) (by rw [l8, HY8.out])
      rw [show ([Value.int .i64 z0, .string z1, .int .i64 z2, .int .i64 z3, .int .i64 z4, .bool z5, .slice a1 n6 p1] ++ x7).length = 12 by simp [l7]] at h
      subst e7; exact h
    have E7 : Hid (OutS [w.heap.size] w6 w7) := by subst e7; exact OutS.setCells x8 12 w6
    clear e7
    refine hK.out _ _ trivial (fun hHeld => ?_)
    clear hK K
    simp only [Act.put]
    refine wpAnyH_done (by kernel_rfl) ?_ _
    clear hHeld
    have HE : Hid (CpEnd w w7 138 (.p (.int .i64 z0) (.p (.string z1) (.p (.int .i64 z2) (.p (.int .i64 z3) (.p (.int .i64 z4) (.p (.bool z5) (.l 1 n6 c6 (UD.app d7 (UD.app d8 UD.nil))))))))) (([Value.int .i64 z0, .string z1, .int .i64 z2, .int .i64 z3, .int .i64 z4, .bool z5, .slice a1 n6 p1] ++ x7) ++ (x8 ++ [])) [.int .i64 0, .string ⟨#[]⟩, .int .i64 0, .int .i64 0, .int .i64 0, .bool false, .slice none 0 0, .int .i64 0, .string ⟨#[]⟩, .int .i64 0, .slice none 0 0, .slice none 0 0, .int .i64 0, .string ⟨#[]⟩, .int .i64 0, .slice none 0 0, .slice none 0 0]) := cpobj_end (w3 := w3) (w5 := w5) (w6 := w6) OZ.out B0.out HZ.out O6.out K6.out W6.out K7.out W7.out K8.out W8.out (Below.drew (Below.refl W0.heap.size W0)).size B7.out.size (Nat.le_refl _) (Nat.le_refl _) B8.out.size HZ.out U7.out U8.out HB5.out B8.out E6.out E7.out OB7.out
    obtain ⟨AX, hAX⟩ : ∃ AX : List Value, AX = (([Value.int .i64 z0, .string z1, .int .i64 z2, .int .i64 z3, .int .i64 z4, .bool z5, .slice a1 n6 p1] ++ x7) ++ (x8 ++ [])) := ⟨_, rfl⟩
    rw [← hAX] at HE
    have hal : AX.length = 17 := by rw [hAX]; simp [l7, l8]
    have HAL := uhide hal
    have HFA : Hid ((Tryz.prog.info? 138).map (·.size) = some AX.length) := by show _ = _; rw [hal]; exact Tryz.zObj_impl_Obj
    have HTH : Hid (w7.there (w.heap.size + 1) 0 AX.length) := by show World.there _ _ _ _; rw [hal]; exact HE.out.res.there 0 17 (by decide)
    have HRG : Hid (w7.rangeAt w.heap.size 0 AX) := HE.out.box.range 0 AX (fun j v h => by rw [Nat.zero_add]; exact h)
    clear hAX hal OB OZ B0 HZ O6 K6 W6 K7 W7 K8 W8 B7 B8 E6 E7 OB7 OB5 OB6 HB5 U7 U8 HC7 HC8 l7 l8 HY7 HY8 HLy7 HLy8 HL7 Hy7 Hy8
    go_wp2_with (first
      | ((with_reducible refine wpList_load_row2 ?qqg41 138 ?qqx41 ?qqo41 w.heap.size 0 ?qqh41 AX Tryz.rObj_impl_Obj HFA.out HRG.out ?_); (case qqg41 => rfl); (case qqo41 => rfl); (case qqh41 => simp [Act.eval, Act.put]))
      | ((with_reducible refine wpList_store_cells ?qqg42 138 ?qqx42 ?qqy42 ?qqo42 ?qqd42 (w.heap.size + 1) 0 ?qqh42 (.agg AX.toArray) ?qqv42 AX cells_agg HE.out.ones HFA.out HTH.out ?_); (case qqg42 => rfl); (case qqo42 => rfl); (case qqd42 => rfl); (case qqh42 => simp [Act.eval, Act.put]); (case qqv42 => simp [Act.eval, Act.put]); intro w8 e8; have HF := uhide (HE.out.fin HAL.out e8); clear e8)
      )
    obtain ⟨hres, S', ho', hS', hb'⟩ := HF.out
    refine bodyPost_ret (v := .agg AX.toArray) ?_ rfl (copied.mk' ho' hS' hb')
    exact results_row rfl _ _ (w.heap.size + 1) _ _ (by simp [Act.put]) hres Tryz.rObj_impl_Obj HFA.out
end Go.Proofs.YtdnodaoeflbfkaaGreat
/- Values copied by the program: impl.copyOfRight, in memory of its own. -/
namespace Go.Proofs.YtdnodaoeflbfkaaGreat
open Go.RowKit Go.BigFrame
set_option linter.unusedVariables false

theorem strs_news {w : World} {lo hi : Nat} {n : Nat} {c : UD} {ad : Addr} {cap : Nat} (ht : tyS 1 n c 0) (h : uS w lo hi 1 n c (.slice (some ad) n cap)) :
    ∃ news, news.length = n * 1 ∧ (∀ j u, news[j]? = some u → w.cell? (ad.add j) = some u) ∧ (∀ u ∈ news, u.oneCell' = true) ∧ ∀ w', oH w' c news [] := by
  have hp : ∀ f ∈ uE 0, ∀ k t, f ≠ .l k t := by intro f hf k t e; subst e; simp [uE] at hf
  rcases Nat.eq_zero_or_pos n with h0 | hpos
  · subst h0
    have hc : c = .nil := by
      have := ht.2.2.2.1
      cases c with
      | nil => rfl
      | p v r => rw [UD.len_p] at this; omega
      | l k n cs r => rw [UD.len_l] at this; omega
    subst hc
    exact ⟨[], rfl, (fun j u hj => by simp at hj), (fun u hu => by cases hu), fun w' => ⟨rfl, rfl⟩⟩
  · obtain ⟨b, off, e, _, hm⟩ := h.cells hpos
    cases e
    obtain ⟨xs, h1, h2⟩ := hm.list
    refine ⟨xs, by rw [h1.len, ht.2.2.2.1], h2, ?_, fun w' => plain_own hp ht.2.2.2.2 h1⟩
    have ht5 := ht.2.2.2.2
    clear h2 hm h
    have key : ∀ (d : UD) (ys : List Value) (i : Nat), tyU d (uE 0) i → uH w lo hi d ys → ∀ u ∈ ys, u.oneCell' = true := by
      intro d
      induction d with
      | nil => intro ys i _ h u hu; rw [show ys = [] from h] at hu; cases hu
      | p v r ih =>
        intro ys i ⟨⟨f, hf, hv⟩, h2⟩ ⟨zs, e, h⟩ u hu
        subst e
        rcases List.mem_cons.1 hu with rfl | hu
        · cases f with
          | i k => obtain ⟨z, rfl, _⟩ := hv; rfl
          | s => obtain ⟨z, rfl, _⟩ := hv; rfl
          | b => obtain ⟨z, rfl⟩ := hv; rfl
          | l k t => cases hv
        · exact ih zs (i + 1) h2 h u hu
      | l k n cs r ih1 ih2 =>
        intro ys i ⟨⟨t, hf, _⟩, _⟩ _
        exact (hp _ (List.mem_of_getElem? hf) k t rfl).elim
    exact key c xs 0 ht5 h1
theorem own2_blk {w : World} {B n : Nat} {v : Value} {e : TypeId} {size : Nat} {xs : List Value} (h : w.ownsRow B e size v n xs) : own2 (blkOf v) B w.heap.size := by
  refine ⟨?_, ublk_lt h⟩
  unfold blkOf
  split
  · simp
  · exact List.nodup_nil
theorem oS_flat {w : World} {B k n : Nat} {v : Value} {e : TypeId} {xs : List Value} {cs : UD} (hk : 0 < k) (h : w.ownsRow B e k v n xs) (ho : oH w cs xs []) : oS w k n cs v (blkOf v) := by
  refine ⟨hk, e, xs, [], ⟨h.1, ?_⟩, ho, by simp⟩
  rcases h.2 with hh | ⟨g, cap, cur, a1, a2, a3⟩
  · exact .inl hh
  · exact .inr ⟨g, cap, cur, a1, Nat.zero_le _, a3⟩
theorem Tryz.infoStrU : (Tryz.prog.info? 9).map (fun i => (i.zero, i.size, i.bytes)) = some (some (.string ByteArray.empty), 1, 16) := by kernel_rfl
end Go.Proofs.YtdnodaoeflbfkaaGreat
/- Values copied by the spec: spec.l4Copy. -/
namespace Go.Proofs.YtdnodaoeflbfkaaGreat
open Go.RowKit Go.BigFrame
set_option linter.unusedVariables false
/-- append of a list that came in (or of nil) behind a row of one's own, at a step of a region that draws -/
theorem step_append_list {P : Program} {w : World} {ops : Array Oper} {o : Oper} {a : Act} {K : Act → World → Prop} {Q : Exit → Act → World → Prop} {E : Prop} (hgd : o.guard = none) (s x : Operand) (t : TypeId)
    (ho : o.op = .call { callee := .builtin .append, args := #[s, x], argTypes := #[t, t] })
    (base : Nat) (e : TypeId) (i : TypeInfo) (z : Value) (size bytes : Nat) (ht : P.underlying t = some (.slice e)) (hi : P.info? e = some i) (hz : i.zero = some z)
    (hsize : i.size = size) (hby : i.bytes = bytes) (hzs : z.cells.size = size) (hsz : 0 < size)
    (v : Value) (n : Nat) (xs : List Value) (hs : a.eval s = v) (hown : w.ownsRow base e size v n xs)
    (xv : Value) (hx : a.eval x = xv) (m : Nat) (news : List Value) (hl : news.length = m * size) (h1 : ∀ u ∈ news, u.oneCell' = true)
    (hsrc : (xv = .slice none 0 0 ∧ m = 0) ∨ ∃ ad c, xv = .slice (some ad) m c ∧ ∀ j u, news[j]? = some u → w.cell? (ad.add j) = some u)
    (h63 : n + m ≤ maxLen) (hbytes : (n + m) * bytes ≤ 140737488355328) (hbase : base ≤ w.heap.size)
    (h : ∀ v' w', w'.ownsRow base e size v' (n + m) (xs ++ news) → w.grownBy w' v.ownBlock → (v'.ownBlock = v.ownBlock ∨ v'.ownBlock = some w.heap.size) → K (a.put o.dst v') w') :
    if Region.wanted o (yielded ops a.tmps) = true then Oper.wp P o a w K Q else E := by
  have hw : Region.wanted o (yielded ops a.tmps) = true := by simp [Region.wanted, hgd]
  rw [if_pos hw]
  rcases hsrc with ⟨rfl, rfl⟩ | ⟨ad, c, rfl, hnews⟩
  · have hn0 : news = [] := by simpa using hl
    subst hn0
    have hrun := run_append_owned_none (P := P) (w := w) base t o.type e i size ht hi v n xs hown
    have := h v w (by simpa using hown) (World.grownBy.refl w _) (Or.inl rfl)
    unfold Oper.wp
    simp [execOp, ho, resolve, invoke, builtin, hs, hx, hrun, Result.andThen]
    exact this
  · obtain ⟨v', w', hr, h2, h3, _, h5⟩ := run_append_own_at (P := P) w base t o.type e i z size bytes ht hi hz hsize hby hzs hsz v n xs hown ad m c news hl hnews h1 h63 hbytes hbase
    unfold Oper.wp execOp
    simp only [ho, resolve, invoke, builtin, Sem.run_bind, Sem.run_pure, Result.andThen_ok, List.map_toArray, List.map_cons, List.map_nil, hs, hx, hr]
    exact h v' w' h2 h3 h5
/-- behind the first region: the argument, the result, the new struct B, its list of its own -/
structure CpS (w wx : World) (T : TypeId) (vs zs os : List Value) (n3 : Nat) (c3 : UD) (v3 : Value) (B : Nat) (S3 : List Nat) : Prop where
  row : oS wx 1 n3 c3 v3 S3
  own : own2 S3 (w.heap.size + 1 + 1) wx.heap.size
  not : B ∉ S3
  le : w.heap.size + 1 + 1 ≤ B
  ob : objU wx B T os
  oa : objU wx w.heap.size T vs
  oz : objU wx (w.heap.size + 1) T zs
  bel : Below w.heap.size w wx
theorem CpS.put {w wx : World} {T : TypeId} {vs zs os : List Value} {n3 : Nat} {c3 : UD} {v3 : Value} {B : Nat} {S3 : List Nat} (h : CpS w wx T vs zs os n3 c3 v3 B S3) (j : Nat) (v : Value) : CpS w (wx.setCell ⟨B, j, none⟩ v) T vs zs (os.set j v) n3 c3 v3 B S3 where
  row := h.row.frame (fun g hg => Below.heap_setCell wx ⟨B, j, none⟩ v g (fun e => h.not (by have e' : g = B := e; exact e' ▸ hg)))
  own := h.own.mono (Nat.le_refl _) (by simp)
  not := h.not
  le := h.le
  ob := h.ob.set j v
  oa := h.oa.other _ (by have := h.le; simp; omega) _
  oz := h.oz.other _ (by have := h.le; simp; omega) _
  bel := h.bel.setCell (by have := h.le; simp; omega) _
/-- what the append leaves: all but the new struct -/
structure CpG (w wx : World) (T : TypeId) (vs zs : List Value) (n3 : Nat) (c3 : UD) (v3 : Value) (S3 : List Nat) : Prop where
  row : oS wx 1 n3 c3 v3 S3
  own : own2 S3 (w.heap.size + 1 + 1) wx.heap.size
  oa : objU wx w.heap.size T vs
  oz : objU wx (w.heap.size + 1) T zs
  bel : Below w.heap.size w wx
theorem CpG.mk' {w wx X w3 : World} {T e : TypeId} {vs zs : List Value} {n3 : Nat} {c3 : UD} {v v3 : Value} {news : List Value} (hA : objU wx w.heap.size T vs) (hZ : objU wx (w.heap.size + 1) T zs) (hB : Below w.heap.size w wx) (hX : Below wx.heap.size wx X)
    (hv : ∀ g, v.ownBlock = some g → w.heap.size + 1 + 1 ≤ g) (hown : w3.ownsRow (w.heap.size + 1 + 1) e 1 v3 n3 news) (hgrow : X.grownBy w3 v.ownBlock) (ho : oH w3 c3 news []) : CpG w w3 T vs zs n3 c3 v3 (blkOf v3) := by
  have hz : w.heap.size + 1 + 1 ≤ wx.heap.size := hZ.lt
  have hk : Below (w.heap.size + 1 + 1) X w3 := Below.grown (Below.refl _ _) hgrow (Nat.le_trans hz hX.size) hv
  have hall : Below (w.heap.size + 1 + 1) wx w3 := (hX.mono hz).trans hk
  exact ⟨oS_flat (by decide) hown ho, own2_blk hown, (hall.block _ (by omega)).trans hA, (hall.block _ (by omega)).trans hZ, hB.trans (hall.mono (by omega))⟩
theorem CpG.fresh {w wx : World} {T : TypeId} {vs zs : List Value} {n3 : Nat} {c3 : UD} {v3 : Value} {S3 : List Nat} (h : CpG w wx T vs zs n3 c3 v3 S3) (os : List Value) : CpS w (wx.alloc (.cells os.toArray T)) T vs zs os n3 c3 v3 wx.heap.size S3 where
  row := h.row.below ((Below.refl _ _).alloc (Nat.le_refl _) _)
  own := h.own.mono (Nat.le_refl _) (by simp)
  not := fun g => by have := h.own.2 _ g; omega
  le := h.oz.lt
  ob := objU.new _ _ _
  oa := h.oa.old _
  oz := h.oz.old _
  bel := h.bel.alloc h.bel.size _
theorem CpG.old {w w3 X : World} {T : TypeId} {vs zs os : List Value} {n3 : Nat} {c3 : UD} {v v3 : Value} {B : Nat} (h : CpG w w3 T vs zs n3 c3 v3 (blkOf v3)) (hle : w.heap.size + 1 + 1 ≤ B) (hB : objU X B T os) (hgrow : X.grownBy w3 v.ownBlock)
    (hat : v3.ownBlock = v.ownBlock ∨ v3.ownBlock = some X.heap.size) (hne : ∀ g, v.ownBlock = some g → g ≠ B) : CpS w w3 T vs zs os n3 c3 v3 B (blkOf v3) where
  row := h.row
  own := h.own
  not := fun hg => by
    have hb := hB.lt
    have e : v3.ownBlock = some B := by
      unfold blkOf at hg
      split at hg
      · rename_i g hh
        rw [hh, List.mem_singleton.1 hg]
      · cases hg
    rcases hat with hh | hh
    · exact hne B (by rw [← hh]; exact e) rfl
    · rw [e] at hh
      have := Option.some.inj hh
      omega
  le := hle
  ob := (hgrow.block B hB.lt (fun e => hne B e.symm rfl)).trans hB
  oa := h.oa
  oz := h.oz
  bel := h.bel
theorem CpS.step {w wx w' : World} {T : TypeId} {vs zs os : List Value} {n3 : Nat} {c3 : UD} {v3 : Value} {B H : Nat} {S3 : List Nat} (h : CpS w wx T vs zs os n3 c3 v3 B S3) (hb : Below H wx w') (hB : B < H) (hS : ∀ g ∈ S3, g < H) : CpS w w' T vs zs os n3 c3 v3 B S3 where
  row := h.row.frame (fun g hg => hb.block g (hS g hg))
  own := h.own.mono (Nat.le_refl _) hb.size
  not := h.not
  le := h.le
  ob := (hb.block B hB).trans h.ob
  oa := (hb.block _ (by have := h.le; omega)).trans h.oa
  oz := (hb.block _ (by have := h.le; omega)).trans h.oz
  bel := h.bel.trans (hb.mono (by have := h.le; omega))
theorem AS.put {base : Nat} {w : World} {e : TypeId} {k : Nat} {v : Value} {cs : UD} {n : Nat} (h : AS base w e k v cs n) (p : Addr) (hp : p.block < base) (u : Value) : AS base (w.setCell p u) e k v cs n := by
  obtain ⟨h0, xs, S, h1, h2, h3, h4⟩ := h
  exact ⟨h0, xs, S, uowns_frame h1 (fun x hx => Below.heap_setCell w p u x (by have := (ublk_lt h1 x hx).1; omega)), h2.frame _ _ _ (fun g hg => Below.heap_setCell w p u g (by have := (h3.2 g hg).1; omega)), h3.mono (Nat.le_refl _) (by simp), h4⟩
theorem empty_own {X : World} {B H : Nat} {e : TypeId} (h : X.heap.size = H) (hb : B ≤ H) : (X.alloc (.cells #[] e)).ownsRow B e 1 (.slice (some ⟨H, 0, none⟩) 0 0) 0 [] := by
  subst h
  exact World.ownsRow_lit X #[] 0 hb (by decide) rfl
theorem objU.dr {w : World} {b : Nat} {t : TypeId} {xs : List Value} (h : objU w b t xs) : objU w.drew b t xs := h
theorem slot_blk {H g n c : Nat} (h : (Value.slice (some ⟨H, 0, none⟩) n c).ownBlock = some g) : g = H := by
  simpa [Value.ownBlock] using h.symm
set_option maxRecDepth 20000 in
set_option maxHeartbeats 3200000 in
theorem l4Copy_N : ∀ (N : Nat) (d : UD) (xs : List Value) (lo hi : Nat) (w : World), uszD d < N → tyL d (uE 6) → wt d ≤ 1048576 → uH w lo hi d xs →
    Calls Tryz.prog 113 #[.agg xs.toArray] w fun e w' => ∃ ys S, e = .returned (.agg ys.toArray) ∧ oH w' d ys S ∧ own2 S w.heap.size w'.heap.size ∧ Below w.heap.size w w' := by
  intro N
  induction N with
  | zero => intro d xs lo hi w hN; omega
  | succ N ihN =>
  intro d xs lo hi w hN ht hwt hx
  have HI := uhide ihN
  clear ihN
  obtain ⟨i0, hinf, hz0, hz1, hz2⟩ : ∃ i, Tryz.prog.info? 90 = some i ∧ i.zero = some (.agg #[.int .i64 0, .string ByteArray.empty, .int .i64 0, .slice none 0 0, .slice none 0 0]) ∧ i.size = 5 ∧ i.bytes ≤ 1000 := by
    have h := Tryz.infoUValue
    cases e : Tryz.prog.info? 90 with
    | none => rw [e] at h; cases h
    | some i => rw [e] at h; simp at h; exact ⟨i, rfl, h.1, h.2.1, h.2.2⟩
  have HCF : ∀ xs w, (callFunc 113 xs).run Tryz.prog w = .ok (.enter 113 xs) w := fun xs w => callFunc_enter Tryz.func113 (by kernel_rfl) (by kernel_rfl) xs w
  obtain ⟨j0, hjnf, hy0, hy1, hy2⟩ := infoU Tryz.infoStrU
  obtain ⟨z0, z1, z2, n3, c3, n4, c4, rfl, g0, g1, g2, g3, g4⟩ := partsValue ht
  obtain ⟨_, rfl, ⟨_, rfl, ⟨_, rfl, ⟨v3, _, rfl, s3, ⟨v4, _, rfl, s4, rfl⟩⟩⟩⟩⟩ := hx
  obtain ⟨a3, p3, rfl, t3⟩ := s3
  obtain ⟨a4, p4, rfl, t4⟩ := s4
  simp only [wt, wtP] at hwt
  simp only [uszD] at hN
  have h3 : uS w lo hi 1 n3 c3 (.slice a3 n3 p3) := ⟨_, _, rfl, t3⟩
  have H4 : Hid (uS w lo hi 5 n4 c4 (.slice a4 n4 p4)) := ⟨_, _, rfl, t4⟩
  have G4 := uhide g4
  have hn4 : n4 ≤ 1048576 := by omega
  have hn3 : n3 ≤ 1048576 := by omega
  have Hb : Hid (∀ q, q < n4 → (q + 1) * i0.bytes ≤ 140737488355328) := fun q hq => Nat.le_trans (Nat.mul_le_mul (show q + 1 ≤ 1048576 by omega) hz2) (by decide)
  have Hw : Hid (wt c4 ≤ 1048576 ∧ uszD c4 < N) := ⟨by omega, by omega⟩
  obtain ⟨news, m1, m2, m3, m4⟩ : ∃ news, news.length = n3 * 1 ∧ (∀ w', Below w.heap.size w w' → (Value.slice a3 n3 p3 = .slice none 0 0 ∧ n3 = 0) ∨ ∃ ad c, Value.slice a3 n3 p3 = .slice (some ad) n3 c ∧ ∀ j u, news[j]? = some u → w'.cell? (ad.add j) = some u) ∧ (∀ u ∈ news, u.oneCell' = true) ∧ ∀ w', oH w' c3 news [] := by
    cases a3 with
    | none =>
      have hp : p3 = 0 := t3.1.2.1 rfl
      have hn : n3 = 0 := by have := t3.1.1; omega
      subst hp hn
      have hc3 : c3 = .nil := by
        have := g3.2.2.2.1
        cases c3 with
        | nil => rfl
        | p v r => rw [UD.len_p] at this; omega
        | l k n cs r => rw [UD.len_l] at this; omega
      subst hc3
      exact ⟨[], rfl, fun w' hb => Or.inl ⟨rfl, rfl⟩, (fun u hu => by cases hu), fun w' => ⟨rfl, rfl⟩⟩
    | some ad =>
      obtain ⟨news, q1, q2, q3, q4⟩ := strs_news g3 h3
      refine ⟨news, q1, fun w' hb => Or.inr ⟨ad, p3, rfl, fun j u hj => ?_⟩, q3, q4⟩
      obtain ⟨news', e1, e2, e3, e4⟩ := strs_news g3 (h3.below hb)
      have hlt := World.block_lt_of_cell? _ _ (q2 j u hj)
      exact (hb.cell hlt).trans (q2 j u hj)
  have M1 := uhide m1
  have M2 := uhide m2
  have M3 := uhide m3
  have M4 := uhide m4
  clear m1 m2 m3 m4 h3 g3
  clear t3 t4 g0 g1 g2 g4 ht hwt hN hz2
  go_enter Tryz.func113, Tryz.ntmps113
  go_wp2
  have OA : Hid (objU ((w.alloc (.cells #[.int .i64 z0, .string z1, .int .i64 z2, .slice a3 n3 p3, .slice a4 n4 p4] 90)).alloc (.cells #[.int .i64 0, .string ⟨#[]⟩, .int .i64 0, .slice none 0 0, .slice none 0 0] 90)) w.heap.size 90 [.int .i64 z0, .string z1, .int .i64 z2, .slice a3 n3 p3, .slice a4 n4 p4]) := (objU.new2 _ _ rfl).old _
  have OR : Hid (objU ((w.alloc (.cells #[.int .i64 z0, .string z1, .int .i64 z2, .slice a3 n3 p3, .slice a4 n4 p4] 90)).alloc (.cells #[.int .i64 0, .string ⟨#[]⟩, .int .i64 0, .slice none 0 0, .slice none 0 0] 90)) (w.heap.size + 1) 90 [.int .i64 0, .string ⟨#[]⟩, .int .i64 0, .slice none 0 0, .slice none 0 0]) := objU.new2 _ _ (by simp)
  have HB : Hid (Below w.heap.size w ((w.alloc (.cells #[.int .i64 z0, .string z1, .int .i64 z2, .slice a3 n3 p3, .slice a4 n4 p4] 90)).alloc (.cells #[.int .i64 0, .string ⟨#[]⟩, .int .i64 0, .slice none 0 0, .slice none 0 0] 90))) := ((Below.refl _ _).alloc (Nat.le_refl _) _).alloc (by simp) _
  have HZ : Hid (((w.alloc (.cells #[.int .i64 z0, .string z1, .int .i64 z2, .slice a3 n3 p3, .slice a4 n4 p4] 90)).alloc (.cells #[.int .i64 0, .string ⟨#[]⟩, .int .i64 0, .slice none 0 0, .slice none 0 0] 90)).heap.size = w.heap.size + 1 + 1) := by show _ = _; simp
  generalize (w.alloc (.cells #[.int .i64 z0, .string z1, .int .i64 z2, .slice a3 n3 p3, .slice a4 n4 p4] 90)).alloc (.cells #[.int .i64 0, .string ⟨#[]⟩, .int .i64 0, .slice none 0 0, .slice none 0 0] 90) = wx at *
  have q0 := OA.out.cell 0 _ rfl
  have q1 := OA.out.cell 1 _ rfl
  have q2 := OA.out.cell 2 _ rfl
  have q3 := OA.out.cell 3 _ rfl
  have hV : w.heap.size < wx.heap.size := by have := HZ.out; omega
  go_cut [3] from 5 to 15 (fun s3 wc => ∃ (B : Nat) (a3n : Option Addr) (p3n : Nat) (S3 : List Nat), s3 = .pointer (some ⟨B, 0, none⟩) ∧ Hid (CpS w wc 90 [.int .i64 z0, .string z1, .int .i64 z2, .slice a3 n3 p3, .slice a4 n4 p4] [.int .i64 0, .string ⟨#[]⟩, .int .i64 0, .slice none 0 0, .slice none 0 0] [.int .i64 z0, .string z1, .int .i64 z2, .slice a3n n3 p3n, .slice none 0 0] n3 c3 (.slice a3n n3 p3n) B S3))
  case first =>
    have hne0 := World.new_ne wx ⟨w.heap.size, 0, none⟩ q0
    have hne1 := World.new_ne wx ⟨w.heap.size, 1, none⟩ q1
    have hne2 := World.new_ne wx ⟨w.heap.size, 2, none⟩ q2
    have hne3 := World.new_ne wx ⟨w.heap.size, 3, none⟩ q3
    go_region_held3? (fun w' => w'.cell? ⟨w.heap.size, 0, none⟩ = some (.int .i64 z0) ∧ w'.cell? ⟨w.heap.size, 1, none⟩ = some (.string z1) ∧ w'.cell? ⟨w.heap.size, 2, none⟩ = some (.int .i64 z2) ∧ w'.cell? ⟨w.heap.size, 3, none⟩ = some (.slice a3 n3 p3)) (first | go_keep | exact ⟨(((((KS.out.put 0 _).put 1 _).put 2 _).put 3 _).put 4 _).oa.cell 0 _ rfl, (((((KS.out.put 0 _).put 1 _).put 2 _).put 3 _).put 4 _).oa.cell 1 _ rfl, (((((KS.out.put 0 _).put 1 _).put 2 _).put 3 _).put 4 _).oa.cell 2 _ rfl, (((((KS.out.put 0 _).put 1 _).put 2 _).put 3 _).put 4 _).oa.cell 3 _ rfl⟩)
      ((refine step_append_list (by rfl) _ _ _ (by rfl) (w.heap.size + 1 + 1) 9 j0 _ 1 16 Tryz.underlying23 hjnf hy0 hy1 hy2 rfl (by decide) (.slice (some ⟨_, 0, none⟩) 0 0) 0 [] (by rfl) (by first | exact (empty_own (by simp) (by have := HZ.out; omega)).drew | exact ((empty_own (by simp) (by have := HZ.out; omega)).alloc _).drew) _ (by rfl) n3 news M1.out M3.out (M2.out _ (HB.out.trans (Below.mono (by repeat (first | with_reducible exact Below.refl _ _ | with_reducible refine Below.drew ?_ | with_reducible refine Below.alloc ?_ (by simp) _)) (Nat.le_of_lt hV)))) (by unfold maxLen; omega) (by omega) (by have := HZ.out; simp; omega) ?_
        intro v' w3 hown3 hgrow3 hat3
        rw [Nat.zero_add, List.nil_append] at hown3
        obtain ⟨a3n, p3n, rfl⟩ := uowns_slice hown3
        have KG : Hid (CpG w w3 90 [.int .i64 z0, .string z1, .int .i64 z2, .slice a3 n3 p3, .slice a4 n4 p4] [.int .i64 0, .string ⟨#[]⟩, .int .i64 0, .slice none 0 0, .slice none 0 0] n3 c3 (.slice a3n n3 p3n) (blkOf (.slice a3n n3 p3n))) := CpG.mk' OA.out OR.out HB.out (by repeat (first | with_reducible exact Below.refl _ _ | with_reducible refine Below.drew ?_ | with_reducible refine Below.alloc ?_ (by simp) _)) (fun g hg => by have hz' := HZ.out; have e := slot_blk hg; (try simp at e); omega) hown3 hgrow3 (M4.out w3)
        (first
          | (have KS : Hid (CpS w w3 90 [.int .i64 z0, .string z1, .int .i64 z2, .slice a3 n3 p3, .slice a4 n4 p4] [.int .i64 0, .string ⟨#[]⟩, .int .i64 0, .slice none 0 0, .slice none 0 0] [.int .i64 0, .string ⟨#[]⟩, .int .i64 0, .slice none 0 0, .slice none 0 0] n3 c3 (.slice a3n n3 p3n) wx.heap.size (blkOf (.slice a3n n3 p3n))) := KG.out.old (by have := HZ.out; omega) (((objU.new2 _ _ (by simp)).old _).dr) hgrow3 hat3 (fun g hg => by have hz' := HZ.out; have e := slot_blk hg; (try simp at e); omega)
             have b0 := KS.out.ob.cell 0 _ rfl
             have b1 := KS.out.ob.cell 1 _ rfl
             have b2 := KS.out.ob.cell 2 _ rfl
             have b3 := KS.out.ob.cell 3 _ rfl
             have b4 := KS.out.ob.cell 4 _ rfl
             have e0 := KS.out.ob.fz 0
             have e1 := KS.out.ob.fz 1
             have e2 := KS.out.ob.fz 2
             have e3 := KS.out.ob.fz 3
             have e4 := KS.out.ob.fz 4)
          | (have KS : Hid (CpS w w3 90 [.int .i64 z0, .string z1, .int .i64 z2, .slice a3 n3 p3, .slice a4 n4 p4] [.int .i64 0, .string ⟨#[]⟩, .int .i64 0, .slice none 0 0, .slice none 0 0] [.int .i64 0, .string ⟨#[]⟩, .int .i64 0, .slice none 0 0, .slice none 0 0] n3 c3 (.slice a3n n3 p3n) (wx.heap.size + 1) (blkOf (.slice a3n n3 p3n))) := KG.out.old (by have := HZ.out; omega) ((objU.new2 _ _ (by simp)).dr) hgrow3 hat3 (fun g hg => by have hz' := HZ.out; have e := slot_blk hg; (try simp at e); omega)
             have b0 := KS.out.ob.cell 0 _ rfl
             have b1 := KS.out.ob.cell 1 _ rfl
             have b2 := KS.out.ob.cell 2 _ rfl
             have b3 := KS.out.ob.cell 3 _ rfl
             have b4 := KS.out.ob.cell 4 _ rfl
             have e0 := KS.out.ob.fz 0
             have e1 := KS.out.ob.fz 1
             have e2 := KS.out.ob.fz 2
             have e3 := KS.out.ob.fz 3
             have e4 := KS.out.ob.fz 4)
          | skip)
        have t0 := KG.out.oa.cell 0 _ rfl
        have t1 := KG.out.oa.cell 1 _ rfl
        have t2 := KG.out.oa.cell 2 _ rfl
        have t3 := KG.out.oa.cell 3 _ rfl
        have n0 := World.new_ne w3 ⟨w.heap.size, 0, none⟩ t0
        have n1 := World.new_ne w3 ⟨w.heap.size, 1, none⟩ t1
        have n2 := World.new_ne w3 ⟨w.heap.size, 2, none⟩ t2
        have n3' := World.new_ne w3 ⟨w.heap.size, 3, none⟩ t3
        clear hown3 hgrow3 hat3))
    all_goals go_wp2_with fail
    all_goals go_meet
    all_goals first
      | exact ⟨_, _, _, _, rfl, KG.out.fresh _⟩
      | exact ⟨_, _, _, _, rfl, ((((KS.out.put 0 _).put 1 _).put 2 _).put 3 _).put 4 _⟩
  case rest =>
  obtain ⟨B, a3n, p3n, S3, rfl, G⟩ := hcut
  clear q0 q1 q2 q3 hV OA OR HB HZ M1 M2 M3 M4 hjnf hy0 hy1 hy2
  have HBW : Hid (B < wc.heap.size ∧ (∀ g ∈ S3, g < wc.heap.size) ∧ w.heap.size + 1 + 1 ≤ wc.heap.size) := ⟨G.out.ob.lt, fun g hg => (G.out.own.2 g hg).2, by have := G.out.le; have := G.out.ob.lt; omega⟩
  have W3 := uhide G.out.own
  have hGB := G.out.le
  go_wp2
  go_loopw [4] (fun i wr => ∃ (q : Nat) (s : Value), q ≤ n4 ∧ i = .int .i64 q ∧ Hid (AS wc.heap.size wr 90 5 s (c4.takeN (q * 5)) q) ∧ Hid (CpS w wr 90 [.int .i64 z0, .string z1, .int .i64 z2, .slice a3 n3 p3, .slice a4 n4 p4] [.int .i64 0, .string ⟨#[]⟩, .int .i64 0, .slice none 0 0, .slice none 0 0] [.int .i64 z0, .string z1, .int .i64 z2, .slice a3n n3 p3n, s] n3 c3 (.slice a3n n3 p3n) B S3) ∧ Hid (wc.heap.size ≤ wr.heap.size)) (fun i _ => n4 - (intOf i).toNat)
  case atStart => exact ⟨0, .slice none 0 0, Nat.zero_le _, rfl, by rw [Nat.zero_mul]; exact AS.nil _ _ _ _, G, Nat.le_refl _⟩
  case round =>
    clear G
    obtain ⟨q, s, hq, rfl, HA, HC, HS⟩ := hrel
    obtain ⟨sa, sc, rfl⟩ := HA.out.slice
    have v4 := HC.out.oa.cell 4 _ rfl
    have c4b := HC.out.ob.cell 4 _ rfl
    have f4b := HC.out.ob.fz 4
    by_cases hlt : q < n4
    · have hqi : (q : Int) < (n4 : Int) := by omega
      obtain ⟨b, off, rfl, hbk, hm⟩ := (H4.out.below HC.out.bel).cells (by omega)
      have htr := G4.out.row hlt
      have hwr : wt (rowU c4 5 q) ≤ 1048576 := by have := wt_row c4 5 q; have := Hw.out.1; omega
      have hsz : uszD (rowU c4 5 q) < N := by have := uszD_row c4 5 q; have := Hw.out.2; omega
      obtain ⟨xs, hh, hcl⟩ := (hm.row 5 q).hand
      have Hcon : Hid (∀ wx, Below wr.heap.size wr wx → Calls Tryz.prog 113 #[.agg xs.toArray] wx fun e w' => ∃ ys S, e = .returned (.agg ys.toArray) ∧ oH w' (rowU c4 5 q) ys S ∧ own2 S wx.heap.size w'.heap.size ∧ Below wx.heap.size wx w') := fun wx hb => HI.out _ xs lo hi wx hsz htr hwr (hh.below hb)
      have Htr := uhide htr
      obtain ⟨z0r, z1r, z2r, n3r, c3r, n4r, c4r, hR, g0, g1, g2, g3, g4⟩ := partsValue htr
      have HSH : Hid (∀ (w2 : World) ys S, oH w2 (rowU c4 5 q) ys S → ∃ a3s p3s a4s p4s, ys = [.int .i64 z0r, .string z1r, .int .i64 z2r, .slice a3s n3r p3s, .slice a4s n4r p4s]) := by
        intro w2 ys S h
        rw [hR] at h
        obtain ⟨_, rfl, ⟨_, rfl, ⟨_, rfl, ⟨v3, _, _, _, rfl, _, _, ⟨_, _, o3, _⟩, ⟨v4, _, _, _, rfl, _, _, ⟨_, _, o4, _⟩, ⟨rfl, _⟩⟩⟩⟩⟩⟩ := h
        obtain ⟨a3, p3, rfl⟩ := uowns_slice o3
        obtain ⟨a4, p4, rfl⟩ := uowns_slice o4
        exact ⟨_, _, _, _, rfl⟩
      have Hrow := uhide (UD.take_row c4 5 q)
      have Hrl := uhide (rowU_len c4 5 q n4 G4.out.2.2.2.1 hlt)
      rw [hR] at hh
      obtain ⟨_, rfl, ⟨_, rfl, ⟨_, rfl, ⟨v3r, _, rfl, s3r, ⟨v4r, _, rfl, s4r, rfl⟩⟩⟩⟩⟩ := hh
      obtain ⟨a3r, p3r, rfl, t3r⟩ := s3r
      obtain ⟨a4r, p4r, rfl, t4r⟩ := s4r
      have q0 : wr.cell? ⟨b, off + q * 5, none⟩ = some (.int .i64 z0r) := hcl 0 _ rfl
      have q1 : wr.cell? ⟨b, off + q * 5 + 1, none⟩ = some (.string z1r) := hcl 1 _ rfl
      have q2 : wr.cell? ⟨b, off + q * 5 + 2, none⟩ = some (.int .i64 z2r) := hcl 2 _ rfl
      have q3 : wr.cell? ⟨b, off + q * 5 + 3, none⟩ = some (.slice a3r n3r p3r) := hcl 3 _ rfl
      have q4 : wr.cell? ⟨b, off + q * 5 + 4, none⟩ = some (.slice a4r n4r p4r) := hcl 4 _ rfl
      clear hR hcl hm htr hwr hsz g0 g1 g2 g3 g4 t3r t4r
      have hbq := Hb.out q hlt
      have v4 := HC.out.oa.cell 4 _ rfl
      go_wp2
      go_region_law (first
        | (refine step_call_of (by rfl) 113 _ _ (by rfl) HCF #[.agg #[.int .i64 z0r, .string z1r, .int .i64 z2r, .slice a3r n3r p3r, .slice a4r n4r p4r]] (by simp [Act.eval]) (Hcon.out _ (by repeat (first | with_reducible exact Below.refl _ _ | with_reducible refine Below.drew ?_))) ?_
           rintro e w2 ⟨ys, S, rfl, ho, hS, hb2⟩
           obtain ⟨a3s, p3s, a4s, p4s, rfl⟩ := HSH.out _ _ _ ho
           refine ⟨_, rfl, ?_⟩
           have HW2 : Hid (Below wr.heap.size wr w2) := (show Below wr.heap.size wr wr.drew from (Below.refl _ _).drew).trans (hb2.mono (by simp))
           have hS' : own2 S wr.heap.size w2.heap.size := hS.mono (by simp) (Nat.le_refl _)
           obtain ⟨hlen, xs0, S0, how0, hoh0, hS0, hne⟩ := HA.out
           have hvb := fun g hg => (ublk_lt how0 g hg).2
           have how := uowns_frame how0 (fun x hx => HW2.out.block x (ublk_lt how0 x hx).2)
           have How := uhide how
           have HD := uhide (And.intro hlen (And.intro (hoh0.below HW2.out) (And.intro hS0 (And.intro hne hvb))))
           have Ho := uhide ho
           have HSS := uhide hS'
           have Hone := uhide (one_cell Htr.out (ho.hand hS.2))
           have HC2 : Hid (CpS w w2 90 [.int .i64 z0, .string z1, .int .i64 z2, .slice a3 n3 p3, .slice (some ⟨b, off, none⟩) n4 p4] [.int .i64 0, .string ⟨#[]⟩, .int .i64 0, .slice none 0 0, .slice none 0 0] [.int .i64 z0, .string z1, .int .i64 z2, .slice a3n n3 p3n, .slice sa q sc] n3 c3 (.slice a3n n3 p3n) B S3) := HC.out.step HW2.out (by have := HBW.out.1; have := HS.out; omega) (fun g hg => by have := HBW.out.2.1 g hg; have := HS.out; omega)
           have HS2 : Hid (wc.heap.size ≤ w2.heap.size) := Nat.le_trans HS.out HW2.out.size
           have d4 := HC2.out.ob.cell 4 _ rfl
           have e4 := HC2.out.ob.fz 4
           have d5 : ∀ o, (w2.alloc o).cell? ⟨B, 4, none⟩ = some (.slice sa q sc) := fun o => (HC2.out.ob.old o).cell 4 _ rfl
           have nb : ¬ B = w2.heap.size := Nat.ne_of_lt HC2.out.ob.lt
           have nb' : ¬ w2.heap.size = B := fun e => nb e.symm
           clear ho hS hS' hb2 hlen how0 hoh0 hS0 hne hvb how q0 q1 q2 q3 q4 HA)
        | (refine step_append_lies _ rfl (.tmp 24) (.tmp 31) 88 rfl wc.heap.size 90 i0 _ 5 i0.bytes Tryz.underlying88 hinf hz0 hz1 rfl rfl (by decide) (.slice sa q sc) q _ (by simp [Act.eval]) (How.out.alloc _) ⟨w2.heap.size, 0, none⟩ 1 1 [.int .i64 z0r, .string z1r, .int .i64 z2r, .slice a3s n3r p3s, .slice a4s n4r p4s] (by simp [Act.eval]) rfl (cells_new w2 _ _) Hone.out (by decide) (by unfold maxLen; omega) hbq (by have := HS2.out; simp; omega) _ rfl ?_
           intro g cap w3 hown3 hgrow3 hat3 hlt3
           have HA3 : Hid (AS wc.heap.size w3 90 5 (.slice (some ⟨g, 0, none⟩) (q + 1) cap) (c4.takeN ((q + 1) * 5)) (q + 1)) := by
             show AS _ _ _ _ _ _ _
             rw [Hrow.out]
             obtain ⟨hlen, hoh, hS0, hne, hvb⟩ := HD.out
             exact AS.snoc (b0 := wr.heap.size) hlen (How.out.alloc _) (hoh.below ((Below.refl _ _).alloc (Nat.le_refl _) _)) hS0 hne hvb (Ho.out.below ((Below.refl _ _).alloc (Nat.le_refl _) _)) (HSS.out.mono (Nat.le_refl _) (by simp)) HS.out (by have := HW2.out.size; simp; omega) Hrl.out hown3 hgrow3 hat3
           have HG : Hid (Below wc.heap.size w2 w3) := ((Below.refl _ _).alloc HS2.out _).trans (Below.grown (Below.refl _ _) hgrow3 (by have := HS2.out; simp; omega) (fun k hk => (uowns_blk How.out hk).1))
           have HC3 : Hid (CpS w w3 90 [.int .i64 z0, .string z1, .int .i64 z2, .slice a3 n3 p3, .slice (some ⟨b, off, none⟩) n4 p4] [.int .i64 0, .string ⟨#[]⟩, .int .i64 0, .slice none 0 0, .slice none 0 0] [.int .i64 z0, .string z1, .int .i64 z2, .slice a3n n3 p3n, .slice sa q sc] n3 c3 (.slice a3n n3 p3n) B S3) := HC2.out.step HG.out HBW.out.1 HBW.out.2.1
           have HS3 : Hid (wc.heap.size ≤ w3.heap.size) := Nat.le_trans HS2.out HG.out.size
           have m4 := HC3.out.ob.cell 4 _ rfl
           have o4 := HC3.out.ob.fz 4
           clear hown3 hgrow3 hat3 hlt3 HG HD Ho HSS Hone How))
      all_goals go_wp2
      all_goals go_roundw
      all_goals first
        | (case rel => exact ⟨q + 1, _, by omega, by go_num, HA3.out.put _ HBW.out.1 _, HC3.out.put 4 _, by have := HS3.out; show _ ≤ _; simp; omega⟩)
        | (case measure => (simp [intOf]; omega))
    · have e : q = n4 := by omega
      subst e
      have hall : c4.takeN (q * 5) = c4 := by apply UD.ext; unfold UD.takeN; rw [UD.toL_ofL]; exact List.take_of_length_le (Nat.le_of_eq G4.out.2.2.2.1)
      obtain ⟨S4, k4', w4'⟩ := HA.out.done (by decide) HS.out
      rw [hall] at k4'
      have K4 := uhide k4'
      have W4 := uhide w4'
      clear HA k4' w4' hall HI Hb Hw H4 hlt hq c4b f4b
      have o0 := HC.out.ob.cell 0 _ rfl
      have o1 := HC.out.ob.cell 1 _ rfl
      have o2 := HC.out.ob.cell 2 _ rfl
      have o3 := HC.out.ob.cell 3 _ rfl
      have o4 := HC.out.ob.cell 4 _ rfl
      have r0 := HC.out.oz.cell 0 _ rfl
      have r1 := HC.out.oz.cell 1 _ rfl
      have r2 := HC.out.oz.cell 2 _ rfl
      have r3 := HC.out.oz.cell 3 _ rfl
      have r4 := HC.out.oz.cell 4 _ rfl
      have k0 : wr.frozen? ⟨w.heap.size + 1, 0, none⟩ = false := HC.out.oz.fz 0
      have k1 : wr.frozen? ⟨w.heap.size + 1, 1, none⟩ = false := HC.out.oz.fz 1
      have k2 : wr.frozen? ⟨w.heap.size + 1, 2, none⟩ = false := HC.out.oz.fz 2
      have k3 : wr.frozen? ⟨w.heap.size + 1, 3, none⟩ = false := HC.out.oz.fz 3
      have k4 : wr.frozen? ⟨w.heap.size + 1, 4, none⟩ = false := HC.out.oz.fz 4
      go_wp2
      refine bodyPost_ret (v := .agg #[.int .i64 z0, .string z1, .int .i64 z2, .slice a3n n3 p3n, .slice sa q sc]) ?_ rfl ⟨[.int .i64 z0, .string z1, .int .i64 z2, .slice a3n n3 p3n, .slice sa q sc], S3 ++ (S4 ++ []), rfl, ?_, ?_, ?_⟩
      · simp [results, Tryz.results113, go_sem, r0, r1, r2, r3, r4]
      · exact oH.consP _ (oH.consP _ (oH.consP _ (oH.consS (HC.out.row.outs (T := [w.heap.size + 1]) (by repeat (first | with_reducible exact OutS.refl _ _ | with_reducible refine OutS.setCell ?_ (show _ ∈ [w.heap.size + 1] by simp) _)) W3.out (fun x hx => by simp at hx; omega)) (oH.consS (K4.out.outs (T := [w.heap.size + 1]) (by repeat (first | with_reducible exact OutS.refl _ _ | with_reducible refine OutS.setCell ?_ (show _ ∈ [w.heap.size + 1] by simp) _)) W4.out (fun x hx => by have := HBW.out.2.2; simp at hx; omega)) (oH.nil _)))))
      · have h34 : own2 (S3 ++ S4) (w.heap.size + 1 + 1) wr.heap.size := own2.app W3.out W4.out (Nat.le_refl _) HBW.out.2.2 HS.out
        rw [List.append_nil]
        exact h34.mono (by omega) (by simp)
      · repeat (first | with_reducible exact HC.out.bel | with_reducible refine Below.setCell ?_ (by simp <;> omega) _)
end Go.Proofs.YtdnodaoeflbfkaaGreat
/- Objects copied by the spec: spec.l7Copy. -/
namespace Go.Proofs.YtdnodaoeflbfkaaGreat
open Go.RowKit Go.BigFrame
set_option linter.unusedVariables false
set_option linter.unusedSimpArgs false

theorem uS.slice_of6 {w : World} {lo hi k n : Nat} {cs : UD} {c : Value} (h : uS w lo hi k n cs c) : ∃ a cap, c = .slice a n cap ∧ True := by
  obtain ⟨a, cap, e, _⟩ := h; exact ⟨a, cap, e, trivial⟩
theorem uS_src {w : World} {lo hi n p : Nat} {c : UD} {a : Option Addr} (ht : tyS 1 n c 0) (h : uS w lo hi 1 n c (.slice a n p)) : ∃ news, news.length = n * 1 ∧ (∀ u ∈ news, u.oneCell' = true) ∧ ((Value.slice a n p = .slice none 0 0 ∧ n = 0) ∨ ∃ ad q, Value.slice a n p = .slice (some ad) n q ∧ ∀ j u, news[j]? = some u → w.cell? (ad.add j) = some u) ∧ ∀ w', oH w' c news [] := by
  cases a with
  | none =>
    obtain ⟨a', cap, e, h1, h2⟩ := h
    cases e
    have hp : p = 0 := h1.2.1 rfl
    have hn : n = 0 := by have := h1.1; omega
    subst hp hn
    have hc3 : c = .nil := UD.nil_of (by rw [ht.2.2.2.1])
    subst hc3
    exact ⟨[], rfl, fun u hu => (by cases hu), .inl ⟨rfl, rfl⟩, fun w' => ⟨rfl, rfl⟩⟩
  | some ad =>
    obtain ⟨news, m1, m2, m3, m4⟩ := strs_news ht h
    exact ⟨news, m1, m3, .inr ⟨ad, p, rfl, m2⟩, m4⟩
set_option maxRecDepth 40000 in
set_option maxHeartbeats 3200000 in
theorem l7Copy_N {lo hi : Nat} (d : UD) (xs : List Value) (w : World) (ht : tyL d (uE 8)) (hwt : wt d ≤ 1048576) (hx : uH w lo hi d xs) :
    Calls Tryz.prog 169 #[.agg xs.toArray] w fun e w' => copied w w' d e := by
  replace ht : tyL d [.i .i64, .s, .i .i64, .i .i64, .i .i64, .b, .l 1 0, .i .i64, .s, .i .i64, .l 1 0, .l 5 6, .i .i64, .s, .i .i64, .l 1 0, .l 5 6] := ht
  obtain ⟨z0, _, rfl, g0, h0⟩ := tyL.i ht
  obtain ⟨z1, _, rfl, g1, h1⟩ := tyL.s h0
  clear h0
  obtain ⟨z2, _, rfl, g2, h2⟩ := tyL.i h1
  clear h1
  obtain ⟨z3, _, rfl, g3, h3⟩ := tyL.i h2
  clear h2
  obtain ⟨z4, _, rfl, g4, h4⟩ := tyL.i h3
  clear h3
  obtain ⟨z5, _, rfl, h5⟩ := tyL.b h4
  clear h4
  obtain ⟨n6, c6, _, rfl, g6, h6⟩ := tyL.l h5
  clear h5
  obtain ⟨d7, _, rfl, g7, h7⟩ := tyL.split (f1 := uE 6) (f2 := [.i .i64, .s, .i .i64, .l 1 0, .l 5 6]) h6
  clear h6
  obtain ⟨d8, _, rfl, g8, h8⟩ := tyL.split (f1 := uE 6) (f2 := []) h7
  clear h7
  obtain rfl := tyL.nil h8
  clear h8 ht
  obtain ⟨_, rfl, h0⟩ := hx
  obtain ⟨_, rfl, h1⟩ := h0
  obtain ⟨_, rfl, h2⟩ := h1
  obtain ⟨_, rfl, h3⟩ := h2
  obtain ⟨_, rfl, h4⟩ := h3
  obtain ⟨_, rfl, h5⟩ := h4
  obtain ⟨u6, _, rfl, s6, h6⟩ := h5
  obtain ⟨y7, _, rfl, l7, h7, h9⟩ := uH.split h6
  replace l7 : y7.length = 5 := l7.trans (tyL.len g7)
  obtain ⟨y8, _, rfl, l8, h8, h10⟩ := uH.split h9
  replace l8 : y8.length = 5 := l8.trans (tyL.len g8)
  obtain rfl := h10
  clear h9 h6
  simp only [wt, wtP, wt_app] at hwt
  obtain ⟨a6, p6, rfl, -⟩ := uS.slice_of6 s6
  have hn6 : n6 ≤ 1048576 := by omega
  obtain ⟨j0, hj0, hj1, hj2, hj3⟩ := infoCpS
  have HC7 : Hid (∀ wx, Below w.heap.size w wx → Calls Tryz.prog 113 #[.agg y7.toArray] wx fun e w' => ∃ ys T, e = .returned (.agg ys.toArray) ∧ ys.length = 5 ∧ Hid (oH w' d7 ys T) ∧ Hid (own2 T wx.heap.size w'.heap.size) ∧ Hid (∀ u ∈ ys, u.oneCell' = true) ∧ Hid (Below wx.heap.size wx w')) := fun wx hb => (l4Copy_N (uszD d7 + 1) d7 y7 lo hi wx (by omega) g7 (by omega) (h7.below hb)).mono fun e w' ⟨ys, T, q1, q2, q3, q4⟩ => ⟨ys, T, q1, q2.len.trans (tyL.len g7), q2, q3, ones_own g7 q2, q4⟩
  have HC8 : Hid (∀ wx, Below w.heap.size w wx → Calls Tryz.prog 113 #[.agg y8.toArray] wx fun e w' => ∃ ys T, e = .returned (.agg ys.toArray) ∧ ys.length = 5 ∧ Hid (oH w' d8 ys T) ∧ Hid (own2 T wx.heap.size w'.heap.size) ∧ Hid (∀ u ∈ ys, u.oneCell' = true) ∧ Hid (Below wx.heap.size wx w')) := fun wx hb => (l4Copy_N (uszD d8 + 1) d8 y8 lo hi wx (by omega) g8 (by omega) (h8.below hb)).mono fun e w' ⟨ys, T, q1, q2, q3, q4⟩ => ⟨ys, T, q1, q2.len.trans (tyL.len g8), q2, q3, ones_own g8 q2, q4⟩
  have S6w := uhide s6
  have G6 := uhide g6
  have HY7 := uhide l7
  have HY8 := uhide l8
  have HL7 : Hid (∀ x : List Value, x.length = 5 → (Tryz.prog.info? 90).map (·.size) = some x.length) := fun x h => by rw [h]; exact Tryz.zObj_impl_Value
  clear s6 g6 h7 h8 g7 g8 hwt l7 l8
  obtain ⟨AX, hAX⟩ : ∃ AX : List Value, AX = (Value.int .i64 z0 :: (Value.string z1 :: (Value.int .i64 z2 :: (Value.int .i64 z3 :: (Value.int .i64 z4 :: (Value.bool z5 :: (Value.slice a6 n6 p6 :: (y7 ++ (y8 ++ []))))))))) := ⟨_, rfl⟩
  rw [← hAX]
  have BX : Hid (Below w.heap.size w (((w.alloc (.cells AX.toArray 138)).alloc (.cells [.int .i64 0, .string ⟨#[]⟩, .int .i64 0, .int .i64 0, .int .i64 0, .bool false, .slice none 0 0, .int .i64 0, .string ⟨#[]⟩, .int .i64 0, .slice none 0 0, .slice none 0 0, .int .i64 0, .string ⟨#[]⟩, .int .i64 0, .slice none 0 0, .slice none 0 0].toArray 138)).alloc (.cells #[] 9))) := (((Below.refl _ _).alloc (Nat.le_refl _) _).alloc (by simp) _).alloc (by simp; omega) _
  have OBX : Hid (objU (((w.alloc (.cells AX.toArray 138)).alloc (.cells [.int .i64 0, .string ⟨#[]⟩, .int .i64 0, .int .i64 0, .int .i64 0, .bool false, .slice none 0 0, .int .i64 0, .string ⟨#[]⟩, .int .i64 0, .slice none 0 0, .slice none 0 0, .int .i64 0, .string ⟨#[]⟩, .int .i64 0, .slice none 0 0, .slice none 0 0].toArray 138)).alloc (.cells #[] 9)) w.heap.size 138 AX) := ((objU.new _ _ _).old _).old _
  have OZX : Hid (objU (((w.alloc (.cells AX.toArray 138)).alloc (.cells [.int .i64 0, .string ⟨#[]⟩, .int .i64 0, .int .i64 0, .int .i64 0, .bool false, .slice none 0 0, .int .i64 0, .string ⟨#[]⟩, .int .i64 0, .slice none 0 0, .slice none 0 0, .int .i64 0, .string ⟨#[]⟩, .int .i64 0, .slice none 0 0, .slice none 0 0].toArray 138)).alloc (.cells #[] 9)) (w.heap.size + 1) 138 [.int .i64 0, .string ⟨#[]⟩, .int .i64 0, .int .i64 0, .int .i64 0, .bool false, .slice none 0 0, .int .i64 0, .string ⟨#[]⟩, .int .i64 0, .slice none 0 0, .slice none 0 0, .int .i64 0, .string ⟨#[]⟩, .int .i64 0, .slice none 0 0, .slice none 0 0]) := (objU.new2 _ _ (by simp)).old _
  have C6 : Hid ((((w.alloc (.cells AX.toArray 138)).alloc (.cells [.int .i64 0, .string ⟨#[]⟩, .int .i64 0, .int .i64 0, .int .i64 0, .bool false, .slice none 0 0, .int .i64 0, .string ⟨#[]⟩, .int .i64 0, .slice none 0 0, .slice none 0 0, .int .i64 0, .string ⟨#[]⟩, .int .i64 0, .slice none 0 0, .slice none 0 0].toArray 138)).alloc (.cells #[] 9)).cell? ⟨w.heap.size, 6, none⟩ = some (.slice a6 n6 p6)) := OBX.out.cell 6 _ (by rw [hAX]; rfl)
  have SZX : Hid (w.heap.size + 2 ≤ (((w.alloc (.cells AX.toArray 138)).alloc (.cells [.int .i64 0, .string ⟨#[]⟩, .int .i64 0, .int .i64 0, .int .i64 0, .bool false, .slice none 0 0, .int .i64 0, .string ⟨#[]⟩, .int .i64 0, .slice none 0 0, .slice none 0 0, .int .i64 0, .string ⟨#[]⟩, .int .i64 0, .slice none 0 0, .slice none 0 0].toArray 138)).alloc (.cells #[] 9)).heap.size) := by show _ ≤ _; simp
  have OEX : Hid ((((w.alloc (.cells AX.toArray 138)).alloc (.cells [.int .i64 0, .string ⟨#[]⟩, .int .i64 0, .int .i64 0, .int .i64 0, .bool false, .slice none 0 0, .int .i64 0, .string ⟨#[]⟩, .int .i64 0, .slice none 0 0, .slice none 0 0, .int .i64 0, .string ⟨#[]⟩, .int .i64 0, .slice none 0 0, .slice none 0 0].toArray 138)).alloc (.cells #[] 9)).ownsRow (w.heap.size + 2) 9 1 (.slice (some ⟨w.heap.size + 1 + 1, 0, none⟩) 0 0) 0 []) := by
    have := World.ownsRow_lit (base := w.heap.size + 2) (size := 1) (e := 9) ((w.alloc (.cells AX.toArray 138)).alloc (.cells [.int .i64 0, .string ⟨#[]⟩, .int .i64 0, .int .i64 0, .int .i64 0, .bool false, .slice none 0 0, .int .i64 0, .string ⟨#[]⟩, .int .i64 0, .slice none 0 0, .slice none 0 0, .int .i64 0, .string ⟨#[]⟩, .int .i64 0, .slice none 0 0, .slice none 0 0].toArray 138)) #[] 0 (by simp) (by decide) (by rfl)
    exact uhide (by simpa using this)
  obtain ⟨zs6, k1, k2, k3, k4⟩ := uS_src G6.out (S6w.out.below BX.out)
  have K1 := uhide k1
  have K2 := uhide k2
  have K3 := uhide k3
  have K4 := uhide k4
  have HAX := uhide hAX
  clear hAX k1 k2 k3 k4
  go_enter Tryz.func169, Tryz.ntmps169
  go_wp2_with (first
    | ((with_reducible refine wpList_load_one ?qqg1 23 ?qqx1 ?qqo1 w.heap.size 6 ?qqh1 (.slice a6 n6 p6) Tryz.rObj_Lstring C6.out ?_); (case qqg1 => rfl); (case qqo1 => rfl); (case qqh1 => simp [Act.eval, Act.put]))
    | (at_builtin
       refine wpList_append_rows rfl _ _ 23 rfl (w.heap.size + 2) 9 j0 (.string ByteArray.empty) 1 16 Tryz.underlying23 hj0 hj1 hj2 hj3 (by decide) (by decide) (.slice (some ⟨w.heap.size + 1 + 1, 0, none⟩) 0 0) 0 [] rfl OEX.out (.slice a6 n6 p6) rfl n6 zs6 K1.out K2.out K3.out (by unfold maxLen; omega) (by omega) SZX.out ?_
       intro v1 w1 hown1 hgrow1 hat1
       rw [Nat.zero_add, List.nil_append] at hown1
       obtain ⟨a1, p1, rfl⟩ := uowns_slice hown1
       have EG : Hid (OutS [w.heap.size + 1 + 1] _ w1) := OutS.grownC hgrow1
       have OB1 := uhide (OBX.out.outS EG.out (by simp; omega))
       have OZ1 := uhide (OZX.out.outS EG.out (by simp))
       have BW1 : Hid (Below w.heap.size w w1) := BX.out.trans (EG.out.below (fun t ht => by simp at ht; omega) (Nat.le_trans (by omega) SZX.out))
       have SZ1 : Hid (w.heap.size + 2 ≤ w1.heap.size) := Nat.le_trans SZX.out EG.out.size
       have R1 := uhide hown1
       have TH1 : Hid (w1.there w.heap.size 6 1) := OB1.out.there 6 1 (by rw [HAX.out]; simp)
       clear hown1 hgrow1 hat1 EG OBX OZX BX C6 SZX OEX)
    | ((with_reducible refine wpList_store_v ?qqg2 23 ?qqx2 ?qqy2 ?qqo2 ?qqd2 w.heap.size 6 ?qqh2 (.slice a1 n6 p1) ?qqv2 one_slice Tryz.zObj_Lstring TH1.out ?_); (case qqg2 => rfl); (case qqo2 => rfl); (case qqd2 => rfl); (case qqh2 => simp [Act.eval, Act.put]); (case qqv2 => simp [Act.eval, Act.put])
       intro W0 eW
       have EW : Hid (OutS [w.heap.size] w1 W0) := by subst eW; exact OutS.setCells _ 6 w1
       have OB : Hid (objU W0 w.heap.size 138 ([Value.int .i64 z0, .string z1, .int .i64 z2, .int .i64 z3, .int .i64 z4, .bool z5, .slice a1 n6 p1] ++ (y7 ++ (y8 ++ [])))) := by
         have h := OB1.out
         rw [HAX.out] at h
         have h2 := objU.setCells [Value.slice a1 n6 p1] [Value.slice a6 n6 p6] [Value.int .i64 z0, .string z1, .int .i64 z2, .int .i64 z3, .int .i64 z4, .bool z5] (y7 ++ (y8 ++ [])) w1 h rfl
         subst eW; exact h2
       have OZ : Hid (objU W0 (w.heap.size + 1) 138 [.int .i64 0, .string ⟨#[]⟩, .int .i64 0, .int .i64 0, .int .i64 0, .bool false, .slice none 0 0, .int .i64 0, .string ⟨#[]⟩, .int .i64 0, .slice none 0 0, .slice none 0 0, .int .i64 0, .string ⟨#[]⟩, .int .i64 0, .slice none 0 0, .slice none 0 0]) := OZ1.out.outS EW.out (by simp)
       have B0 : Hid (Below w.heap.size w W0) := BW1.out.trans (EW.out.below (fun t ht => by simp at ht; omega) BW1.out.size)
       have HZ : Hid (w.heap.size + 2 ≤ W0.heap.size) := Nat.le_trans SZ1.out EW.out.size
       have R0 := uowns_frame R1.out (w' := W0) (fun x hx => EW.out.block x (ublk_lt R1.out x hx).2 (by have := (ublk_lt R1.out x hx).1; simp; omega))
       have W6 : Hid (own2 (blkOf (.slice a1 n6 p1)) (w.heap.size + 2) W0.heap.size) := ⟨by unfold blkOf; split <;> simp, fun s hs => ublk_lt R0 s hs⟩
       have O6 : Hid (oS W0 1 n6 c6 (.slice a1 n6 p1) (blkOf (.slice a1 n6 p1))) := ⟨by decide, 9, zs6, [], owns_base R0, K4.out W0, by simp⟩
       have K6 : Hid (∀ u ∈ [Value.int .i64 z0, .string z1, .int .i64 z2, .int .i64 z3, .int .i64 z4, .bool z5, .slice a1 n6 p1], u.oneCell' = true) := fun u hu => by
         simp only [List.mem_cons, List.not_mem_nil, or_false] at hu
         rcases hu with rfl | rfl | rfl | rfl | rfl | rfl | rfl <;> rfl
       have Hy7 : Hid (W0.rangeAt w.heap.size 7 y7) := OB.out.range 7 y7 (fun i v h => at_mid (pre := [Value.int .i64 z0, .string z1, .int .i64 z2, .int .i64 z3, .int .i64 z4, .bool z5, .slice a1 n6 p1]) (ys := y7) (post := (y8 ++ [])) rfl rfl h)
       have HLy7 := uhide (HL7.out y7 HY7.out)
       clear R0 eW EW OB1 OZ1 BW1 SZ1 R1 TH1 HAX K1 K2 K3 K4 G6 S6w)
    | ((with_reducible refine wpList_load_row2 ?qqg3 90 ?qqx3 ?qqo3 w.heap.size 7 ?qqh3 y7 Tryz.rObj_impl_Value HLy7.out Hy7.out ?_); (case qqg3 => rfl); (case qqo3 => rfl); (case qqh3 => simp [Act.eval, Act.put]))
    )
  refine (HC7.out W0 B0.out).mono ?_
  rintro e w3 ⟨x7, T7, rfl, l7, K7, W7, U7, B7⟩
  have OB3 : Hid (objU w3 w.heap.size 138 ([Value.int .i64 z0, .string z1, .int .i64 z2, .int .i64 z3, .int .i64 z4, .bool z5, .slice a1 n6 p1] ++ (y7 ++ (y8 ++ [])))) := OB.out.below B7.out
  have TH3 : Hid (w3.there w.heap.size 7 x7.length) := OB3.out.there 7 x7.length (by rw [l7]; simp [HY7.out, HY8.out])
  have Hx7 := uhide (HL7.out x7 l7)
  go_wp2_with (first
    | ((with_reducible refine wpList_store_cells ?qqg4 90 ?qqx4 ?qqy4 ?qqo4 ?qqd4 w.heap.size 7 ?qqh4 (.agg x7.toArray) ?qqv4 x7 cells_agg U7.out Hx7.out TH3.out ?_); (case qqg4 => rfl); (case qqo4 => rfl); (case qqd4 => rfl); (case qqh4 => simp [Act.eval, Act.put]); (case qqv4 => simp [Act.eval, Act.put])
       intro w4 e4
       have E4 : Hid (OutS [w.heap.size] w3 w4) := by subst e4; exact OutS.setCells x7 7 w3
       have OB4 : Hid (objU w4 w.heap.size 138 ([Value.int .i64 z0, .string z1, .int .i64 z2, .int .i64 z3, .int .i64 z4, .bool z5, .slice a1 n6 p1] ++ (x7 ++ (y8 ++ [])))) := by subst e4; exact objU.setCells x7 y7 ([Value.int .i64 z0, .string z1, .int .i64 z2, .int .i64 z3, .int .i64 z4, .bool z5, .slice a1 n6 p1]) (y8 ++ []) w3 OB3.out (by rw [l7, HY7.out])
       have B04 : Hid (OutS [w.heap.size] W0 w4) := (OutS.of_below B7.out).trans E4.out
       have B4 : Hid (Below w.heap.size w w4) := B0.out.trans (B04.out.below (fun t ht => by simp at ht; omega) B0.out.size)
       have OZ4 : Hid (objU w4 (w.heap.size + 1) 138 [.int .i64 0, .string ⟨#[]⟩, .int .i64 0, .int .i64 0, .int .i64 0, .bool false, .slice none 0 0, .int .i64 0, .string ⟨#[]⟩, .int .i64 0, .slice none 0 0, .slice none 0 0, .int .i64 0, .string ⟨#[]⟩, .int .i64 0, .slice none 0 0, .slice none 0 0]) := OZ.out.outS B04.out (by simp)
       have O64 : Hid (oS w4 1 n6 c6 (.slice a1 n6 p1) (blkOf (.slice a1 n6 p1))) := O6.out.frame (fun g hg => B04.out.block g (O6.out.lt g hg) (by have := W6.out.2 g hg; simp; omega))
       have K74 : Hid (oH w4 d7 x7 T7) := K7.out.outS E4.out (fun g hg => by have := W7.out.2 g hg; have := HZ.out; simp; omega)
       have Hy8 : Hid (w4.rangeAt w.heap.size 12 y8) := OB4.out.range 12 y8 (fun i v h => at_mid (pre := [Value.int .i64 z0, .string z1, .int .i64 z2, .int .i64 z3, .int .i64 z4, .bool z5, .slice a1 n6 p1] ++ x7) (ys := y8) (post := []) (by simp) (by simp [l7]) h)
       have HLy8 := uhide (HL7.out y8 HY8.out)
       have SZ4 : Hid (w3.heap.size ≤ w4.heap.size) := E4.out.size
       clear e4 OB OB3 TH3 O6 K7 OZ)
    | ((with_reducible refine wpList_load_row2 ?qqg5 90 ?qqx5 ?qqo5 w.heap.size 12 ?qqh5 y8 Tryz.rObj_impl_Value HLy8.out Hy8.out ?_); (case qqg5 => rfl); (case qqo5 => rfl); (case qqh5 => simp [Act.eval, Act.put]))
    )
  refine (HC8.out w4 B4.out).mono ?_
  rintro e w5 ⟨x8, T8, rfl, l8, K8, W8, U8, B8⟩
  have OB5 : Hid (objU w5 w.heap.size 138 ([Value.int .i64 z0, .string z1, .int .i64 z2, .int .i64 z3, .int .i64 z4, .bool z5, .slice a1 n6 p1] ++ (x7 ++ (y8 ++ [])))) := OB4.out.below B8.out
  have TH5 : Hid (w5.there w.heap.size 12 x8.length) := OB5.out.there 12 x8.length (by rw [l8]; simp [l7, HY8.out])
  have Hx8 := uhide (HL7.out x8 l8)
  go_wp2_with (first
    | ((with_reducible refine wpList_store_cells ?qqg6 90 ?qqx6 ?qqy6 ?qqo6 ?qqd6 w.heap.size 12 ?qqh6 (.agg x8.toArray) ?qqv6 x8 cells_agg U8.out Hx8.out TH5.out ?_); (case qqg6 => rfl); (case qqo6 => rfl); (case qqd6 => rfl); (case qqh6 => simp [Act.eval, Act.put]); (case qqv6 => simp [Act.eval, Act.put])
       intro w6 e6
       have E6 : Hid (OutS [w.heap.size] w5 w6) := by subst e6; exact OutS.setCells x8 12 w5
       have OB6 : Hid (objU w6 w.heap.size 138 (([Value.int .i64 z0, .string z1, .int .i64 z2, .int .i64 z3, .int .i64 z4, .bool z5, .slice a1 n6 p1] ++ x7) ++ (x8 ++ []))) := by
         have h := objU.setCells x8 y8 ([Value.int .i64 z0, .string z1, .int .i64 z2, .int .i64 z3, .int .i64 z4, .bool z5, .slice a1 n6 p1] ++ x7) [] w5 (by rw [List.append_assoc]; exact OB5.out) (by rw [l8, HY8.out])
         rw [show ([Value.int .i64 z0, .string z1, .int .i64 z2, .int .i64 z3, .int .i64 z4, .bool z5, .slice a1 n6 p1] ++ x7).length = 12 by simp [l7]] at h
         subst e6; exact h
       clear e6
       have HE : Hid (CpEnd w w6 138 (.p (.int .i64 z0) (.p (.string z1) (.p (.int .i64 z2) (.p (.int .i64 z3) (.p (.int .i64 z4) (.p (.bool z5) (.l 1 n6 c6 (UD.app d7 (UD.app d8 UD.nil))))))))) (([Value.int .i64 z0, .string z1, .int .i64 z2, .int .i64 z3, .int .i64 z4, .bool z5, .slice a1 n6 p1] ++ x7) ++ (x8 ++ [])) [.int .i64 0, .string ⟨#[]⟩, .int .i64 0, .int .i64 0, .int .i64 0, .bool false, .slice none 0 0, .int .i64 0, .string ⟨#[]⟩, .int .i64 0, .slice none 0 0, .slice none 0 0, .int .i64 0, .string ⟨#[]⟩, .int .i64 0, .slice none 0 0, .slice none 0 0]) := cpobj_end (W0 := w4) (w3 := w4) (w5 := w5) (w6 := w6) OZ4.out B4.out (Nat.le_trans HZ.out (Nat.le_trans B7.out.size SZ4.out)) O64.out K6.out W6.out K74.out W7.out K8.out W8.out (Nat.le_refl _) B7.out.size SZ4.out (Nat.le_refl _) (Nat.le_trans SZ4.out B8.out.size) HZ.out U7.out U8.out B8.out B8.out E6.out (OutS.refl _ _) OB6.out
       obtain ⟨AX2, hAX2⟩ : ∃ AX : List Value, AX = (([Value.int .i64 z0, .string z1, .int .i64 z2, .int .i64 z3, .int .i64 z4, .bool z5, .slice a1 n6 p1] ++ x7) ++ (x8 ++ [])) := ⟨_, rfl⟩
       rw [← hAX2] at HE
       have hal : AX2.length = 17 := by rw [hAX2]; simp [l7, l8]
       have HAL := uhide hal
       have HFA : Hid ((Tryz.prog.info? 138).map (·.size) = some AX2.length) := by show _ = _; rw [hal]; exact Tryz.zObj_impl_Obj
       have HTH : Hid (w6.there (w.heap.size + 1) 0 AX2.length) := by show World.there _ _ _ _; rw [hal]; exact HE.out.res.there 0 17 (by decide)
       have HRG : Hid (w6.rangeAt w.heap.size 0 AX2) := HE.out.box.range 0 AX2 (fun j v h => by rw [Nat.zero_add]; exact h)
       clear hAX2 hal)
    | ((with_reducible refine wpList_load_row2 ?qqg7 138 ?qqx7 ?qqo7 w.heap.size 0 ?qqh7 AX2 Tryz.rObj_impl_Obj HFA.out HRG.out ?_); (case qqg7 => rfl); (case qqo7 => rfl); (case qqh7 => simp [Act.eval, Act.put]))
    | ((with_reducible refine wpList_store_cells ?qqg8 138 ?qqx8 ?qqy8 ?qqo8 ?qqd8 (w.heap.size + 1) 0 ?qqh8 (.agg AX2.toArray) ?qqv8 AX2 cells_agg HE.out.ones HFA.out HTH.out ?_); (case qqg8 => rfl); (case qqo8 => rfl); (case qqd8 => rfl); (case qqh8 => simp [Act.eval, Act.put]); (case qqv8 => simp [Act.eval, Act.put])
       intro w8 e8; have HF := uhide (HE.out.fin HAL.out e8); clear e8)
    )
  obtain ⟨hres, S', ho', hS', hb'⟩ := HF.out
  refine bodyPost_ret (v := .agg AX2.toArray) ?_ rfl (copied.mk' ho' hS' hb')
  exact results_row rfl _ _ (w.heap.size + 1) _ _ (by simp [Act.put]) hres Tryz.rObj_impl_Obj HFA.out
end Go.Proofs.YtdnodaoeflbfkaaGreat
/- Objects of one kind: which rows they are; rows of memory of one's own. -/
namespace Go.Proofs.YtdnodaoeflbfkaaGreat
open Go.RowKit
set_option linter.unusedVariables false

def kindO : UD → Int
  | .p (.int _ z) _ => z
  | _ => 0
/-- the first q rows that are of this kind, and how many -/
def selU (cs : UD) (kind : Int) : Nat → UD × Nat
  | 0 => (.nil, 0)
  | q + 1 => if kindO (rowU cs 17 q) = kind then ((selU cs kind q).1.app (rowU cs 17 q), (selU cs kind q).2 + 1) else selU cs kind q
theorem selU_hit {cs : UD} {kind : Int} {q : Nat} (h : kindO (rowU cs 17 q) = kind) : (selU cs kind (q + 1)).1 = (selU cs kind q).1.app (rowU cs 17 q) ∧ (selU cs kind (q + 1)).2 = (selU cs kind q).2 + 1 := by rw [selU, if_pos h]; exact ⟨rfl, rfl⟩
theorem selU_miss {cs : UD} {kind : Int} {q : Nat} (h : kindO (rowU cs 17 q) ≠ kind) : selU cs kind (q + 1) = selU cs kind q := by rw [selU, if_neg h]
theorem tyU.app : ∀ {a b : UD} {fs : List UF} {i : Nat}, tyU a fs i → tyU b fs (i + a.len) → tyU (a.app b) fs i
  | .nil, b, fs, i, _, h => by rw [UD.app_nil]; exact h
  | .p v r, b, fs, i, h, k => by rw [UD.app_p]; exact ⟨h.1, tyU.app h.2 (by rw [UD.len_p] at k; rw [show i + 1 + r.len = i + (r.len + 1) by omega]; exact k)⟩
  | .l k' n cs r, b, fs, i, h, k => by rw [UD.app_l]; exact ⟨h.1, tyU.app h.2 (by rw [UD.len_l] at k; rw [show i + 1 + r.len = i + (r.len + 1) by omega]; exact k)⟩
theorem tyU.rowOne {d : UD} {fs : List UF} {j : Nat} (hf : 0 < fs.length) (h : tyL d fs) (hj : j % fs.length = 0) : tyU d fs j := by
  have := tyU.row hf (d := d) (rest := .nil) (i := j) (j := 0) (by rw [List.drop_zero]; exact h) hj trivial
  have e : d.app .nil = d := by apply UD.ext; rw [UD.app_toL]; show d.toL ++ [] = _; rw [List.append_nil]
  rw [e] at this
  exact this
theorem app_len (a b : UD) : (a.app b).len = a.len + b.len := by unfold UD.len; rw [UD.app_toL, List.length_append]
theorem selU_ty {n : Nat} {cs : UD} {kind : Int} (h : tyS 17 n cs 8) : ∀ q, q ≤ n → (selU cs kind q).2 ≤ q ∧ (selU cs kind q).1.len = (selU cs kind q).2 * 17 ∧ tyU (selU cs kind q).1 (uE 8) 0 ∧ cnt (selU cs kind q).1 ≤ cnt (cs.takeN (q * 17))
  | 0, _ => ⟨Nat.le_refl _, rfl, trivial, Nat.zero_le _⟩
  | q + 1, hq => by
    obtain ⟨h1, h2, h3, h4⟩ := selU_ty h q (by omega)
    have hr := rowU_len cs 17 q n h.2.2.2.1 (by omega)
    have ht := cnt_row cs 17 q
    by_cases hk : kindO (rowU cs 17 q) = kind
    · obtain ⟨e1, e2⟩ := selU_hit hk
      rw [e1, e2]
      refine ⟨by omega, by rw [app_len, h2, hr, Nat.succ_mul], tyU.app h3 ?_, by rw [cnt_app]; omega⟩
      rw [h2, Nat.zero_add]
      exact tyU.rowOne (by decide) (h.row (by omega)) (Nat.mul_mod_left _ 17)
    · rw [selU_miss hk]
      exact ⟨by omega, h2, h3, by omega⟩
theorem selU_tyS {n : Nat} {cs : UD} {kind : Int} (h : tyS 17 n cs 8) : tyS 17 (selU cs kind n).2 (selU cs kind n).1 8 ∧ cnt (selU cs kind n).1 ≤ cnt cs := by
  obtain ⟨h1, h2, h3, h4⟩ := selU_ty (kind := kind) h n (Nat.le_refl _)
  exact ⟨⟨by decide, rfl, Nat.le_trans h1 h.2.2.1, h2, h3⟩, Nat.le_trans h4 (cnt_le cs _)⟩
/-- a row of a slice that is one's own -/
theorem oH.rowAt {w : World} {cs : UD} {zs : List Value} {S : List Nat} (h : oH w cs zs S) (k q : Nat) : ∃ xs Sq, oH w (rowU cs k q) xs Sq ∧ (∀ s ∈ Sq, s ∈ S) ∧ (S.Nodup → Sq.Nodup) ∧ ∀ j u, xs[j]? = some u → zs[q * k + j]? = some u := by
  have e1 : (cs.takeN (q * k)).app (cs.dropN (q * k)) = cs := UD.app_take_drop cs _
  rw [← e1, UD.drop_row cs k q] at h
  obtain ⟨x1, r1, S1, R1, rfl, rfl, h1, h2⟩ := oH.split h
  obtain ⟨x2, r2, S2, R2, rfl, rfl, h3, h4⟩ := oH.split h2
  refine ⟨x2, S2, h3, fun s hs => by simp [hs], fun hn => ?_, fun j u hj => ?_⟩
  · simp only [List.nodup_append] at hn; exact hn.2.1.1
  · have hj2 := (List.getElem?_eq_some_iff.1 hj).1
    have hl2 : x2.length = (rowU cs k q).len := h3.len
    have hl1 : x1.length = (cs.takeN (q * k)).len := h1.len
    have htl : (cs.takeN (q * k)).len = q * k := by
      unfold UD.len UD.takeN
      rw [UD.toL_ofL, List.length_take]
      have : 0 < (rowU cs k q).len := by omega
      unfold rowU UD.len UD.takeN UD.dropN at this
      rw [UD.toL_ofL, UD.toL_ofL, List.length_take, List.length_drop] at this
      omega
    rw [List.getElem?_append_right (by omega), hl1, htl, Nat.add_sub_cancel_left, List.getElem?_append_left hj2]
    exact hj
theorem AS.lit {w : World} {e : TypeId} {k : Nat} {base : Nat} (hb : base ≤ w.heap.size) : AS base (w.alloc (.cells #[] e)) e k (.slice (some ⟨w.heap.size, 0, none⟩) 0 0) .nil 0 := by
  have h := World.ownsRow_lit (base := base) (size := k) (e := e) w #[] 0 hb (Nat.zero_le _) (by simp)
  exact ⟨by simp [UD.len, UD.toL], [], [], by simpa using h, ⟨rfl, rfl⟩, own2.nil _ _, fun g hg => by simp⟩
theorem UD.takeAll {cs : UD} {n : Nat} (h : cs.len = n) : cs.takeN n = cs := by
  apply UD.ext; unfold UD.takeN; rw [UD.toL_ofL]; exact List.take_of_length_le (Nat.le_of_eq h)
theorem foldZ' : ∀ (ys pre zs : List Value), ys.length = zs.length → List.foldl (fun (cs : Array Value) (x : Value × Nat) => cs.setIfInBounds x.snd x.fst) (pre ++ zs).toArray (ys.zipIdx pre.length) = (pre ++ ys).toArray
  | [], pre, zs, h => by
    have : zs = [] := List.length_eq_zero_iff.1 h.symm
    subst this; rfl
  | y :: ys, pre, [], h => by cases h
  | y :: ys, pre, z :: zs, h => by
    rw [List.zipIdx_cons, List.foldl_cons]
    have e : ((pre ++ z :: zs).toArray).setIfInBounds pre.length y = ((pre ++ [y]) ++ zs).toArray := by simp
    rw [e]
    have := foldZ' ys (pre ++ [y]) zs (by simpa using h)
    rw [List.length_append] at this
    simpa using this
theorem foldZ {ys zs : List Value} (h : ys.length = zs.length) : List.foldl (fun (cs : Array Value) (x : Value × Nat) => cs.setIfInBounds x.snd x.fst) zs.toArray ys.zipIdx = ys.toArray := by
  have := foldZ' ys [] zs h
  simpa using this
end Go.Proofs.YtdnodaoeflbfkaaGreat
/- Changes above a rev: which rows they are; rows that hold what another has. -/
namespace Go.Proofs.YtdnodaoeflbfkaaGreat
open Go.RowKit Go.BigFrame
set_option linter.unusedVariables false

theorem partsC {d : UD} (h : tyL d (uE 9)) : ∃ (z0 : Int) (z1 : Bool) (o : UD), d = .p (.int .i64 z0) (.p (.bool z1) o) ∧ inK .i64 z0 ∧ tyL o (uE 8) := by
  obtain ⟨z0, r, rfl, g0, h0⟩ := tyL.i h
  obtain ⟨z1, r, rfl, h1⟩ := tyL.b h0
  exact ⟨z0, z1, r, rfl, g0, h1⟩
def revC : UD → Int
  | .p (.int _ z) _ => z
  | _ => 0
/-- those of the first q rows that lie above this rev, and how many -/
def selC (cs : UD) (rv : Int) : Nat → UD × Nat
  | 0 => (.nil, 0)
  | q + 1 => if rv < revC (rowU cs 19 q) then ((selC cs rv q).1.app (rowU cs 19 q), (selC cs rv q).2 + 1) else selC cs rv q
theorem selC_hit {cs : UD} {rv : Int} {q : Nat} (h : rv < revC (rowU cs 19 q)) : (selC cs rv (q + 1)).1 = (selC cs rv q).1.app (rowU cs 19 q) ∧ (selC cs rv (q + 1)).2 = (selC cs rv q).2 + 1 := by rw [selC, if_pos h]; exact ⟨rfl, rfl⟩
theorem selC_miss {cs : UD} {rv : Int} {q : Nat} (h : ¬ rv < revC (rowU cs 19 q)) : selC cs rv (q + 1) = selC cs rv q := by rw [selC, if_neg h]
theorem wt_take (cs : UD) (k q : Nat) : wt (cs.takeN ((q + 1) * k)) = wt (cs.takeN (q * k)) + wt (rowU cs k q) := by rw [UD.take_row, wt_app]
theorem wt_takeLe (cs : UD) (i : Nat) : wt (cs.takeN i) ≤ wt cs := by
  have h := congrArg wt (UD.app_take_drop cs i)
  rw [wt_app] at h
  omega
theorem selC_ty {n : Nat} {cs : UD} {rv : Int} (h : tyS 19 n cs 9) : ∀ q, q ≤ n → (selC cs rv q).2 ≤ q ∧ (selC cs rv q).1.len = (selC cs rv q).2 * 19 ∧ tyU (selC cs rv q).1 (uE 9) 0 ∧ cnt (selC cs rv q).1 ≤ cnt (cs.takeN (q * 19)) ∧ wt (selC cs rv q).1 ≤ wt (cs.takeN (q * 19))
  | 0, _ => ⟨Nat.le_refl _, rfl, trivial, Nat.zero_le _, Nat.zero_le _⟩
  | q + 1, hq => by
    obtain ⟨h1, h2, h3, h4, h5⟩ := selC_ty h q (by omega)
    have hr := rowU_len cs 19 q n h.2.2.2.1 (by omega)
    have ht := cnt_row cs 19 q
    have hw := wt_take cs 19 q
    by_cases hk : rv < revC (rowU cs 19 q)
    · obtain ⟨e1, e2⟩ := selC_hit hk
      rw [e1, e2]
      refine ⟨by omega, by rw [app_len, h2, hr, Nat.succ_mul], tyU.app h3 ?_, by rw [cnt_app]; omega, by rw [wt_app]; omega⟩
      rw [h2, Nat.zero_add]
      exact tyU.rowOne (by decide) (h.row (by omega)) (Nat.mul_mod_left _ 19)
    · rw [selC_miss hk]
      exact ⟨by omega, h2, h3, by omega, by omega⟩
theorem selC_tyS {n : Nat} {cs : UD} {rv : Int} (h : tyS 19 n cs 9) : tyS 19 (selC cs rv n).2 (selC cs rv n).1 9 ∧ cnt (selC cs rv n).1 ≤ cnt cs ∧ (selC cs rv n).2 ≤ n ∧ wt (selC cs rv n).1 ≤ wt cs := by
  obtain ⟨h1, h2, h3, h4, h5⟩ := selC_ty (rv := rv) h n (Nat.le_refl _)
  exact ⟨⟨by decide, rfl, Nat.le_trans h1 h.2.2.1, h2, h3⟩, Nat.le_trans h4 (cnt_le cs _), h1, Nat.le_trans h5 (wt_takeLe cs _)⟩
/-- a list of n things of k cells in a block of the call's own; what lies behind the cells is another's -/
def BS (lo hi base : Nat) (w : World) (e : TypeId) (k : Nat) (v : Value) (cs : UD) (n : Nat) : Prop := cs.len = n * k ∧ ∃ xs, w.ownsRow base e k v n xs ∧ uH w lo hi cs xs
theorem uH.under {w w' : World} {lo hi base : Nat} {d : UD} {xs : List Value} (h : uH w lo hi d xs) (hb : Below base w w') (hh : hi ≤ base) : uH w' lo hi d xs :=
  uH.map (fun _ _ _ _ g => g.kp (fun b o v _ h2 hv => (hb.cell (p := ⟨b, o, none⟩) (Nat.lt_of_lt_of_le h2 hh)).trans hv)) h
theorem BS.below {lo hi base : Nat} {w w' : World} {e : TypeId} {k : Nat} {v : Value} {cs : UD} {n : Nat} (h : BS lo hi base w e k v cs n) (hb : Below w.heap.size w w') : BS lo hi base w' e k v cs n := by
  obtain ⟨h0, xs, h1, h2⟩ := h
  exact ⟨h0, xs, uowns_frame h1 (fun x hx => hb.block x (ublk_lt h1 x hx).2), h2.below hb⟩
theorem BS.slice {lo hi base : Nat} {w : World} {e : TypeId} {k : Nat} {v : Value} {cs : UD} {n : Nat} (h : BS lo hi base w e k v cs n) : ∃ a p, v = .slice a n p := by
  obtain ⟨h0, xs, h1, h2⟩ := h
  exact uowns_slice h1
theorem BS.lit {lo hi : Nat} {w : World} {e : TypeId} {k : Nat} {base : Nat} (hb : base ≤ w.heap.size) : BS lo hi base (w.alloc (.cells #[] e)) e k (.slice (some ⟨w.heap.size, 0, none⟩) 0 0) .nil 0 := by
  have h := World.ownsRow_lit (base := base) (size := k) (e := e) w #[] 0 hb (Nat.zero_le _) (by simp)
  exact ⟨by simp [UD.len, UD.toL], [], by simpa using h, rfl⟩
theorem BS.u {lo hi base : Nat} {w : World} {e : TypeId} {k : Nat} {v : Value} {cs : UD} {n : Nat} (h : BS lo hi base w e k v cs n) (hk : 0 < k) (hh : hi ≤ w.heap.size) : uS w 0 w.heap.size k n cs v := by
  obtain ⟨h0, xs, h1, h2⟩ := h
  have h1' : w.ownsRow 0 e k v n xs := by
    refine ⟨h1.1, ?_⟩
    rcases h1.2 with hh | ⟨g, cap, cur, a1, a2, a3⟩
    · exact .inl hh
    · exact .inr ⟨g, cap, cur, a1, Nat.zero_le _, a3⟩
  exact uowns_u hk h1' h2.len (fun g hg => ⟨Nat.zero_le _, (ublk_lt h1 g hg).2⟩) (fun g hg => uM.of_hand (h2.mono (Nat.zero_le _) hh) hg)
theorem BS.snoc {lo hi base : Nat} {w1 w2 : World} {e : TypeId} {k : Nat} {v2 : Value} {cs R : UD} {n : Nat} {xs ys : List Value} (hlen : cs.len = n * k) (ho : uH w1 lo hi cs xs) (hR : uH w1 lo hi R ys) (hRl : R.len = k) (hb : Below base w1 w2) (hh : hi ≤ base)
    (hown : w2.ownsRow base e k v2 (n + 1) (xs ++ ys)) : BS lo hi base w2 e k v2 (cs.app R) (n + 1) :=
  ⟨by rw [app_len, hlen, hRl, Nat.succ_mul], xs ++ ys, hown, uH.app (ho.under hb hh) (hR.under hb hh)⟩
end Go.Proofs.YtdnodaoeflbfkaaGreat
/- A wide answer as one row: what the walk of a law asks of it. -/
namespace Go.Proofs.YtdnodaoeflbfkaaGreat
open Go.RowKit Go.BigFrame
set_option linter.unusedVariables false
theorem ones_u {w : World} {lo hi : Nat} : ∀ {d : UD} {fs : List UF} {xs : List Value}, tyL d fs → uH w lo hi d xs → ∀ u ∈ xs, u.oneCell' = true
  | .nil, _, _, _, h, u, hu => by rw [h] at hu; cases hu
  | .p v r, _, _, ⟨f, fr, e, h1, h2⟩, ⟨ys, e2, h⟩, u, hu => by
    subst e2
    rcases List.mem_cons.1 hu with rfl | hu
    · cases f with
      | i k => obtain ⟨z, rfl, _⟩ := h1; rfl
      | s => obtain ⟨z, rfl, _⟩ := h1; rfl
      | b => obtain ⟨z, rfl⟩ := h1; rfl
      | l k t => cases h1
    · exact ones_u h2 h u hu
  | .l k n cs r, _, _, ⟨t, fr, e, h1, h2⟩, ⟨c, ys, e2, hs, h⟩, u, hu => by
    subst e2
    rcases List.mem_cons.1 hu with rfl | hu
    · obtain ⟨a, cap, rfl, _⟩ := hs; rfl
    · exact ones_u h2 h u hu
theorem rowBox (wr : World) (T : TypeId) (xr Z : List Value) (hl : xr.length = Z.length) (wy : World) (ey : wy = (wr.alloc (.cells Z.toArray T)).setCells wr.heap.size 0 xr) : objU wy wr.heap.size T xr ∧ Below wr.heap.size wr wy := by
  subst ey
  have h := objU.setCells (t := T) xr Z [] [] _ (objU.new2 (w := wr) T Z rfl |> fun x => by simpa using x) hl.symm
  refine ⟨by simpa using h, ((Below.refl _ _).alloc (Nat.le_refl _) _).trans ((OutS.setCells _ _ _).below (fun t ht => by simp at ht; omega) (by simp))⟩
theorem wpList_load_rowH {P : Program} {ops : Array Oper} {rest : List Oper} {o : Oper} {a : Act} {w : World} {Q : Exit → Act → World → Prop} (hw : Region.wanted o (yielded ops a.tmps) = true) (t : TypeId) (x : Operand) (ho : o.op = .load t x)
    (b j : Nat) (hx : a.eval x = .pointer (some ⟨b, j, none⟩)) (ys : List Value) (hu : (P.underlying t).map TypeDesc.isRow = some true) (hi : (P.info? t).map (·.size) = some ys.length) (hr : w.rangeAt b j ys) (h : wpList P ops Q rest (a.put o.dst (.agg ys.toArray)) w) : wpList P ops Q (o :: rest) a w := by
  refine wpList_step fun K hK => ?_
  rw [if_pos hw]
  unfold Oper.wp execOp
  simp only [ho, Sem.run_bind, Sem.run_pure, hx, load_row_eq hu hi hr, Result.andThen_ok]
  exact hK _ _ h
end Go.Proofs.YtdnodaoeflbfkaaGreat
/- Data as cells: the helpers of the laws over Change. -/
namespace Go.Proofs.YtdnodaoeflbfkaaGreat
open Go.RowKit Go.BigFrame
set_option linter.unusedVariables false

theorem Tryz.rChange_int : (Tryz.prog.underlying 3).map TypeDesc.isRow = some false := by kernel_rfl
theorem Tryz.zChange_int : (Tryz.prog.info? 3).map (·.size) = some 1 := by kernel_rfl
theorem Tryz.rChange_bool : (Tryz.prog.underlying 4).map TypeDesc.isRow = some false := by kernel_rfl
theorem Tryz.zChange_bool : (Tryz.prog.info? 4).map (·.size) = some 1 := by kernel_rfl
theorem Tryz.rChange_laws_Obj : (Tryz.prog.underlying 214).map TypeDesc.isRow = some true := by kernel_rfl
theorem Tryz.zChange_laws_Obj : (Tryz.prog.info? 214).map (·.size) = some 17 := by kernel_rfl
theorem Tryz.rChange_impl_Obj : (Tryz.prog.underlying 138).map TypeDesc.isRow = some true := by kernel_rfl
theorem Tryz.zChange_impl_Obj : (Tryz.prog.info? 138).map (·.size) = some 17 := by kernel_rfl
theorem Tryz.rChange_string : (Tryz.prog.underlying 9).map TypeDesc.isRow = some false := by kernel_rfl
theorem Tryz.zChange_string : (Tryz.prog.info? 9).map (·.size) = some 1 := by kernel_rfl
theorem Tryz.rChange_Lstring : (Tryz.prog.underlying 23).map TypeDesc.isRow = some false := by kernel_rfl
theorem Tryz.zChange_Lstring : (Tryz.prog.info? 23).map (·.size) = some 1 := by kernel_rfl
theorem Tryz.rChange_Limpl_Value : (Tryz.prog.underlying 88).map TypeDesc.isRow = some false := by kernel_rfl
theorem Tryz.zChange_Limpl_Value : (Tryz.prog.info? 88).map (·.size) = some 1 := by kernel_rfl
theorem Tryz.rChange_laws_Change : (Tryz.prog.underlying 217).map TypeDesc.isRow = some true := by kernel_rfl
theorem Tryz.zChange_laws_Change : (Tryz.prog.info? 217).map (·.size) = some 19 := by kernel_rfl
theorem Tryz.rChange_impl_Change : (Tryz.prog.underlying 140).map TypeDesc.isRow = some true := by kernel_rfl
theorem Tryz.zChange_impl_Change : (Tryz.prog.info? 140).map (·.size) = some 19 := by kernel_rfl
end Go.Proofs.YtdnodaoeflbfkaaGreat
/- Data as cells: the helpers of the laws over Change. -/
namespace Go.Proofs.YtdnodaoeflbfkaaGreat
open Go.RowKit Go.BigFrame
set_option linter.unusedVariables false
set_option linter.unusedSimpArgs false

set_option maxRecDepth 20000 in
set_option maxHeartbeats 1600000 in
theorem uszChange_any {lo hi : Nat} (d : UD) (xs : List Value) (left : Int) (w : World) (ht : tyL d (uE 9)) (hx : uH w lo hi d xs) (h0 : 0 ≤ left) (h1 : left ≤ 1048576) :
    Calls Tryz.prog 166 #[.agg xs.toArray, .int .i64 left] w fun e w' => e = .returned (.int .i64 (leftI left (wt d))) ∧ Below w.heap.size w w' := by
  replace ht : tyL d [.i .i64, .b, .i .i64, .s, .i .i64, .i .i64, .i .i64, .b, .l 1 0, .i .i64, .s, .i .i64, .l 1 0, .l 5 6, .i .i64, .s, .i .i64, .l 1 0, .l 5 6] := ht
  obtain ⟨z0, _, rfl, g0, h0⟩ := tyL.i ht
  obtain ⟨z1, _, rfl, h1⟩ := tyL.b h0
  clear h0
  obtain ⟨d2, _, rfl, g2, h2⟩ := tyL.split (f1 := uE 8) (f2 := []) h1
  clear h1
  obtain rfl := tyL.nil h2
  clear h2
  obtain ⟨_, rfl, h0⟩ := hx
  obtain ⟨_, rfl, h1⟩ := h0
  obtain ⟨y2, _, rfl, l2, s2, h2⟩ := uH.split h1
  replace l2 : y2.length = 17 := l2.trans (tyL.len g2)
  clear h1
  obtain rfl := h2
  obtain ⟨M0, hM0⟩ : ∃ M, M = (wt d2) := ⟨_, rfl⟩
  have HC0 : Hid (∀ (wx : World) (l : Int), Below w.heap.size w wx → 0 ≤ l → l ≤ 1048576 → Calls Tryz.prog 165 #[.agg y2.toArray, .int .i64 l] wx fun e w' => e = .returned (.int .i64 (leftI l M0)) ∧ Below wx.heap.size wx w') := fun wx l hb q0 q1 => hM0 ▸ uszObj_any (lo := lo) (hi := hi) d2 _ l wx g2 (s2.below hb) q0 q1
  have E : Hid (leftI left (wt (UD.p (.int .i64 z0) (UD.p (.bool z1) (UD.app d2 UD.nil)))) = leftI left (M0 + 0)) := by show _ = _; congr 1 <;> (simp only [wt, wtP, wt_app, hM0] <;> omega)
  generalize leftI left (wt (UD.p (.int .i64 z0) (UD.p (.bool z1) (UD.app d2 UD.nil)))) = R at *
  have HA : Hid (∀ o, Below w.heap.size w (w.alloc o)) := fun o => (Below.refl _ _).alloc (Nat.le_refl _) _
  obtain ⟨AX, hAX⟩ : ∃ AX : List Value, AX = (Value.int .i64 z0 :: (Value.bool z1 :: ((y2 ++ [])))) := ⟨_, rfl⟩
  rw [← hAX]
  have hlen : AX.length = 19 := by rw [hAX]; simp [l2]
  have e0 : AX[0]? = some (.int .i64 z0) := at_mid (i := 0) (pre := (([] : List Value))) (ys := [.int .i64 z0]) (post := (Value.bool z1 :: ((y2 ++ [])))) (by rw [hAX]; simp) (by simp) rfl
  have e1 : AX[1]? = some (.bool z1) := at_mid (i := 0) (pre := ([Value.int .i64 z0])) (ys := [.bool z1]) (post := ((y2 ++ []))) (by rw [hAX]; simp) (by simp) rfl
  have e2 : ∀ i v, y2[i]? = some v → AX[2 + i]? = some v := fun i v h => at_mid (pre := ([Value.int .i64 z0, Value.bool z1])) (ys := y2) (post := []) (by rw [hAX]; simp) (by simp) h
  clear hAX
  have E0 := uhide e0
  clear e0
  have E1 := uhide e1
  clear e1
  have YZ2 : Hid ((Tryz.prog.info? 214).map (·.size) = some y2.length) := by show _ = _; rw [l2]; exact Tryz.zChange_laws_Obj
  clear l2
  have E2 := uhide e2
  clear e2
  have OA0 : Hid (objU (w.alloc (.cells AX.toArray 217)) w.heap.size 217 AX) := objU.new2 _ _ rfl
  clear ht g0 g2 s2 hM0
  obtain ⟨y0q, hy0⟩ : ∃ y, y = leftI left M0 := ⟨_, rfl⟩
  have Y0q := uhide hy0
  by_cases k0 : y0q < 0
  · have EN : Hid (R = -1) := by show _ = _; rw [E.out]; exact leftI_neg _ (by omega) (by rw [← hy0]; exact k0)
    clear E hy0
    go_enter Tryz.func166, Tryz.ntmps166
    go_wp2_with (first
    | ((with_reducible refine wpList_load_row2 ?qqg57 214 ?qqx57 ?qqo57 w.heap.size 2 ?qqh57 y2 Tryz.rChange_laws_Obj YZ2.out (OA0.out.range 2 _ E2.out) ?_); (case qqg57 => rfl); (case qqo57 => rfl); (case qqh57 => simp [Act.eval, Act.put]))
    )
    refine (HC0.out _ _ (HA.out _) (by omega) (by omega)).mono ?_
    rintro e w1 ⟨rfl, hb1⟩
    have OA1 := uhide (OA0.out.below hb1)
    have B1 : Hid (Below w.heap.size w w1) := (HA.out _).trans (hb1.mono (by simp))
    clear hb1
    rw [show leftI left M0 = y0q from Y0q.out.symm]
    go_wp2
    go_ret
    exact ⟨ret_intU EN.out.symm, B1.out⟩
  replace E : Hid (R = leftI y0q (0)) := by
    obtain ⟨q1, q2, q3⟩ := leftI_pos (x := left) (a := M0) (0) (by rw [← hy0]; exact k0)
    show _ = _; rw [E.out, q1, ← hy0]
  have u0 : y0q ≤ left := by rw [hy0]; unfold leftI; split <;> omega
  clear hy0
  replace E : Hid (R = y0q) := E.out.trans (leftI_zero (by omega))
  go_enter Tryz.func166, Tryz.ntmps166
  go_wp2_with (first
    | ((with_reducible refine wpList_load_row2 ?qqg76 214 ?qqx76 ?qqo76 w.heap.size 2 ?qqh76 y2 Tryz.rChange_laws_Obj YZ2.out (OA0.out.range 2 _ E2.out) ?_); (case qqg76 => rfl); (case qqo76 => rfl); (case qqh76 => simp [Act.eval, Act.put]))
    )
  refine (HC0.out _ _ (HA.out _) (by omega) (by omega)).mono ?_
  rintro e w1 ⟨rfl, hb1⟩
  have OA1 := uhide (OA0.out.below hb1)
  have B1 : Hid (Below w.heap.size w w1) := (HA.out _).trans (hb1.mono (by simp))
  clear hb1
  rw [show leftI left M0 = y0q from Y0q.out.symm]
  go_wp2
  go_ret
  exact ⟨ret_intU E.out.symm, B1.out⟩
set_option maxRecDepth 20000 in
set_option maxHeartbeats 800000 in
set_option maxRecDepth 20000 in
theorem uszChangeS_any {lo hi : Nat} (n : Nat) (cs : UD) (c : Value) (left : Int) (w : World) (ht : tyS 19 n cs 9) (h0 : 0 ≤ left) (h1 : left ≤ 1048576) (hx : uS w lo hi 19 n cs c) :
    Calls Tryz.prog 88 #[c, .int .i64 left] w fun e w' => e = .returned (.int .i64 (leftI left (n + wt cs))) ∧ Below w.heap.size w w' := by
  obtain ⟨a, cap, rfl, hx2⟩ := hx
  have Hx : Hid (uS w lo hi 19 n cs (.slice a n cap)) := ⟨a, cap, rfl, hx2⟩
  have hmx := ht.2.2.1
  unfold maxLen at hmx
  have Ht := uhide ht
  clear hx2 ht
  by_cases c1 : left - (n : Int) < 0
  · have E : Hid (leftI left (n + wt cs) = -1) := by show _ = _; unfold leftI; rw [if_pos (by omega)]
    go_enter Tryz.func88, Tryz.ntmps88
    go_wp2
    go_ret
    exact ⟨ret_intU E.out.symm, Below.refl _ _⟩
  have E : Hid (leftI left (n + wt cs) = leftI (left - n) (wt (cs.dropN (0 * 19)))) := by
    show _ = _
    obtain ⟨g1, g2, g3⟩ := leftI_pos (x := left) (a := n) (wt cs) (by unfold leftI; split <;> omega)
    rw [g1, g2, Nat.zero_mul, UD.dropN_zero]
  go_enter Tryz.func88, Tryz.ntmps88
  go_wp2
  go_loopw [1, 5] (fun l i wr => ∃ (q : Nat) (x : Int), q ≤ n ∧ i = .int .i64 q ∧ l = .int .i64 x ∧ 0 ≤ x ∧ x ≤ 1048576 ∧ Hid (leftI left (n + wt cs) = leftI x (wt (cs.dropN (q * 19)))) ∧ Below w.heap.size w wr) (fun _ i _ => n - (intOf i).toNat)
  case atStart => exact ⟨0, _, Nat.zero_le _, rfl, rfl, by omega, by omega, E, Below.refl _ _⟩
  case round =>
    obtain ⟨q, x, hq, rfl, rfl, hx0, hx1, Hs, hbw⟩ := hrel
    by_cases hlt : q < n
    · obtain ⟨b, off, rfl, hbb, hm⟩ := (Hx.out.below hbw).cells (by omega)
      have htr := Ht.out.row hlt
      have hr := hm.row 19 q
      have hw : wt (cs.dropN (q * 19)) = wt (rowU cs 19 q) + wt (cs.dropN ((q + 1) * 19)) := by rw [UD.drop_row cs 19 q, wt_app]
      have hsz := uszD_row cs 19 q
      obtain ⟨xs, hh, hcl⟩ := hr.hand
      have Hcon : Hid (∀ wx, Below wr.heap.size wr wx → Calls Tryz.prog 166 #[.agg xs.toArray, .int .i64 x] wx fun e w' => e = .returned (.int .i64 (leftI x (wt (rowU cs 19 q)))) ∧ Below wx.heap.size wx w') := fun wx hb => uszChange_any (lo := lo) (hi := hi) _ _ x wx htr (hh.below hb) hx0 hx1
      have hxl : xs.length = 19 := by rw [hh.len, tyL.len htr]; rfl
      have lld := load_whole (P := Tryz.prog) (t := 217) (k := 19) (ad := ⟨b, off + q * 19, none⟩) (w := wr) Tryz.isAgg217 Tryz.sizeOf217 hxl (fun j v h => by rw [Go.WideShapes.add_plain]; exact hcl j v h)
      clear hcl hr hm htr hsz hh
      generalize xs.toArray = XS at *
      have LLD := uhide lld
      clear lld hxl
      generalize wt (rowU cs 19 q) = m at *
      have hneg0 := fun h => leftI_neg (x := x) (a := m) (wt (cs.dropN ((q + 1) * 19))) hx0 h
      have hpos0 := fun h => leftI_pos (x := x) (a := m) (wt (cs.dropN ((q + 1) * 19))) h
      have hle0 : leftI x m ≤ x := by unfold leftI; split <;> omega
      generalize leftI x m = y at *
      by_cases hneg : y < 0
      · have hr : Hid (leftI left (n + wt cs) = -1) := by show _ = _; rw [Hs.out, hw]; exact hneg0 hneg
        clear hw Hs E hneg0 hpos0
        go_wp2_with (with_reducible refine wpList_load_eq rfl 217 _ rfl ⟨b, off + q * 19, none⟩ (by simp [Act.eval]) (.agg XS) LLD.out ?_)
        refine (Hcon.out _ (by repeat (first | exact Below.refl _ _ | refine Below.alloc ?_ (by simp) _))).mono ?_
        rintro e w1 ⟨rfl, hb⟩
        go_wp2
        go_ret
        exact ⟨ret_intU hr.out.symm, hbw.trans (hb.mono hbw.size)⟩
      · have hr : Hid (leftI left (n + wt cs) = leftI y (wt (cs.dropN ((q + 1) * 19)))) := by
          show _ = _
          rw [Hs.out, hw]; exact (hpos0 hneg).1
        clear hw Hs E hneg0 hpos0
        go_wp2_with (with_reducible refine wpList_load_eq rfl 217 _ rfl ⟨b, off + q * 19, none⟩ (by simp [Act.eval]) (.agg XS) LLD.out ?_)
        refine (Hcon.out _ (by repeat (first | exact Below.refl _ _ | refine Below.alloc ?_ (by simp) _))).mono ?_
        rintro e w1 ⟨rfl, hb⟩
        go_wp2
        go_roundw
        case rel => exact ⟨q + 1, _, by omega, by go_num, rfl, by omega, by omega, hr, hbw.trans (hb.mono hbw.size)⟩
        case measure => simp [intOf]; omega
    · have e : q = n := by omega
      subst e
      have hr : Hid (leftI left (q + wt cs) = x) := by
        show _ = _
        rw [Hs.out, ← Ht.out.2.2.2.1, UD.dropN_all]
        exact leftI_zero hx0
      clear Hs E
      go_wp2
      go_ret
      exact ⟨ret_intU hr.out.symm, hbw⟩
end Go.Proofs.YtdnodaoeflbfkaaGreat
/- The changes above a rev, handed on one by one: impl.above and what it hands back. -/
namespace Go.Proofs.YtdnodaoeflbfkaaGreat
open Go.RowKit Go.BigFrame Go.Shelf
set_option linter.unusedVariables false
set_option linter.unusedSimpArgs false
attribute [local go_sem] Oper.semAt_some

section
variable {F : Fence} {n : Nat} {P : Program} {ops : Array Oper} {rest : List Oper} {o : Oper} {a : Act} {w : World} {Q : Exit → Act → World → Prop}
theorem wpListIn_load_row (hw : Region.wanted o (yielded ops a.tmps) = true) (t : TypeId) (x : Operand) (ho : o.op = .load t x) (b j : Nat) (hx : a.eval x = .pointer (some ⟨b, j, none⟩)) (ys : List Value) (hu : (P.underlying t).map TypeDesc.isRow = some true) (hi : (P.info? t).map (·.size) = some ys.length) (hr : w.rangeAt b j ys) (h : wpListIn F n P ops Q rest (a.put o.dst (.agg ys.toArray)) w) : wpListIn F n P ops Q (o :: rest) a w := by
  refine wpListIn_step fun K hK => ?_
  rw [if_pos hw]
  unfold Oper.wpIn
  refine ⟨?_, ?_⟩
  · intro f hf; simp [Oper.about, ho] at hf
  · rw [Oper.semAt_plain F _ _ (by rw [ho]; intro c hc; cases hc)]
    unfold execOp
    simp only [ho, Sem.run_bind, Sem.run_pure, hx, load_row_eq hu hi hr, Result.andThen_ok]
    exact hK _ _ h
def BehindIn (φ : World → Prop) (w : World) : Prop := ∀ w', w' = w → φ w'
theorem wpListIn_store_row (hgd : o.guard = none) (t : TypeId) (x y : Operand) (ho : o.op = .store t x y) (hd : o.dst = none) (b j : Nat) (hx : a.eval x = .pointer (some ⟨b, j, none⟩)) (v : Value) (hy : a.eval y = v) (ys : List Value) (hv : v.cells = ys.toArray) (h1 : ∀ u ∈ ys, u.oneCell' = true) (hi : (P.info? t).map (·.size) = some ys.length) (ht : w.there b j ys.length)
    (h : BehindIn (wpListIn F n P ops Q rest a) (w.setCells b j ys)) : wpListIn F n P ops Q (o :: rest) a w := by
  refine wpListIn_plain hgd fun K hK => ?_
  unfold Oper.wpIn
  refine ⟨?_, ?_⟩
  · intro f hf; simp [Oper.about, ho] at hf
  · rw [Oper.semAt_plain F _ _ (by rw [ho]; intro c hc; cases hc)]
    unfold execOp
    simp only [ho, hx, hy, Sem.run_bind, run_storeAt_cells hv h1 hi ht, Result.andThen_ok]
    exact hK _ _ (by rw [hd]; exact h _ rfl)
end
theorem cellLt {w : World} {b j : Nat} {v : Value} (h : w.cell? ⟨b, j, none⟩ = some v) : b < w.heap.size := by
  rcases Nat.lt_or_ge b w.heap.size with h1 | h1
  · exact h1
  · exfalso
    have h2 : w.heap[b]? = none := Array.getElem?_eq_none_iff.2 h1
    simp [World.cell?, h2] at h
theorem grown_setCells : ∀ (ys : List Value) (b o : Nat) (w : World), w.grownBy (w.setCells b o ys) (some b)
  | [], b, o, w => ⟨rfl, rfl, rfl, Nat.le_refl _, fun _ _ _ => rfl⟩
  | y :: ys, b, o, w => by
    have h1 : w.grownBy (w.setCell ⟨b, o, none⟩ y) (some b) := ⟨rfl, rfl, rfl, by simp [World.setCell], fun k _ hk => Below.heap_setCell _ _ _ _ (fun e => hk (by simp [e]))⟩
    have h2 := grown_setCells ys b (o + 1) (w.setCell ⟨b, o, none⟩ y)
    exact ⟨h2.os.trans h1.os, h2.tape.trans h1.tape, h2.output.trans h1.output, Nat.le_trans h1.size h2.size, fun k hk hne => (h2.block k (Nat.lt_of_lt_of_le hk h1.size) hne).trans (h1.block k hk hne)⟩
/-- a new box, filled -/
theorem grown_box {wr wy : World} {T : TypeId} {xr Z : List Value} (e : wy = (wr.alloc (.cells Z.toArray T)).setCells wr.heap.size 0 xr) : wr.grownBy wy none := by
  subst e
  have h1 := World.grownBy_alloc wr (.cells Z.toArray T) none
  have h2 := grown_setCells xr wr.heap.size 0 (wr.alloc (.cells Z.toArray T))
  exact ⟨h2.os.trans h1.os, h2.tape.trans h1.tape, h2.output.trans h1.output, Nat.le_trans h1.size h2.size, fun k hk hne => (h2.block k (Nat.lt_of_lt_of_le hk h1.size) (fun e => by cases e; omega)).trans (h1.block k hk hne)⟩
/-- the places that lie above the rev -/
def selN (zr : Nat → Int) (rv : Int) : Nat → List Nat
  | 0 => []
  | q + 1 => if rv < zr q then selN zr rv q ++ [q] else selN zr rv q
theorem selN_le (zr : Nat → Int) (rv : Int) : ∀ q, (selN zr rv q).length ≤ q
  | 0 => Nat.le_refl _
  | q + 1 => by
    have := selN_le zr rv q
    unfold selN
    split
    · simp; omega
    · omega
/-- what the iterator keeps between its rounds -/
def KeepR (n₀ Br : Nat) (A B : World) : Prop := Below n₀ A B ∧ B.heap[Br]? = A.heap[Br]?
theorem KeepR.refl (n₀ Br : Nat) (A : World) : KeepR n₀ Br A A := ⟨Below.refl _ _, rfl⟩
theorem keepR_t {n₀ Br : Nat} {A B C : World} (h : KeepR n₀ Br A B) (k : KeepR n₀ Br B C) : KeepR n₀ Br A C := ⟨h.1.trans k.1, k.2.trans h.2⟩
theorem keepR_b {n₀ Br : Nat} {w : World} (hn : n₀ ≤ w.heap.size) (hr : Br < w.heap.size) (W : World) (l : Nat) (o o' : Obj) (hl : w.heap.size ≤ l) (h : W.heap[l]? = some o) (h1 : o.isCells = false) (h2 : o.isWalk = false) : KeepR n₀ Br W (W.putObj l o') :=
  ⟨belowK_b hn W l o o' hl h h1 h2, World.putObj_heap_other (by omega)⟩
/-- what the rows of a log are, for the iterator -/
def RowsOf (len : Nat) (ρ : Nat → List Value) (zr : Nat → Int) : Prop := ∀ j, j < len → (ρ j).length = 19 ∧ (∀ u ∈ ρ j, u.oneCell' = true) ∧ (ρ j)[0]? = some (.int .i64 (zr j))
theorem above_in (F : Fence) (n : Nat) (hf : F.fn 101) (hro : F.round = none) (a : Option Addr) (len cap : Nat) (rv : Int) (w : World) :
    CallsIn F n Tryz.prog 101 #[.slice a len cap, .int .i64 rv] w fun e w' => e = .returned (.func (.func 178) #[] #[.pointer (some ⟨w.heap.size, 0, none⟩), .pointer (some ⟨w.heap.size + 1, 0, none⟩)]) ∧ w' = (w.alloc (.cells #[.slice a len cap] 67)).alloc (.cells #[.int .i64 rv] 3) := by
  refine callsIn_of_wp Tryz.func101 rfl hf ?_ hro
  simp only [Tryz.ntmps101, List.size_toArray, List.length_cons, List.length_nil, Nat.reduceAdd, Nat.reduceSub, Array.replicate_succ, Array.replicate_zero, List.push_toArray, List.append_toArray, List.nil_append, List.cons_append]
  gi_wp2
  go_ret
  exact ⟨rfl, rfl⟩
set_option maxRecDepth 100000 in
set_option maxHeartbeats 3200000 in
theorem above1_in (F : Fence) (n : Nat) (hf : F.fn 178) (hro : F.round = none) (hn : 1 ≤ n) (l Bs Br n₀ b off len cap : Nat) (rv : Int) (ρ : Nat → List Value) (zr : Nat → Int) (hlen : len ≤ 1048576) (hb : 0 < len → b < n₀) (hρ : RowsOf len ρ zr) (W : World) (J Jx : List {q : Nat // q < len} → World → Prop) (hJ : AbidesFrom W.heap.size J)
    (hY : ∀ pre x W, J pre W → pre.length < len → YieldAt F (n - 1) Tryz.prog l #[.agg (ρ x.1).toArray] W fun e W' =>
      (e = .returned (.bool true) ∧ J (pre ++ [x]) W' ∧ KeepR n₀ Br W W') ∨ (e = .returned (.bool false) ∧ Jx (pre ++ [x]) W'))
    (a0 : Option Addr) (ha0 : 0 < len → a0 = some ⟨b, off, none⟩) (hBs : W.cell? ⟨Bs, 0, none⟩ = some (.slice a0 len cap)) (hBr : W.cell? ⟨Br, 0, none⟩ = some (.int .i64 rv)) (hn₀ : n₀ ≤ W.heap.size) (hc : ∀ j, j < len → W.rangeAt b (off + j * 19) (ρ j)) (h0 : J [] W) :
    CallsIn F n Tryz.prog 178 #[.func (.yield l) #[] #[], .pointer (some ⟨Bs, 0, none⟩), .pointer (some ⟨Br, 0, none⟩)] W fun e W' => (∃ v, e = .returned v) ∧
      ((∃ ys : List {q : Nat // q < len}, ys.map (·.1) = selN zr rv len ∧ J ys W') ∨ (∃ pre : List {q : Nat // q < len}, True ∧ Jx pre W')) := by
  refine callsIn_of_wp Tryz.func178 rfl hf ?_ hro
  simp only [Tryz.ntmps178, List.size_toArray, List.length_cons, List.length_nil, Nat.reduceAdd, Nat.reduceSub, Array.replicate_succ, Array.replicate_zero, List.push_toArray, List.append_toArray, List.nil_append, List.cons_append]
  have HR := uhide hρ
  have HC := uhide hc
  have hbrW : Br < W.heap.size := cellLt hBr
  clear hρ hc
  gi_wp2
  gi_loopw [8] (fun i wr => ∃ (k : Nat) (ys : List {q : Nat // q < len}), k ≤ len ∧ i = .int .i64 k ∧ Hid (ys.map (·.1) = selN zr rv k) ∧ Hid (J ys wr) ∧ Hid (KeepR n₀ Br W wr) ∧ Hid (W.heap.size ≤ wr.heap.size))
    (fun i _ => len - (intOf i).toNat)
  case atStart => exact ⟨0, [], Nat.zero_le _, rfl, rfl, h0, KeepR.refl _ _ _, Nat.le_refl _⟩
  case round =>
    clear h0
    obtain ⟨k, ys, hk, rfl, HS, HJ, HK, HZ⟩ := hrel
    have hbr : wr.cell? ⟨Br, 0, none⟩ = some (.int .i64 rv) := (World.cell?_of_block HK.out.2).trans hBr
    by_cases hlt : k < len
    · obtain ⟨hl19, hone, hx0⟩ := HR.out k hlt
      have hbn := hb (by omega)
      have ha := ha0 (by omega)
      subst ha
      have RG : Hid (wr.rangeAt b (off + k * 19) (ρ k)) := fun j v hj => (HK.out.1.cell (p := ⟨b, _, none⟩) hbn).trans (HC.out k hlt j v hj)
      have FZ : Hid ((Tryz.prog.info? 140).map (·.size) = some (ρ k).length) := by show _ = _; rw [hl19]; exact Tryz.zChange_impl_Change
      have TH : Hid ((wr.alloc (.cells [.int .i64 0, .bool false, .int .i64 0, .string ⟨#[]⟩, .int .i64 0, .int .i64 0, .int .i64 0, .bool false, .slice none 0 0, .int .i64 0, .string ⟨#[]⟩, .int .i64 0, .slice none 0 0, .slice none 0 0, .int .i64 0, .string ⟨#[]⟩, .int .i64 0, .slice none 0 0, .slice none 0 0].toArray 140)).there wr.heap.size 0 (ρ k).length) := by show World.there _ _ _ _; rw [hl19]; exact (objU.new wr 140 [.int .i64 0, .bool false, .int .i64 0, .string ⟨#[]⟩, .int .i64 0, .int .i64 0, .int .i64 0, .bool false, .slice none 0 0, .int .i64 0, .string ⟨#[]⟩, .int .i64 0, .slice none 0 0, .slice none 0 0, .int .i64 0, .string ⟨#[]⟩, .int .i64 0, .slice none 0 0, .slice none 0 0]).there 0 19 (by decide)
      have hys : ys.length < len := by have h := congrArg List.length HS.out; rw [List.length_map] at h; have := selN_le zr rv k; omega
      have HX0 := uhide hx0
      have HO := uhide hone
      have hkn : (k : Int) < (len : Int) := by omega
      have hk0 : (0 : Int) ≤ (k : Int) := Int.natCast_nonneg _
      clear hx0 hone
      gi_wp2_with (first
        | ((with_reducible refine wpListIn_load_row ?qqg1 140 ?qqx1 ?qqo1 b (off + k * 19) ?qqh1 (ρ k) Tryz.rChange_impl_Change FZ.out RG.out ?_); (case qqg1 => rfl); (case qqo1 => rfl); (case qqh1 => simp [Act.eval, Act.put]))
        | ((with_reducible refine wpListIn_store_row ?qqg2 140 ?qqx2 ?qqy2 ?qqo2 ?qqd2 wr.heap.size 0 ?qqh2 (.agg (ρ k).toArray) ?qqv2 (ρ k) cells_agg HO.out FZ.out TH.out ?_); (case qqg2 => rfl); (case qqo2 => rfl); (case qqd2 => rfl); (case qqh2 => simp [Act.eval, Act.put]); (case qqv2 => simp [Act.eval, Act.put])))
      intro wy ey
      have HG : Hid (wr.grownBy wy none) := grown_box ey
      have OY := rowBox wr 140 (ρ k) [.int .i64 0, .bool false, .int .i64 0, .string ⟨#[]⟩, .int .i64 0, .int .i64 0, .int .i64 0, .bool false, .slice none 0 0, .int .i64 0, .string ⟨#[]⟩, .int .i64 0, .slice none 0 0, .slice none 0 0, .int .i64 0, .string ⟨#[]⟩, .int .i64 0, .slice none 0 0, .slice none 0 0] (by rw [hl19]; rfl) wy ey
      have RX : Hid (wy.rangeAt wr.heap.size 0 (ρ k)) := OY.1.whole
      have k0 := OY.1.cell 0 _ HX0.out
      have HJ2 : Hid (J ys wy) := hJ ys wr wy none HJ.out HG.out (fun r e => by cases e)
      have hbry : wy.cell? ⟨Br, 0, none⟩ = some (.int .i64 rv) := (World.cell?_of_block (HG.out.block Br (by have := HZ.out; omega) (by simp))).trans hbr
      have HK2 : Hid (KeepR n₀ Br W wy) := keepR_t HK.out ⟨OY.2.mono (by have := HZ.out; omega), HG.out.block Br (by have := HZ.out; omega) (by simp)⟩
      have HZ2 : Hid (W.heap.size ≤ wy.heap.size) := Nat.le_trans HZ.out HG.out.size
      clear ey OY HG hbr TH HK HZ
      by_cases hgt : rv < zr k
      · obtain ⟨fn, tmps, assign, body, hy, hR⟩ := hY ys ⟨k, hlt⟩ wy HJ2.out hys
        dsimp only at hy
        have HS2 : Hid ((ys ++ [⟨k, hlt⟩] : List {q : Nat // q < len}).map (·.1) = selN zr rv (k + 1)) := by show _ = _; rw [List.map_append, HS.out, selN, if_pos hgt]; rfl
        gi_wp2_with (first
          | ((with_reducible refine wpListIn_load_row ?qqg3 140 ?qqx3 ?qqo3 wr.heap.size 0 ?qqh3 (ρ k) Tryz.rChange_impl_Change FZ.out RX.out ?_); (case qqg3 => first | (go_simp; done) | (go_simp; omega)); (case qqo3 => rfl); (case qqh3 => simp [Act.eval, Act.put])))
        refine hR.mono ?_
        rintro e W3 (⟨rfl, hJ3, hk3⟩ | ⟨rfl, hJx3⟩)
        · have HJ3 := uhide hJ3
          have HK3 : Hid (KeepR n₀ Br W W3) := keepR_t HK2.out hk3
          have HZ3 : Hid (W.heap.size ≤ W3.heap.size) := Nat.le_trans HZ2.out hk3.1.size
          clear hJ3 hk3
          gi_wp2
          go_roundw
          case rel => exact ⟨k + 1, _, by omega, by go_num, HS2, HJ3, HK3, HZ3⟩
          case measure => simp [intOf]; omega
        · gi_wp2
          refine bodyPost_ret (results_none rfl _ _ _) rfl ?_
          exact ⟨⟨_, rfl⟩, .inr ⟨_, trivial, hJx3⟩⟩
      · have HS2 : Hid (ys.map (·.1) = selN zr rv (k + 1)) := by show _ = _; rw [HS.out, selN, if_neg hgt]
        gi_wp2
        refine ⟨fun _ h => (by cases h), ?_⟩
        gi_wp2
        go_roundw
        case rel => exact ⟨k + 1, ys, by omega, by go_num, HS2, HJ2, HK2, HZ2⟩
        case measure => simp [intOf]; omega
    · obtain rfl : k = len := by omega
      gi_wp2
      go_end0
      exact ⟨⟨_, rfl⟩, .inl ⟨ys, HS.out, HJ.out⟩⟩
end Go.Proofs.YtdnodaoeflbfkaaGreat
