/- Texts of one claim, joined: each in its own section, in build order. -/
import Derived.Test.YtdnodaoeflbfkaaGreatJ9
import Derived.Test.YtdnodaoeflbfkaaGreatJ2
import Derived.Test.YtdnodaoeflbfkaaGreatJ7
import Derived.Test.YtdnodaoeflbfkaaGreatJ3
import Derived.Test.YtdnodaoeflbfkaaGreatJ4
import Derived.Test.YtdnodaoeflbfkaaGreatJ6
/- The changes above a rev, collected by the program: what a round keeps. -/
namespace Go.Proofs.YtdnodaoeflbfkaaGreat
open Go.RowKit Go.BigFrame Go.Shelf
set_option linter.unusedVariables false
set_option linter.unusedSimpArgs false

def catC (c3 : UD) (l : List Nat) : UD := l.foldl (fun d q => d.app (rowU c3 19 q)) .nil
theorem catC_snoc (c3 : UD) (l : List Nat) (q : Nat) : catC c3 (l ++ [q]) = (catC c3 l).app (rowU c3 19 q) := by unfold catC; rw [List.foldl_append]; rfl
theorem catC_sel (c3 : UD) (rv : Int) : ∀ q, catC c3 (selN (fun q => revC (rowU c3 19 q)) rv q) = (selC c3 rv q).1
  | 0 => rfl
  | q + 1 => by
    have h := catC_sel c3 rv q
    unfold selN selC
    split
    · rw [catC_snoc, h]
    · exact h
/-- a list whose own block and whose things' blocks lie from two bounds on, apart from two boxes -/
def AS2 (base1 base2 Bo Br : Nat) (w : World) (e : TypeId) (k : Nat) (v : Value) (cs : UD) (n : Nat) : Prop :=
  cs.len = n * k ∧ ∃ xs S, w.ownsRow base1 e k v n xs ∧ oH w cs xs S ∧ own2 S base2 w.heap.size ∧ ∀ g ∈ blkOf v, g ∉ S ∧ g ≠ Bo ∧ g ≠ Br
theorem uowns_cells {w : World} {B n : Nat} {v : Value} {e : TypeId} {size : Nat} {xs : List Value} (h : w.ownsRow B e size v n xs) : ∀ g ∈ blkOf v, ∃ o : Obj, w.heap[g]? = some o ∧ o.isCells = true := by
  intro g hg
  rcases h.2 with ⟨rfl, _⟩ | ⟨g', cap, cur, rfl, h3, h4, h5⟩
  · simp [blkOf, Value.ownBlock] at hg
  · simp [blkOf, Value.ownBlock] at hg
    subst hg
    exact ⟨_, h4, rfl⟩
theorem oH.cellsObj {w : World} : ∀ (d : UD) (xs : List Value) (S : List Nat), oH w d xs S → ∀ g ∈ S, ∃ o : Obj, w.heap[g]? = some o ∧ o.isCells = true
  | .nil, xs, S, h, g, hg => by rw [h.2] at hg; cases hg
  | .p v r, _, S, ⟨ys, e, h⟩, g, hg => oH.cellsObj r ys S h g hg
  | .l k n cs r, _, _, ⟨c, ys, S1, S2, e, eS, hk, ⟨t, zs, h1, h2⟩, h3⟩, g, hg => by
    subst eS
    rcases List.mem_append.1 hg with hg | hg
    · rcases List.mem_append.1 hg with hg | hg
      · exact uowns_cells h1 g hg
      · exact oH.cellsObj cs zs S1 h2 g hg
    · exact oH.cellsObj r ys S2 h3 g hg
theorem AS2.slice {base1 base2 Bo Br : Nat} {w : World} {e : TypeId} {k : Nat} {v : Value} {cs : UD} {n : Nat} (h : AS2 base1 base2 Bo Br w e k v cs n) : ∃ a p, v = .slice a n p := by
  obtain ⟨h0, xs, S, h1, h2, h3, h4⟩ := h
  exact uowns_slice h1
theorem AS2.frame {base1 base2 Bo Br : Nat} {w w' : World} {e : TypeId} {k : Nat} {v : Value} {cs : UD} {n : Nat} (h : AS2 base1 base2 Bo Br w e k v cs n) (hz : w.heap.size ≤ w'.heap.size) (hb : ∀ g, g < w.heap.size → (∃ o : Obj, w.heap[g]? = some o ∧ o.isCells = true) → (g ∈ blkOf v ∨ base2 ≤ g) → w'.heap[g]? = w.heap[g]?) : AS2 base1 base2 Bo Br w' e k v cs n := by
  obtain ⟨h0, xs, S, h1, h2, h3, h4⟩ := h
  exact ⟨h0, xs, S, uowns_frame h1 (fun x hx => hb x (ublk_lt h1 x hx).2 (uowns_cells h1 x hx) (.inl hx)), oH.frame _ _ _ h2 (fun x hx => hb x (h3.2 x hx).2 (oH.cellsObj _ _ _ h2 x hx) (.inr (h3.2 x hx).1)), h3.mono (Nat.le_refl _) hz, h4⟩
theorem AS2.done {base1 base2 Bo Br base : Nat} {w : World} {e : TypeId} {k : Nat} {v : Value} {cs : UD} {n : Nat} (h : AS2 base1 base2 Bo Br w e k v cs n) (hk : 0 < k) (hb1 : base ≤ base1) (hb2 : base ≤ base2) : ∃ S, oS w k n cs v S ∧ own2 S base w.heap.size := by
  obtain ⟨h0, xs, S, h1, h2, h3, h4⟩ := h
  have h1' : w.ownsRow 0 e k v n xs := by
    refine ⟨h1.1, ?_⟩
    rcases h1.2 with hh | ⟨g, cap, cur, a1, a2, a3⟩
    · exact .inl hh
    · exact .inr ⟨g, cap, cur, a1, Nat.zero_le _, a3⟩
  refine ⟨blkOf v ++ S, ⟨hk, e, xs, S, h1', h2, rfl⟩, ?_, fun s hs => ?_⟩
  · refine List.nodup_append.2 ⟨?_, h3.1, fun a ha b hb hab => (h4 a ha).1 (hab ▸ hb)⟩
    unfold blkOf
    split
    · simp
    · exact List.nodup_nil
  · rcases List.mem_append.1 hs with hs | hs
    · have := ublk_lt h1 s hs; omega
    · have := h3.2 s hs; omega
theorem AS2.snoc {base1 base2 Bo Br b0 : Nat} {w1 w2 : World} {e : TypeId} {k : Nat} {v : Value} {cs : UD} {n : Nat} {xs : List Value} {S : List Nat} (hlen : cs.len = n * k) (hw : w1.ownsRow base1 e k v n xs) (ho : oH w1 cs xs S) (hS : own2 S base2 b0)
    (hne : ∀ g ∈ blkOf v, g ∉ S ∧ g ≠ Bo ∧ g ≠ Br) (hvb : ∀ g ∈ blkOf v, g < b0) {R : UD} {ys : List Value} {T : List Nat} (hR : oH w1 R ys T) (hT : own2 T b0 w1.heap.size) (hb : base2 ≤ b0) (hb2 : b0 ≤ w1.heap.size) (hRl : R.len = k) (hBo : Bo < b0) (hBr : Br < b0) {g cap : Nat}
    (hown : w2.ownsRow base1 e k (.slice (some ⟨g, 0, none⟩) (n + 1) cap) (n + 1) (xs ++ ys)) (hgrow : w1.grownBy w2 v.ownBlock) (hat : v.ownBlock = some g ∨ g = w1.heap.size) : AS2 base1 base2 Bo Br w2 e k (.slice (some ⟨g, 0, none⟩) (n + 1) cap) (cs.app R) (n + 1) := by
  have hrow : ∀ g', v.ownBlock = some g' → g' ∈ blkOf v := fun g' h => by unfold blkOf; rw [h]; simp
  have hvT : ∀ g' ∈ blkOf v, g' ∉ T := fun g' h ht => by have := hvb g' h; have := hT.2 g' ht; omega
  refine ⟨?_, xs ++ ys, S ++ T, hown, oH.app (ho.frame _ _ _ (grown_frame hgrow (ho.lt _ _ _) (fun g' h => (hne g' (hrow g' h)).1))) (hR.frame _ _ _ (grown_frame hgrow (hR.lt _ _ _) (fun g' h => hvT g' (hrow g' h)))),
    (own2.app hS hT (Nat.le_refl _) hb hb2).mono (Nat.le_refl _) hgrow.size, fun g' hg' => ?_⟩
  · rw [app_len, hlen, hRl, Nat.succ_mul]
  · have e1 : g' = g := by simpa [blkOf, Value.ownBlock] using hg'
    subst e1
    rw [List.mem_append]
    rcases hat with h | h
    · exact ⟨fun hx => hx.elim (hne g' (hrow g' h)).1 (hvT g' (hrow g' h)), (hne g' (hrow g' h)).2⟩
    · refine ⟨fun hx => hx.elim (fun hs => ?_) (fun ht => ?_), by omega, by omega⟩
      · have := hS.2 g' hs; omega
      · have := hT.2 g' ht; omega
/-- what stands between two rounds -/
def InvS (w : World) (W0s Bo Br : Nat) (tl e : TypeId) (c3 : UD) (pre : List Nat) (W : World) : Prop := ∃ v, objU W Bo tl [v] ∧ AS2 (w.heap.size + 1) W0s Bo Br W e 19 v (catC c3 pre) pre.length ∧ Below w.heap.size w W ∧ W0s ≤ W.heap.size
theorem InvS.grown {w : World} {W0s Bo Br : Nat} {tl e : TypeId} {c3 : UD} {pre : List Nat} {W W' : World} {row : Option Nat} (h : InvS w W0s Bo Br tl e c3 pre W) (hw : w.heap.size ≤ W0s) (hg : W.grownBy W' row) (hr : ∀ r, row = some r → W0s ≤ r ∧ ∃ o : Obj, W.heap[r]? = some o ∧ o.isCells = false) : InvS w W0s Bo Br tl e c3 pre W' := by
  obtain ⟨v, h1, h2, h3, h4⟩ := h
  have hb : ∀ g, g < W.heap.size → (∃ o : Obj, W.heap[g]? = some o ∧ o.isCells = true) → W'.heap[g]? = W.heap[g]? := fun g hlt ⟨o, ho, hc⟩ => hg.block g hlt (fun e => by obtain ⟨_, o', ho', hc'⟩ := hr g e.symm; rw [ho] at ho'; cases ho'; rw [hc] at hc'; cases hc')
  exact ⟨v, (hb Bo h1.lt ⟨_, h1, rfl⟩).trans h1, h2.frame hg.size (fun g hlt hc _ => hb g hlt hc), h3.grown hg h3.size (fun r e => by have := (hr r e).1; omega), Nat.le_trans h4 hg.size⟩
theorem InvS.own {w : World} {W0s Bo Br : Nat} {tl e : TypeId} {c3 : UD} {n : Nat} (hw : w.heap.size ≤ W0s) : OwnFrom W0s (fun (pre : List {q : Nat // q < n}) W => InvS w W0s Bo Br tl e c3 (pre.map (·.1)) W) := fun s W W' row hs hg hr => hs.grown hw hg hr
theorem drewGrown (W : World) : W.grownBy W.drew none := ⟨rfl, rfl, rfl, Nat.le_refl _, fun _ _ _ => rfl⟩
/-- a round: copied, appended, stored -/
theorem roundEnd {w W W2 W4 : World} {W0s Bo Br B : Nat} {tl e : TypeId} {c3 R : UD} {pre : List Nat} {q : Nat} {v : Value} {xs ys : List Value} {S T : List Nat} {ob : Obj} {g cap : Nat}
    (hO : objU W Bo tl [v]) (hlen : (catC c3 pre).len = pre.length * 19) (hrow : W.ownsRow (w.heap.size + 1) e 19 v pre.length xs) (hoh : oH W (catC c3 pre) xs S) (hS : own2 S W0s W.heap.size) (hne : ∀ g ∈ blkOf v, g ∉ S ∧ g ≠ Bo ∧ g ≠ Br) (hBw : Below w.heap.size w W) (hW0 : W0s ≤ W.heap.size) (hwW : w.heap.size ≤ W0s) (hBo1 : w.heap.size ≤ Bo) (hBo : Bo < W0s) (hBr : Br < W0s) (hBrB : Br ≠ Bo)
    (hb2 : Below W.heap.size W W2) (ho : oH W2 R ys T) (hT : own2 T W.heap.size W2.heap.size) (hRl : R.len = 19) (hRe : R = rowU c3 19 q)
    (hown : W4.ownsRow (w.heap.size + 1) e 19 (.slice (some ⟨g, 0, none⟩) (pre.length + 1) cap) (pre.length + 1) (xs ++ ys)) (hgrow : (W2.alloc ob).grownBy W4 v.ownBlock) (hat : v.ownBlock = some g ∨ g = (W2.alloc ob).heap.size) :
    objU W4 Bo tl [v] ∧ KeepsFrom B W (W4.setCell ⟨Bo, 0, none⟩ (.slice (some ⟨g, 0, none⟩) (pre.length + 1) cap)) ∧ KeepR w.heap.size Br W (W4.setCell ⟨Bo, 0, none⟩ (.slice (some ⟨g, 0, none⟩) (pre.length + 1) cap)) ∧ InvS w W0s Bo Br tl e c3 (pre ++ [q]) (W4.setCell ⟨Bo, 0, none⟩ (.slice (some ⟨g, 0, none⟩) (pre.length + 1) cap)) := by
  have hvlt := fun x hx => (ublk_lt hrow x hx).2
  have hva := fun x hx => (ublk_lt hrow x hx).1
  have hr2 : W2.ownsRow (w.heap.size + 1) e 19 v pre.length xs := uowns_frame hrow (fun x hx => hb2.block x (hvlt x hx))
  have hoh2 := hoh.below hb2
  have ha : Below W2.heap.size W2 (W2.alloc ob) := (Below.refl _ _).alloc (Nat.le_refl _) _
  have hz2 := hb2.size
  have hz3 : (W2.alloc ob).heap.size = W2.heap.size + 1 := by simp
  have hz4 := hgrow.size
  have hA := AS2.snoc (b0 := W.heap.size) (Bo := Bo) (Br := Br) (base2 := W0s) hlen (hr2.alloc _) (hoh2.below ha) hS hne hvlt (ho.below ha) (hT.mono (Nat.le_refl _) (by omega)) hW0 (by omega) hRl (by omega) (by omega) hown hgrow hat
  -- what stays
  have hblk : ∀ k, k < W.heap.size → some k ≠ v.ownBlock → W4.heap[k]? = W.heap[k]? := fun k hk hne => ((hgrow.block k (by omega) hne).trans (ha.block k (by omega))).trans (hb2.block k hk)
  have hvB : ∀ k, v.ownBlock = some k → k ∈ blkOf v := fun k h => by unfold blkOf; rw [h]; simp
  have hBoN : some Bo ≠ v.ownBlock := fun h => (hne Bo (hvB Bo h.symm)).2.1 rfl
  have hBrN : some Br ≠ v.ownBlock := fun h => (hne Br (hvB Br h.symm)).2.2 rfl
  have hO4 : objU W4 Bo tl [v] := (hblk Bo hO.lt hBoN).trans hO
  have hset : ∀ k, k ≠ Bo → (W4.setCell ⟨Bo, 0, none⟩ (.slice (some ⟨g, 0, none⟩) (pre.length + 1) cap)).heap[k]? = W4.heap[k]? := fun k hk => Below.heap_setCell _ _ _ _ (by simpa using hk)
  have hzs : (W4.setCell ⟨Bo, 0, none⟩ (.slice (some ⟨g, 0, none⟩) (pre.length + 1) cap)).heap.size = W4.heap.size := by simp [World.setCell]
  have hB24 : Below w.heap.size W2 W4 := ((Below.refl _ _).alloc (by have := hBw.size; omega) _).trans (Below.grown (Below.refl _ _) hgrow (by have := hBw.size; omega) (fun k hk => by have := hva k (hvB k hk); omega))
  have hB5 : Below w.heap.size W (W4.setCell ⟨Bo, 0, none⟩ (.slice (some ⟨g, 0, none⟩) (pre.length + 1) cap)) := ((hb2.mono hBw.size).trans hB24).setCell (p := ⟨Bo, 0, none⟩) hBo1 _
  refine ⟨hO4, ⟨by omega, fun k o hk hko hc => ?_⟩, ⟨hB5, ?_⟩, .slice (some ⟨g, 0, none⟩) (pre.length + 1) cap, ?_, ?_, hBw.trans hB5, by omega⟩
  · have hkl : k < W.heap.size := (Array.getElem?_eq_some_iff.1 hko).1
    have hkB : k ≠ Bo := fun h => by subst h; rw [show W.heap[k]? = _ from hO] at hko; cases hko; cases hc
    have hkv : some k ≠ v.ownBlock := fun h => by
      obtain ⟨o', ho', hc'⟩ := uowns_cells hrow k (hvB k h.symm)
      rw [hko] at ho'; cases ho'; rw [hc] at hc'; cases hc'
    rw [hset k hkB, hblk k hkl hkv]
    exact hko
  · rw [hset Br hBrB, hblk Br (by omega) hBrN]
  · have h := hO4.set 0 (.slice (some ⟨g, 0, none⟩) (pre.length + 1) cap)
    simpa using h
  · rw [catC_snoc, ← hRe, List.length_append]
    exact hA.frame (by omega) (fun x hx _ hm => hset x (by
      rcases hm with hm | hm
      · obtain ⟨_, _, _, _, _, _, h4⟩ := hA
        exact (h4 x hm).2.1
      · omega))
section
variable {F : Fence} {n : Nat} {P : Program} {ops : Array Oper} {o : Oper} {a : Act} {w : World} {K : Act → World → Prop} {Q : Exit → Act → World → Prop} {E : Prop}
theorem stepIn_load_row (hg : o.guard = none) (t : TypeId) (x : Operand) (ho : o.op = .load t x) (b j : Nat) (hx : a.eval x = .pointer (some ⟨b, j, none⟩)) (ys : List Value) (hu : (P.underlying t).map TypeDesc.isRow = some true) (hi : (P.info? t).map (·.size) = some ys.length) (hr : w.rangeAt b j ys) (h : K (a.put o.dst (.agg ys.toArray)) w) :
    if Region.wanted o (yielded ops a.tmps) = true then Oper.wpIn F n P o a w K Q else E := by
  have hw : Region.wanted o (yielded ops a.tmps) = true := by simp [Region.wanted, hg]
  rw [if_pos hw]
  unfold Oper.wpIn
  refine ⟨?_, ?_⟩
  · intro f hf; simp [Oper.about, ho] at hf
  · rw [Oper.semAt_plain F _ _ (by rw [ho]; intro c hc; cases hc)]
    unfold execOp
    simp only [ho, Sem.run_bind, Sem.run_pure, hx, load_row_eq hu hi hr, Result.andThen_ok]
    exact h
theorem stepIn_append_lies (hgd : o.guard = none) (s x : Operand) (t : TypeId)
    (ho : o.op = .call { callee := .builtin .append, args := #[s, x], argTypes := #[t, t] })
    (base : Nat) (e : TypeId) (i : TypeInfo) (z : Value) (size bytes : Nat) (ht : P.underlying t = some (.slice e)) (hi : P.info? e = some i) (hz : i.zero = some z)
    (hsize : i.size = size) (hby : i.bytes = bytes) (hzs : z.cells.size = size) (hsz : 0 < size)
    (v : Value) (m' : Nat) (xs : List Value) (hs : a.eval s = v) (hown : w.ownsRow base e size v m' xs)
    (ad : Addr) (m c : Nat) (news : List Value) (hx : a.eval x = .slice (some ad) m c) (hl : news.length = m * size) (hnews : ∀ j u, news[j]? = some u → w.cell? (ad.add j) = some u) (h1 : ∀ u ∈ news, u.oneCell' = true)
    (hm : 0 < m) (h63 : m' + m ≤ maxLen) (hbytes : (m' + m) * bytes ≤ 140737488355328) (hbase : base ≤ w.heap.size) (H : Nat) (hH : w.heap.size = H)
    (h : ∀ g cap w', w'.ownsRow base e size (.slice (some ⟨g, 0, none⟩) (m' + m) cap) (m' + m) (xs ++ news) → w.grownBy w' v.ownBlock → (v.ownBlock = some g ∨ g = H) → g < w'.heap.size → K (a.put o.dst (.slice (some ⟨g, 0, none⟩) (m' + m) cap)) w') :
    if Region.wanted o (yielded ops a.tmps) = true then Oper.wpIn F n P o a w K Q else E := by
  have hw : Region.wanted o (yielded ops a.tmps) = true := by simp [Region.wanted, hgd]
  rw [if_pos hw]
  obtain ⟨g, cap, w', hr, h2, h3, h4, h5⟩ := run_append_lies (P := P) w t o.type base e i z size bytes ht hi hz hsize hby hzs hsz v m' xs hown ad m c news hl hnews h1 hm h63 hbytes hbase H hH
  unfold Oper.wpIn
  refine ⟨?_, ?_⟩
  · simp [Oper.about, ho, resolve, Target.leads, Sem.run_pure]
  · rw [Oper.semAt_plain F _ _ (by rw [ho]; intro c hc; cases hc)]
    simp [execOp, ho, resolve, invoke, builtin, hs, hx, hr, Result.andThen]
    exact h g cap w' h2 h3 h4 h5
end
end Go.Proofs.YtdnodaoeflbfkaaGreat
/- The changes above a rev, the program's side: impl.Since. -/
namespace Go.Proofs.YtdnodaoeflbfkaaGreat
open Go.RowKit Go.BigFrame Go.Shelf
set_option linter.unusedVariables false
set_option linter.unusedSimpArgs false
attribute [local go_sem] Oper.semAt_some

/-- the rows of a log that is one's own -/
theorem rowsOwn {w : World} {n : Nat} {cs : UD} {a : Option Addr} {cap : Nat} {e : TypeId} {zs : List Value} {S : List Nat} (ht : tyS 19 n cs 9) (ho : w.ownsRow 0 e 19 (.slice a n cap) n zs) (hm : oH w cs zs S) (hS : S.Nodup) : ∃ (b : Nat) (ρ : Nat → List Value) (σ : Nat → List Nat), (0 < n → b < w.heap.size) ∧ (0 < n → a = some ⟨b, 0, none⟩) ∧ RowsOf n ρ (fun q => revC (rowU cs 19 q)) ∧ (∀ j, j < n → w.rangeAt b (0 + j * 19) (ρ j)) ∧ ∀ j, j < n → oH w (rowU cs 19 j) (ρ j) (σ j) ∧ (σ j).Nodup := by
  have H : ∀ j, ∃ p : List Value × List Nat, oH w (rowU cs 19 j) p.1 p.2 ∧ p.2.Nodup ∧ ∀ i u, p.1[i]? = some u → zs[j * 19 + i]? = some u := fun j => by
    obtain ⟨xr, Sq, h1, h2, h3, h4⟩ := hm.rowAt 19 j
    exact ⟨(xr, Sq), h1, h3 hS, h4⟩
  obtain ⟨f, hf⟩ := Classical.skolem.1 H
  have hrow : ∀ j, j < n → (f j).1.length = 19 ∧ (∀ u ∈ (f j).1, u.oneCell' = true) ∧ (f j).1[0]? = some (.int .i64 (revC (rowU cs 19 j))) := fun j hj => by
    have h := (hf j).1
    have htr := ht.row hj
    refine ⟨h.len.trans (tyL.len htr), ones_own htr h, ?_⟩
    obtain ⟨z0, z1, o, hR0, gz, hto⟩ := partsC htr
    have e : revC (rowU cs 19 j) = z0 := by rw [hR0]; rfl
    rw [e]
    rw [hR0] at h
    obtain ⟨ys, h1, _⟩ := h
    rw [h1]
    rfl
  rcases ho.2 with ⟨h0, h1⟩ | ⟨g, cap', cur, h1, h2, h3, h4⟩
  · have hn : n = 0 := by
      cases h0; rfl
    subst hn
    exact ⟨0, fun j => (f j).1, fun j => (f j).2, fun h => absurd h (by omega), fun h => absurd h (by omega), fun j hj => absurd hj (by omega), fun j hj => absurd hj (by omega), fun j hj => absurd hj (by omega)⟩
  · cases h1
    have hg := (ublk_lt ho g (by simp [blkOf, Value.ownBlock])).2
    refine ⟨g, fun j => (f j).1, fun j => (f j).2, fun _ => hg, fun _ => rfl, hrow, fun j hj i u hi => ?_, fun j hj => ⟨(hf j).1, (hf j).2.1⟩⟩
    have hi19 : i < 19 := by have := (List.getElem?_eq_some_iff.1 hi).1; rw [(hrow j hj).1] at this; exact this
    have hjn : j * 19 + i < n * 19 := by have := Nat.mul_le_mul_right 19 (show j + 1 ≤ n by omega); rw [Nat.succ_mul] at this; omega
    rw [Nat.zero_add, ho.cellAt (j * 19 + i) hjn]
    exact (hf j).2.2 i u hi
theorem roundEndN {w W W2 W4 : World} {W0s Bo Br B n : Nat} {tl e : TypeId} {c3 R : UD} {pre : List Nat} {q : Nat} {v : Value} {xs ys : List Value} {S T : List Nat} {ob : Obj} {g cap : Nat} (hn : pre.length = n)
    (hO : objU W Bo tl [v]) (hlen : (catC c3 pre).len = n * 19) (hrow : W.ownsRow (w.heap.size + 1) e 19 v n xs) (hoh : oH W (catC c3 pre) xs S) (hS : own2 S W0s W.heap.size) (hne : ∀ g ∈ blkOf v, g ∉ S ∧ g ≠ Bo ∧ g ≠ Br) (hBw : Below w.heap.size w W) (hW0 : W0s ≤ W.heap.size) (hwW : w.heap.size ≤ W0s) (hBo1 : w.heap.size ≤ Bo) (hBo : Bo < W0s) (hBr : Br < W0s) (hBrB : Br ≠ Bo)
    (hb2 : Below W.heap.size W W2) (ho : oH W2 R ys T) (hT : own2 T W.heap.size W2.heap.size) (hRl : R.len = 19) (hRe : R = rowU c3 19 q)
    (hown : W4.ownsRow (w.heap.size + 1) e 19 (.slice (some ⟨g, 0, none⟩) (n + 1) cap) (n + 1) (xs ++ ys)) (hgrow : (W2.alloc ob).grownBy W4 v.ownBlock) (hat : v.ownBlock = some g ∨ g = (W2.alloc ob).heap.size) :
    objU W4 Bo tl [v] ∧ KeepsFrom B W (W4.setCell ⟨Bo, 0, none⟩ (.slice (some ⟨g, 0, none⟩) (n + 1) cap)) ∧ KeepR w.heap.size Br W (W4.setCell ⟨Bo, 0, none⟩ (.slice (some ⟨g, 0, none⟩) (n + 1) cap)) ∧ InvS w W0s Bo Br tl e c3 (pre ++ [q]) (W4.setCell ⟨Bo, 0, none⟩ (.slice (some ⟨g, 0, none⟩) (n + 1) cap)) := by
  subst hn
  exact roundEnd hO hlen hrow hoh hS hne hBw hW0 hwW hBo1 hBo hBr hBrB hb2 ho hT hRl hRe hown hgrow hat
set_option maxRecDepth 100000 in
set_option maxHeartbeats 6400000 in
theorem iSince_N (n0 : Nat) (c0 : UD) (rev next : Int) (n3 : Nat) (c3 : UD) (rv : Int) (xs : List Value) (S0 : List Nat) (w : World) (g0 : tyS 17 n0 c0 8) (g3 : tyS 19 n3 c3 9) (hwt : n3 + wt c3 ≤ 1048576) (hx : oH w (.l 17 n0 c0 (.p (.int .i64 rev) (.p (.int .i64 next) (.l 19 n3 c3 .nil)))) xs S0) (hS : S0.Nodup) :
    Calls Tryz.prog 43 #[.agg xs.toArray, .int .i64 rv] w fun e w' => ansS w w' (sinceU n0 c0 rev next n3 c3 rv) (sinceB n0 c0 rev next n3 c3 rv) e := by
  have hu := hx.hand (lo := 0) (hi := w.heap.size) (fun g hg => ⟨Nat.zero_le _, hx.lt _ _ _ g hg⟩)
  obtain ⟨v0, _, S1, S2, rfl, rfl, hk0, ⟨e0, zs0, o0, m0⟩, ⟨_, rfl, ⟨_, rfl, ⟨v3, _, S3, S4, rfl, rfl, hk3, ⟨e3, zs3, o3, m3⟩, ⟨rfl, rfl⟩⟩⟩⟩⟩ := hx
  have hS3 : S3.Nodup := by simp only [List.nodup_append] at hS; exact hS.2.1.1.2.1
  obtain ⟨v0', _, h1, s0, ⟨_, h2, ⟨_, h3, ⟨v3', _, h4, s3, h5⟩⟩⟩⟩ := hu
  cases h1
  cases h2
  cases h3
  cases h4
  clear h5 o0 m0 hS
  obtain ⟨a0, p0, rfl, -⟩ := uS.slice_of6 s0
  obtain ⟨a3, p3, rfl, -⟩ := uS.slice_of6 s3
  obtain ⟨b, ρ, σ, hrb, hra, hro, hrr, hrw⟩ := rowsOwn g3 o3 m3 hS3
  have hn8 : n3 ≤ 1048576 := by omega
  obtain ⟨k, hk⟩ : ∃ k, k = sinceB n0 c0 rev next n3 c3 rv := ⟨_, rfl⟩
  have HK : Hid (∀ wx, Below w.heap.size w wx → Calls Tryz.prog 100 #[.agg #[.slice a0 n0 p0, .int .i64 rev, .int .i64 next, .slice a3 n3 p3], .int .i64 rv] wx fun e w' => e = .returned (.bool k) ∧ Hid (Below wx.heap.size wx w')) := fun wx hb => hk ▸ allSince_N n0 c0 rev next n3 c3 rv a0 p0 a3 p3 wx g0 g3 hn8 (s0.below hb) (s3.below hb)
  have HCC : Hid (∀ wx j, Below w.heap.size w wx → j < n3 → Calls Tryz.prog 102 #[.agg (ρ j).toArray] wx fun e w' => ∃ ys T, e = .returned (.agg ys.toArray) ∧ ys.length = 19 ∧ Hid (oH w' (rowU c3 19 j) ys T) ∧ Hid (own2 T wx.heap.size w'.heap.size) ∧ Hid (∀ u ∈ ys, u.oneCell' = true) ∧ Hid (Below wx.heap.size wx w')) := fun wx j hb hj => by
    have htr := g3.row hj
    have hwr : wt (rowU c3 19 j) ≤ 1048576 := by have := wt_row c3 19 j; omega
    obtain ⟨z0, z1, o, hR0, gz, hto⟩ := partsC htr
    obtain ⟨h1, h2⟩ := hrw j hj
    rw [hR0] at h1 hwr ⊢
    obtain ⟨_, e1, ⟨xo, e2, ho⟩⟩ := h1
    subst e2
    have hwo : wt o ≤ 1048576 := by simp only [wt, wtP] at hwr; omega
    exact (copyOfChange_N z0 z1 o xo (ρ j) (σ j) wx e1 hto hwo (ho.below hb) h2).mono fun e w' ⟨ys, T, q1, q2, q3, q4⟩ => ⟨ys, T, q1, q2.len.trans (by rw [UD.len_p, UD.len_p, tyL.len hto]; rfl), q2, q3, ones_own (hR0 ▸ htr) q2, q4⟩
  have HL := uhide hk
  have HRB := uhide hrb
  have HRA := uhide hra
  have HRO := uhide hro
  have HRR := uhide hrr
  have G3 := uhide g3
  clear hk g0 g3 s0 s3 hrb hra hro hrr hrw o3 m3 hS3
  refine (callsIn_wide (n := 9)).1 ?_
  refine callsIn_of_wp_marks Tryz.func43 rfl trivial ?_ rfl
  simp only [Tryz.ntmps43, List.size_toArray, List.length_cons, List.length_nil, Nat.reduceAdd, Nat.reduceSub, Array.replicate_succ, Array.replicate_zero, List.push_toArray, List.append_toArray, List.nil_append, List.cons_append]
  gi_wp2_with fail
  refine ⟨trivial, callsIn_wide.2 ((HK.out _ (((Below.refl _ _).alloc (Nat.le_refl _) _).alloc (by simp) _ |>.alloc (by simp; omega) _)).mono ?_)⟩
  rintro e w2 ⟨rfl, hb⟩
  have OB : Hid (objU w2 w.heap.size 69 [.slice a0 n0 p0, .int .i64 rev, .int .i64 next, .slice a3 n3 p3]) := objU.below (((objU.new _ _ _).old _).old _) hb.out
  have OE : Hid (objU w2 (w.heap.size + 1) 140 []) := objU.below ((objU.new2 _ _ (by simp)).old _) hb.out
  have OO : Hid (objU w2 (w.heap.size + 1 + 1) 67 [.slice (some ⟨w.heap.size + 1, 0, none⟩) 0 0]) := objU.below (objU.new2 _ _ (by simp)) hb.out
  have B2 : Hid (Below w.heap.size w w2) := Below.trans (((Below.refl _ _).alloc (Nat.le_refl _) _).alloc (by simp) _ |>.alloc (by simp; omega) _) (hb.out.mono (by simp; omega))
  have b0 := OB.out.cell 0 _ rfl
  have b3 := OB.out.cell 3 _ rfl
  have o0 := OO.out.cell 0 _ rfl
  have hltB := OB.out.lt
  have hltO := OO.out.lt
  clear HK hb
  cases k with
  | false =>
    have hs : sinceU n0 c0 rev next n3 c3 rv = (0, .nil) := by unfold sinceU; rw [← HL.out]; rfl
    have HS := uhide hs
    clear hs
    gi_wp2
    refine ⟨_, results_tmp2 rfl _ _ _, ?_⟩
    rw [HS.out, ← HL.out]
    exact ⟨_, [w.heap.size + 1], rfl, oS_lit OE.out, ⟨by simp, fun s hs => by simp at hs; omega⟩, B2.out⟩
  | true =>
    have hs : sinceU n0 c0 rev next n3 c3 rv = ((selC c3 rv n3).2, (selC c3 rv n3).1) := by unfold sinceU; rw [← HL.out]; rfl
    have HS := uhide hs
    clear hs
    gi_wp2_with (refine ⟨trivial, ?_⟩; gi_at_call 101; refine (above_in Fence.wide _ trivial rfl _ _ _ _ _).mono ?_; rintro e w' ⟨rfl, rfl⟩)
    have hsz : w.heap.size ≤ w2.heap.size := B2.out.size
    obtain ⟨W0, hW0⟩ : ∃ W0, ((w2.alloc (.cells #[.slice a3 n3 p3] 67)).alloc (.cells #[.int .i64 rv] 3)) = W0 := ⟨_, rfl⟩
    have hs0 : W0.heap.size = w2.heap.size + 2 := by rw [← hW0]; simp
    have BW : Hid (Below w.heap.size w W0) := by show Below _ _ _; rw [← hW0]; exact (B2.out.alloc hsz _).alloc (by simp; omega) _
    have OS : Hid (objU W0 w2.heap.size 67 [.slice a3 n3 p3]) := by show objU _ _ _ _; rw [← hW0]; exact (objU.new _ _ _).old _
    have OR : Hid (objU W0 (w2.heap.size + 1) 3 [.int .i64 rv]) := by show objU _ _ _ _; rw [← hW0]; exact objU.new2 _ _ (by simp)
    have OO0 : Hid (objU W0 (w.heap.size + 1 + 1) 67 [.slice (some ⟨w.heap.size + 1, 0, none⟩) 0 0]) := by show objU _ _ _ _; rw [← hW0]; exact (OO.out.old _).old _
    have OE0 : Hid (objU W0 (w.heap.size + 1) 140 []) := by show objU _ _ _ _; rw [← hW0]; exact (OE.out.old _).old _
    rw [hW0]
    clear hW0
    have hw0 : w.heap.size ≤ W0.heap.size := BW.out.size
    refine wpIn_rangeFunc_ownH rfl (by omega) (gf := 178) (lb := #[.pointer (some ⟨w2.heap.size, 0, none⟩), .pointer (some ⟨w2.heap.size + 1, 0, none⟩)]) rfl trivial (enters_of Tryz.func178 (by kernel_rfl) rfl)
      (encs := fun x : {q : Nat // q < n3} => #[Value.agg (ρ x.1).toArray]) (Kp := KeepR w.heap.size (w2.heap.size + 1)) (S := fun ys => ys.map (·.1) = selN (fun q => revC (rowU c3 19 q)) rv n3) (Sp := fun _ => True) (N := n3) (w0 := W0)
      (fun l J Jx W hW hJ _ hY h0 => above1_in Fence.wide 8 trivial rfl (by omega) l w2.heap.size (w2.heap.size + 1) w.heap.size b 0 n3 p3 rv ρ _ hn8 HRB.out HRO.out W J Jx hJ hY a3 HRA.out ((OS.out.below hW).cell 0 _ rfl) ((OR.out.below hW).cell 0 _ rfl) (Nat.le_trans BW.out.size hW.size) (fun j hj q v hv => ((BW.out.trans (hW.mono BW.out.size)).cell (p := ⟨b, _, none⟩) (HRB.out (by omega))).trans (HRR.out j hj q v hv)) h0)
      keepR_t (keepR_b BW.out.size (by omega)) (Below.refl _ _) (fun _ => rfl)
      (fun pre W => InvS w W0.heap.size (w.heap.size + 1 + 1) (w2.heap.size + 1) 67 140 c3 (pre.map (·.1)) W)
      (fun _ _ _ => False)
      (InvS.own hw0)
      (fun _ _ _ _ _ hs _ _ => hs)
      ⟨_, OO0.out, ⟨rfl, [], [], ⟨rfl, .inr ⟨w.heap.size + 1, 0, #[], rfl, Nat.le_refl _, by have := OE0.out; simpa [objU] using this, Nat.le_refl _, Nat.zero_le _, rfl, rfl⟩⟩, ⟨rfl, rfl⟩, own2.nil _ _, fun g hg => by simp [blkOf, Value.ownBlock] at hg; subst hg; exact ⟨by simp, by omega, by omega⟩⟩, BW.out, Nat.le_refl _⟩
      (fun x a' W => ∃ Bx, W0.heap.size ≤ Bx ∧ objU W Bx 140 (ρ x.1) ∧ a' = { tmps := #[.agg #[.slice a0 n0 p0, .int .i64 rev, .int .i64 next, .slice a3 n3 p3], .int .i64 rv, .pointer (some ⟨w.heap.size, 0, none⟩), undef, .slice none 0 0, .bool false, .pointer (some ⟨w.heap.size + 1 + 1, 0, none⟩), .pointer (some ⟨Bx, 0, none⟩), .slice (some ⟨w.heap.size + 1, 0, none⟩) 0 0, .agg #[.slice a0 n0 p0, .int .i64 rev, .int .i64 next, .slice a3 n3 p3], .int .i64 rv, .bool true, .bool false, undef, .pointer (some ⟨w.heap.size, 3, none⟩), .slice a3 n3 p3, .int .i64 rv, .func (.func 178) #[] #[.pointer (some ⟨w2.heap.size, 0, none⟩), .pointer (some ⟨w2.heap.size + 1, 0, none⟩)], .agg (ρ x.1).toArray, undef, undef, undef, undef, undef, undef], defers := [] })
      (fun x a' s W W' row hs hg hr => by
        obtain ⟨Bx, h1, h2, h3⟩ := hs
        exact ⟨Bx, h1, (objU_own (B := W0.heap.size) (t := 140) (g := Bx) (fun _ : Unit => ρ x.1)) () W W' row h2 hg hr, h3⟩)
      ?assign ?body ?done ?stop
    case assign =>
      intro l pre x W K hi hK
      obtain ⟨hl19, hone, -⟩ := HRO.out x.1 x.2
      have FZ : Hid ((Tryz.prog.info? 140).map (·.size) = some (ρ x.1).length) := by show _ = _; rw [hl19]; exact Tryz.zChange_impl_Change
      have TH : Hid ((W.alloc (.cells [.int .i64 0, .bool false, .int .i64 0, .string ⟨#[]⟩, .int .i64 0, .int .i64 0, .int .i64 0, .bool false, .slice none 0 0, .int .i64 0, .string ⟨#[]⟩, .int .i64 0, .slice none 0 0, .slice none 0 0, .int .i64 0, .string ⟨#[]⟩, .int .i64 0, .slice none 0 0, .slice none 0 0].toArray 140)).there W.heap.size 0 (ρ x.1).length) := by show World.there _ _ _ _; rw [hl19]; exact (objU.new W 140 [.int .i64 0, .bool false, .int .i64 0, .string ⟨#[]⟩, .int .i64 0, .int .i64 0, .int .i64 0, .bool false, .slice none 0 0, .int .i64 0, .string ⟨#[]⟩, .int .i64 0, .slice none 0 0, .slice none 0 0, .int .i64 0, .string ⟨#[]⟩, .int .i64 0, .slice none 0 0, .slice none 0 0]).there 0 19 (by decide)
      have HO := uhide hone
      clear hone
      gi_wp2_with (first
        | ((with_reducible refine wpListIn_store_row ?qqg2 140 ?qqx2 ?qqy2 ?qqo2 ?qqd2 W.heap.size 0 ?qqh2 (.agg (ρ x.1).toArray) ?qqv2 (ρ x.1) cells_agg HO.out FZ.out TH.out ?_); (case qqg2 => rfl); (case qqo2 => rfl); (case qqd2 => rfl); (case qqh2 => simp [Act.eval, Act.put]); (case qqv2 => simp [Act.eval, Act.put])))
      intro wy ey
      have HG : W.grownBy wy none := grown_box ey
      have OY := rowBox W 140 (ρ x.1) [.int .i64 0, .bool false, .int .i64 0, .string ⟨#[]⟩, .int .i64 0, .int .i64 0, .int .i64 0, .bool false, .slice none 0 0, .int .i64 0, .string ⟨#[]⟩, .int .i64 0, .slice none 0 0, .slice none 0 0, .int .i64 0, .string ⟨#[]⟩, .int .i64 0, .slice none 0 0, .slice none 0 0] (by rw [hl19]; rfl) wy ey
      clear ey
      have hbz := hi
      obtain ⟨_, _, _, _, hWs⟩ := hbz
      gi_wp2
      exact hK _ _ (KeepsFrom.of_grownBy HG (fun j e => by cases e)) ⟨OY.2.mono (by omega), HG.block _ (by omega) (by simp)⟩ (hi.grown hw0 HG (fun r e => by cases e)) ⟨W.heap.size, hWs, OY.1, rfl⟩
    case body =>
      rintro l pre x a' W hl hlr hI ⟨Bx, hBx, oX, rfl⟩ hpl
      obtain ⟨v, hO, ⟨hlen, xs0, S, hrow, hoh, hS, hne⟩, hBw, hWs⟩ := hI
      obtain ⟨m, hm⟩ : ∃ m, (pre.map (·.1)).length = m := ⟨_, rfl⟩
      rw [hm] at hlen hrow
      have hml : m < n3 := by rw [← hm, List.length_map]; exact hpl
      have HM := uhide hm
      clear hm
      obtain ⟨av, pv, rfl⟩ := uowns_slice hrow
      obtain ⟨hl19, -, -⟩ := HRO.out x.1 x.2
      have FZ : Hid ((Tryz.prog.info? 140).map (·.size) = some (ρ x.1).length) := by show _ = _; rw [hl19]; exact Tryz.zChange_impl_Change
      obtain ⟨i0, hi0, hi1, hi2, hi3⟩ := infoC
      gi_wp2
      refine wpIn_region_any (by kernel_rfl) ?_
      change wpAnyIn _ _ _ _ _ _ _ _ _ (World.drew _)
      have hg0 := drewGrown W
      obtain ⟨Wd, hWd⟩ : ∃ Wd, W.drew = Wd := ⟨_, rfl⟩
      rw [hWd] at hg0 ⊢
      have BWW : Below W.heap.size W Wd := Below.grown (Below.refl _ _) hg0 (Nat.le_refl _) (fun k hk => by cases hk)
      have hzd : Wd.heap.size = W.heap.size := by rw [← hWd]; rfl
      have KW : Hid (KeepsFrom W0.heap.size W Wd) := KeepsFrom.of_grownBy hg0 (fun j e => by cases e)
      have KR : Hid (KeepR w.heap.size (w2.heap.size + 1) W Wd) := ⟨BWW.mono (by omega), hg0.block _ (by omega) (by simp)⟩
      have BWd : Hid (Below w.heap.size w Wd) := hBw.trans (BWW.mono (by omega))
      have RX : Hid (Wd.rangeAt Bx 0 (ρ x.1)) := (oX.below BWW).whole
      replace hrow := uowns_frame hrow (fun z hz => BWW.block z (ublk_lt hrow z hz).2)
      replace hoh := hoh.below BWW
      replace hO := hO.below BWW
      replace hS := hS.mono (Nat.le_refl _) (Nat.le_of_eq hzd.symm)
      have hWd0 : W0.heap.size ≤ Wd.heap.size := by omega
      have c0d := hO.cell 0 _ rfl
      clear hWd hg0 BWW hBw oX
      refine wpAnyIn_ready (rs := [0, 1]) (by kernel_rfl) (by simp) ?_
      refine AllReadyIn.cons rfl (fun K hK => ?_) ?_
      · go_simp
        refine hK _ _ ?_
        clear hK K
        refine wpAnyIn_ready (rs := [1]) (by kernel_rfl) (by simp) ?_
        refine AllReadyIn.cons rfl (fun K hK => ?_) AllReadyIn.nil
        refine stepIn_load_row rfl 140 (.tmp 7) rfl Bx 0 (by simp [Act.eval]) (ρ x.1) Tryz.rChange_impl_Change FZ.out RX.out ?_
        refine hK _ _ ?_
        clear hK K
        (try simp only [Act.put, List.setIfInBounds_toArray, List.set_cons_zero, List.set_cons_succ])
        refine wpAnyIn_ready (rs := [2]) (by kernel_rfl) (by simp) ?_
        refine AllReadyIn.cons rfl (fun K hK => ?_) AllReadyIn.nil
        go_simp
        refine ⟨trivial, (CallsIn.inRound l (callsIn_wide.2 (HCC.out Wd x.1 BWd.out x.2))).mono ?_⟩
        rintro e W2 ⟨ys, T, rfl, hyl, ho, hT, hone, hb2⟩
        refine hK _ _ ?_
        clear hK K
        (try simp only [Act.put, List.setIfInBounds_toArray, List.set_cons_zero, List.set_cons_succ])
        have O2 := uhide (hO.below hb2.out)
        have k2c := O2.out.cell 0 _ rfl
        have k3c := (O2.out.old (.cells ys.toArray 140)).cell 0 _ rfl
        refine wpAnyIn_ready (rs := [3]) (by kernel_rfl) (by simp) ?_
        refine AllReadyIn.cons rfl (fun K hK => ?_) AllReadyIn.nil
        go_simp
        rw [foldZ (zs := [.int .i64 0, .bool false, .int .i64 0, .string ⟨#[]⟩, .int .i64 0, .int .i64 0, .int .i64 0, .bool false, .slice none 0 0, .int .i64 0, .string ⟨#[]⟩, .int .i64 0, .slice none 0 0, .slice none 0 0, .int .i64 0, .string ⟨#[]⟩, .int .i64 0, .slice none 0 0, .slice none 0 0]) hyl]
        refine hK _ _ ?_
        clear hK K
        refine wpAnyIn_ready (rs := [4]) (by kernel_rfl) (by simp) ?_
        refine AllReadyIn.cons rfl (fun K hK => ?_) AllReadyIn.nil
        refine stepIn_append_lies rfl (.tmp 19) (.tmp 22) 67 rfl (w.heap.size + 1) 140 i0 _ 19 i0.bytes Tryz.underlying67 hi0 hi1 hi2 rfl rfl (by decide) (.slice av m pv) m xs0 (by simp [Act.eval]) ((uowns_frame hrow (fun z hz => hb2.out.block z (ublk_lt hrow z hz).2)).alloc _) ⟨W2.heap.size, 0, none⟩ 1 1 ys (by simp [Act.eval]) (by omega) (cells_new _ _ _) hone.out (by decide) (by unfold maxLen; omega) (by have : (m + 1) * i0.bytes ≤ (m + 1) * 1000 := Nat.mul_le_mul_left _ hi3; omega) (by have := hb2.out.size; simp; omega) _ rfl ?_
        intro g cap W4 hown hgrow hat hlt4
        refine hK _ _ ?_
        clear hK K
        (try simp only [Act.put, List.setIfInBounds_toArray, List.set_cons_zero, List.set_cons_succ])
        have HE := uhide (roundEndN (B := W0.heap.size) (q := x.1) HM.out hO hlen hrow hoh hS hne BWd.out hWd0 hw0 (by omega) (by omega) (by omega) (by omega) hb2.out ho.out hT.out (rowU_len c3 19 x.1 n3 G3.out.2.2.2.1 x.2) rfl hown hgrow hat)
        have c5 := HE.out.1.cell 0 _ rfl
        have f5 := HE.out.1.fz 0
        refine wpAnyIn_ready (rs := [5]) (by kernel_rfl) (by simp) ?_
        refine AllReadyIn.cons rfl (fun K hK => ?_) AllReadyIn.nil
        go_simp
        refine hK _ _ ?_
        clear hK K
        refine wpAnyIn_done (by kernel_rfl) ?_ _
        obtain ⟨-, e1, e2, e3⟩ := HE.out
        gi_wp2
        exact ⟨KW.out.trans e1, keepR_t KR.out e2, by show InvS _ _ _ _ _ _ _ _ _; rw [List.map_append]; exact e3⟩
      refine AllReadyIn.cons rfl (fun K hK => ?_) AllReadyIn.nil
      refine stepIn_load_row rfl 140 (.tmp 7) rfl Bx 0 (by simp [Act.eval]) (ρ x.1) Tryz.rChange_impl_Change FZ.out RX.out ?_
      refine hK _ _ ?_
      clear hK K
      (try simp only [Act.put, List.setIfInBounds_toArray, List.set_cons_zero, List.set_cons_succ])
      refine wpAnyIn_ready (rs := [0, 2]) (by kernel_rfl) (by simp) ?_
      refine AllReadyIn.cons rfl (fun K hK => ?_) ?_
      · go_simp
        refine hK _ _ ?_
        clear hK K
        refine wpAnyIn_ready (rs := [2]) (by kernel_rfl) (by simp) ?_
        refine AllReadyIn.cons rfl (fun K hK => ?_) AllReadyIn.nil
        go_simp
        refine ⟨trivial, (CallsIn.inRound l (callsIn_wide.2 (HCC.out Wd x.1 BWd.out x.2))).mono ?_⟩
        rintro e W2 ⟨ys, T, rfl, hyl, ho, hT, hone, hb2⟩
        refine hK _ _ ?_
        clear hK K
        (try simp only [Act.put, List.setIfInBounds_toArray, List.set_cons_zero, List.set_cons_succ])
        have O2 := uhide (hO.below hb2.out)
        have k2c := O2.out.cell 0 _ rfl
        have k3c := (O2.out.old (.cells ys.toArray 140)).cell 0 _ rfl
        refine wpAnyIn_ready (rs := [3]) (by kernel_rfl) (by simp) ?_
        refine AllReadyIn.cons rfl (fun K hK => ?_) AllReadyIn.nil
        go_simp
        rw [foldZ (zs := [.int .i64 0, .bool false, .int .i64 0, .string ⟨#[]⟩, .int .i64 0, .int .i64 0, .int .i64 0, .bool false, .slice none 0 0, .int .i64 0, .string ⟨#[]⟩, .int .i64 0, .slice none 0 0, .slice none 0 0, .int .i64 0, .string ⟨#[]⟩, .int .i64 0, .slice none 0 0, .slice none 0 0]) hyl]
        refine hK _ _ ?_
        clear hK K
        refine wpAnyIn_ready (rs := [4]) (by kernel_rfl) (by simp) ?_
        refine AllReadyIn.cons rfl (fun K hK => ?_) AllReadyIn.nil
        refine stepIn_append_lies rfl (.tmp 19) (.tmp 22) 67 rfl (w.heap.size + 1) 140 i0 _ 19 i0.bytes Tryz.underlying67 hi0 hi1 hi2 rfl rfl (by decide) (.slice av m pv) m xs0 (by simp [Act.eval]) ((uowns_frame hrow (fun z hz => hb2.out.block z (ublk_lt hrow z hz).2)).alloc _) ⟨W2.heap.size, 0, none⟩ 1 1 ys (by simp [Act.eval]) (by omega) (cells_new _ _ _) hone.out (by decide) (by unfold maxLen; omega) (by have : (m + 1) * i0.bytes ≤ (m + 1) * 1000 := Nat.mul_le_mul_left _ hi3; omega) (by have := hb2.out.size; simp; omega) _ rfl ?_
        intro g cap W4 hown hgrow hat hlt4
        refine hK _ _ ?_
        clear hK K
        (try simp only [Act.put, List.setIfInBounds_toArray, List.set_cons_zero, List.set_cons_succ])
        have HE := uhide (roundEndN (B := W0.heap.size) (q := x.1) HM.out hO hlen hrow hoh hS hne BWd.out hWd0 hw0 (by omega) (by omega) (by omega) (by omega) hb2.out ho.out hT.out (rowU_len c3 19 x.1 n3 G3.out.2.2.2.1 x.2) rfl hown hgrow hat)
        have c5 := HE.out.1.cell 0 _ rfl
        have f5 := HE.out.1.fz 0
        refine wpAnyIn_ready (rs := [5]) (by kernel_rfl) (by simp) ?_
        refine AllReadyIn.cons rfl (fun K hK => ?_) AllReadyIn.nil
        go_simp
        refine hK _ _ ?_
        clear hK K
        refine wpAnyIn_done (by kernel_rfl) ?_ _
        obtain ⟨-, e1, e2, e3⟩ := HE.out
        gi_wp2
        exact ⟨KW.out.trans e1, keepR_t KR.out e2, by show InvS _ _ _ _ _ _ _ _ _; rw [List.map_append]; exact e3⟩
      refine AllReadyIn.cons rfl (fun K hK => ?_) AllReadyIn.nil
      go_simp
      refine ⟨trivial, (CallsIn.inRound l (callsIn_wide.2 (HCC.out Wd x.1 BWd.out x.2))).mono ?_⟩
      rintro e W2 ⟨ys, T, rfl, hyl, ho, hT, hone, hb2⟩
      refine hK _ _ ?_
      clear hK K
      (try simp only [Act.put, List.setIfInBounds_toArray, List.set_cons_zero, List.set_cons_succ])
      have O2 := uhide (hO.below hb2.out)
      have k2c := O2.out.cell 0 _ rfl
      have k3c := (O2.out.old (.cells ys.toArray 140)).cell 0 _ rfl
      refine wpAnyIn_ready (rs := [0, 3]) (by kernel_rfl) (by simp) ?_
      refine AllReadyIn.cons rfl (fun K hK => ?_) ?_
      · go_simp
        refine hK _ _ ?_
        clear hK K
        refine wpAnyIn_ready (rs := [3]) (by kernel_rfl) (by simp) ?_
        refine AllReadyIn.cons rfl (fun K hK => ?_) AllReadyIn.nil
        go_simp
        rw [foldZ (zs := [.int .i64 0, .bool false, .int .i64 0, .string ⟨#[]⟩, .int .i64 0, .int .i64 0, .int .i64 0, .bool false, .slice none 0 0, .int .i64 0, .string ⟨#[]⟩, .int .i64 0, .slice none 0 0, .slice none 0 0, .int .i64 0, .string ⟨#[]⟩, .int .i64 0, .slice none 0 0, .slice none 0 0]) hyl]
        refine hK _ _ ?_
        clear hK K
        refine wpAnyIn_ready (rs := [4]) (by kernel_rfl) (by simp) ?_
        refine AllReadyIn.cons rfl (fun K hK => ?_) AllReadyIn.nil
        refine stepIn_append_lies rfl (.tmp 19) (.tmp 22) 67 rfl (w.heap.size + 1) 140 i0 _ 19 i0.bytes Tryz.underlying67 hi0 hi1 hi2 rfl rfl (by decide) (.slice av m pv) m xs0 (by simp [Act.eval]) ((uowns_frame hrow (fun z hz => hb2.out.block z (ublk_lt hrow z hz).2)).alloc _) ⟨W2.heap.size, 0, none⟩ 1 1 ys (by simp [Act.eval]) (by omega) (cells_new _ _ _) hone.out (by decide) (by unfold maxLen; omega) (by have : (m + 1) * i0.bytes ≤ (m + 1) * 1000 := Nat.mul_le_mul_left _ hi3; omega) (by have := hb2.out.size; simp; omega) _ rfl ?_
        intro g cap W4 hown hgrow hat hlt4
        refine hK _ _ ?_
        clear hK K
        (try simp only [Act.put, List.setIfInBounds_toArray, List.set_cons_zero, List.set_cons_succ])
        have HE := uhide (roundEndN (B := W0.heap.size) (q := x.1) HM.out hO hlen hrow hoh hS hne BWd.out hWd0 hw0 (by omega) (by omega) (by omega) (by omega) hb2.out ho.out hT.out (rowU_len c3 19 x.1 n3 G3.out.2.2.2.1 x.2) rfl hown hgrow hat)
        have c5 := HE.out.1.cell 0 _ rfl
        have f5 := HE.out.1.fz 0
        refine wpAnyIn_ready (rs := [5]) (by kernel_rfl) (by simp) ?_
        refine AllReadyIn.cons rfl (fun K hK => ?_) AllReadyIn.nil
        go_simp
        refine hK _ _ ?_
        clear hK K
        refine wpAnyIn_done (by kernel_rfl) ?_ _
        obtain ⟨-, e1, e2, e3⟩ := HE.out
        gi_wp2
        exact ⟨KW.out.trans e1, keepR_t KR.out e2, by show InvS _ _ _ _ _ _ _ _ _; rw [List.map_append]; exact e3⟩
      refine AllReadyIn.cons rfl (fun K hK => ?_) AllReadyIn.nil
      go_simp
      rw [foldZ (zs := [.int .i64 0, .bool false, .int .i64 0, .string ⟨#[]⟩, .int .i64 0, .int .i64 0, .int .i64 0, .bool false, .slice none 0 0, .int .i64 0, .string ⟨#[]⟩, .int .i64 0, .slice none 0 0, .slice none 0 0, .int .i64 0, .string ⟨#[]⟩, .int .i64 0, .slice none 0 0, .slice none 0 0]) hyl]
      refine hK _ _ ?_
      clear hK K
      refine wpAnyIn_ready (rs := [0]) (by kernel_rfl) (by simp) ?_
      refine AllReadyIn.cons rfl (fun K hK => ?_) AllReadyIn.nil
      go_simp
      refine hK _ _ ?_
      clear hK K
      refine wpAnyIn_ready (rs := [4]) (by kernel_rfl) (by simp) ?_
      refine AllReadyIn.cons rfl (fun K hK => ?_) AllReadyIn.nil
      refine stepIn_append_lies rfl (.tmp 19) (.tmp 22) 67 rfl (w.heap.size + 1) 140 i0 _ 19 i0.bytes Tryz.underlying67 hi0 hi1 hi2 rfl rfl (by decide) (.slice av m pv) m xs0 (by simp [Act.eval]) ((uowns_frame hrow (fun z hz => hb2.out.block z (ublk_lt hrow z hz).2)).alloc _) ⟨W2.heap.size, 0, none⟩ 1 1 ys (by simp [Act.eval]) (by omega) (cells_new _ _ _) hone.out (by decide) (by unfold maxLen; omega) (by have : (m + 1) * i0.bytes ≤ (m + 1) * 1000 := Nat.mul_le_mul_left _ hi3; omega) (by have := hb2.out.size; simp; omega) _ rfl ?_
      intro g cap W4 hown hgrow hat hlt4
      refine hK _ _ ?_
      clear hK K
      (try simp only [Act.put, List.setIfInBounds_toArray, List.set_cons_zero, List.set_cons_succ])
      have HE := uhide (roundEndN (B := W0.heap.size) (q := x.1) HM.out hO hlen hrow hoh hS hne BWd.out hWd0 hw0 (by omega) (by omega) (by omega) (by omega) hb2.out ho.out hT.out (rowU_len c3 19 x.1 n3 G3.out.2.2.2.1 x.2) rfl hown hgrow hat)
      have c5 := HE.out.1.cell 0 _ rfl
      have f5 := HE.out.1.fz 0
      refine wpAnyIn_ready (rs := [5]) (by kernel_rfl) (by simp) ?_
      refine AllReadyIn.cons rfl (fun K hK => ?_) AllReadyIn.nil
      go_simp
      refine hK _ _ ?_
      clear hK K
      refine wpAnyIn_done (by kernel_rfl) ?_ _
      obtain ⟨-, e1, e2, e3⟩ := HE.out
      gi_wp2
      exact ⟨KW.out.trans e1, keepR_t KR.out e2, by show InvS _ _ _ _ _ _ _ _ _; rw [List.map_append]; exact e3⟩
    case done =>
      rintro D ys W hD hS hI hK
      have hI2 := hI
      obtain ⟨v, hO, hA, hBw, hWs⟩ := hI2
      have hn : (ys.map (·.1)).length = (selC c3 rv n3).2 := by rw [hS, selN_len]
      have hc : catC c3 (ys.map (·.1)) = (selC c3 rv n3).1 := by rw [hS, catC_sel]
      have oc := hO.cell 0 _ rfl
      gi_wp2
      refine ⟨by simp, .inl ⟨_, _, rfl, run_takeDeferred hK, ?_⟩⟩
      refine ⟨_, results_tmp2 rfl _ _ _, ?_⟩
      rw [HS.out, ← HL.out]
      have hF := hI.grown hw0 (grownBy_putObj' W D (.deferred none)) (fun r e => by cases e; exact ⟨hD, _, hK, rfl⟩)
      have hA2 : AS2 (w.heap.size + 1) W0.heap.size (w.heap.size + 1 + 1) (w2.heap.size + 1) (W.putObj D (.deferred none)) 140 19 v (catC c3 (ys.map (·.1))) (ys.map (·.1)).length := by
        refine hA.frame (grownBy_putObj' W D (.deferred none)).size (fun g hlt ⟨o, ho, hc⟩ _ => (grownBy_putObj' W D (.deferred none)).block g hlt (fun e => ?_))
        cases e
        rw [hK] at ho
        cases ho
        cases hc
      obtain ⟨S, q1, q2⟩ := hA2.done (base := w.heap.size) (by decide) (by omega) hw0
      rw [hn, hc] at q1
      exact ⟨v, S, rfl, q1, q2, hF.choose_spec.2.2.1⟩
    case stop =>
      rintro D c pre W _ _ h _
      exact h.elim
end Go.Proofs.YtdnodaoeflbfkaaGreat
/- Data as cells: the helpers of the laws over Base. -/
namespace Go.Proofs.YtdnodaoeflbfkaaGreat
open Go.RowKit Go.BigFrame
set_option linter.unusedVariables false
set_option linter.unusedSimpArgs false

set_option maxRecDepth 20000 in
set_option maxHeartbeats 1600000 in
theorem uszBase_any {lo hi : Nat} (d : UD) (xs : List Value) (left : Int) (w : World) (ht : tyL d (uE 10)) (hx : uH w lo hi d xs) (h0 : 0 ≤ left) (h1 : left ≤ 1048576) :
    Calls Tryz.prog 33 #[.agg xs.toArray, .int .i64 left] w fun e w' => e = .returned (.int .i64 (leftI left (wt d))) ∧ Below w.heap.size w w' := by
  replace ht : tyL d [.l 17 8, .i .i64, .i .i64, .l 19 9] := ht
  obtain ⟨n0, c0, _, rfl, g0, h0⟩ := tyL.l ht
  obtain ⟨z1, _, rfl, g1, h1⟩ := tyL.i h0
  clear h0
  obtain ⟨z2, _, rfl, g2, h2⟩ := tyL.i h1
  clear h1
  obtain ⟨n3, c3, _, rfl, g3, h3⟩ := tyL.l h2
  clear h2
  obtain rfl := tyL.nil h3
  clear h3
  obtain ⟨v0, _, rfl, s0, h0⟩ := hx
  obtain ⟨_, rfl, h1⟩ := h0
  obtain ⟨_, rfl, h2⟩ := h1
  obtain ⟨v3, _, rfl, s3, h3⟩ := h2
  obtain rfl := h3
  obtain ⟨M0, hM0⟩ : ∃ M, M = (n0 + wt c0) := ⟨_, rfl⟩
  have HC0 : Hid (∀ (wx : World) (l : Int), Below w.heap.size w wx → 0 ≤ l → l ≤ 1048576 → Calls Tryz.prog 87 #[v0, .int .i64 l] wx fun e w' => e = .returned (.int .i64 (leftI l M0)) ∧ Below wx.heap.size wx w') := fun wx l hb q0 q1 => hM0 ▸ uszObjS_any (lo := lo) (hi := hi) n0 c0 _ l wx g0 q0 q1 (s0.below hb)
  obtain ⟨M1, hM1⟩ : ∃ M, M = (n3 + wt c3) := ⟨_, rfl⟩
  have HC1 : Hid (∀ (wx : World) (l : Int), Below w.heap.size w wx → 0 ≤ l → l ≤ 1048576 → Calls Tryz.prog 88 #[v3, .int .i64 l] wx fun e w' => e = .returned (.int .i64 (leftI l M1)) ∧ Below wx.heap.size wx w') := fun wx l hb q0 q1 => hM1 ▸ uszChangeS_any (lo := lo) (hi := hi) n3 c3 _ l wx g3 q0 q1 (s3.below hb)
  have E : Hid (leftI left (wt (UD.l 17 n0 c0 (UD.p (.int .i64 z1) (UD.p (.int .i64 z2) (UD.l 19 n3 c3 UD.nil))))) = leftI left (M0 + (M1 + 0))) := by show _ = _; congr 1 <;> (simp only [wt, wtP, hM0, hM1] <;> omega)
  generalize leftI left (wt (UD.l 17 n0 c0 (UD.p (.int .i64 z1) (UD.p (.int .i64 z2) (UD.l 19 n3 c3 UD.nil))))) = R at *
  have HA : Hid (∀ o, Below w.heap.size w (w.alloc o)) := fun o => (Below.refl _ _).alloc (Nat.le_refl _) _
  obtain ⟨AX, hAX⟩ : ∃ AX : List Value, AX = (v0 :: (Value.int .i64 z1 :: (Value.int .i64 z2 :: (v3 :: [])))) := ⟨_, rfl⟩
  rw [← hAX]
  have hlen : AX.length = 4 := by rw [hAX]; simp
  have e0 : AX[0]? = some (v0) := at_mid (i := 0) (pre := (([] : List Value))) (ys := [v0]) (post := (Value.int .i64 z1 :: (Value.int .i64 z2 :: (v3 :: [])))) (by rw [hAX]; simp) (by simp) rfl
  have e1 : AX[1]? = some (.int .i64 z1) := at_mid (i := 0) (pre := ([v0])) (ys := [.int .i64 z1]) (post := (Value.int .i64 z2 :: (v3 :: []))) (by rw [hAX]; simp) (by simp) rfl
  have e2 : AX[2]? = some (.int .i64 z2) := at_mid (i := 0) (pre := ([v0, Value.int .i64 z1])) (ys := [.int .i64 z2]) (post := (v3 :: [])) (by rw [hAX]; simp) (by simp) rfl
  have e3 : AX[3]? = some (v3) := at_mid (i := 0) (pre := ([v0, Value.int .i64 z1, Value.int .i64 z2])) (ys := [v3]) (post := []) (by rw [hAX]; simp) (by simp) rfl
  clear hAX
  have E0 := uhide e0
  clear e0
  have E1 := uhide e1
  clear e1
  have E2 := uhide e2
  clear e2
  have E3 := uhide e3
  clear e3
  have OA0 : Hid (objU (w.alloc (.cells AX.toArray 61)) w.heap.size 61 AX) := objU.new2 _ _ rfl
  clear ht g0 s0 g1 g2 g3 s3 hM0 hM1
  obtain ⟨y0q, hy0⟩ : ∃ y, y = leftI left M0 := ⟨_, rfl⟩
  have Y0q := uhide hy0
  by_cases k0 : y0q < 0
  · have EN : Hid (R = -1) := by show _ = _; rw [E.out]; exact leftI_neg _ (by omega) (by rw [← hy0]; exact k0)
    clear E hy0
    go_enter Tryz.func33, Tryz.ntmps33
    go_wp2_with (first
    | ((with_reducible refine wpList_load_one ?qqg62 58 ?qqx62 ?qqo62 w.heap.size 0 ?qqh62 (v0) Tryz.rBase_Llaws_Obj (OA0.out.cell 0 _ E0.out) ?_); (case qqg62 => rfl); (case qqo62 => rfl); (case qqh62 => simp [Act.eval, Act.put]))
    | ((with_reducible refine wpList_load_one ?qqg63 59 ?qqx63 ?qqo63 w.heap.size 3 ?qqh63 (v3) Tryz.rBase_Llaws_Change (OA0.out.cell 3 _ E3.out) ?_); (case qqg63 => rfl); (case qqo63 => rfl); (case qqh63 => simp [Act.eval, Act.put]))
    )
    refine (HC0.out _ _ (HA.out _) (by omega) (by omega)).mono ?_
    rintro e w1 ⟨rfl, hb1⟩
    have OA1 := uhide (OA0.out.below hb1)
    have B1 : Hid (Below w.heap.size w w1) := (HA.out _).trans (hb1.mono (by simp))
    clear hb1
    rw [show leftI left M0 = y0q from Y0q.out.symm]
    go_wp2
    go_ret
    exact ⟨ret_intU EN.out.symm, B1.out⟩
  replace E : Hid (R = leftI y0q (M1 + 0)) := by
    obtain ⟨q1, q2, q3⟩ := leftI_pos (x := left) (a := M0) (M1 + 0) (by rw [← hy0]; exact k0)
    show _ = _; rw [E.out, q1, ← hy0]
  have u0 : y0q ≤ left := by rw [hy0]; unfold leftI; split <;> omega
  clear hy0
  obtain ⟨y1q, hy1⟩ : ∃ y, y = leftI y0q M1 := ⟨_, rfl⟩
  have Y1q := uhide hy1
  by_cases k1 : y1q < 0
  · have EN : Hid (R = -1) := by show _ = _; rw [E.out]; exact leftI_neg _ (by omega) (by rw [← hy1]; exact k1)
    clear E hy1
    go_enter Tryz.func33, Tryz.ntmps33
    go_wp2_with (first
    | ((with_reducible refine wpList_load_one ?qqg86 58 ?qqx86 ?qqo86 w.heap.size 0 ?qqh86 (v0) Tryz.rBase_Llaws_Obj (OA0.out.cell 0 _ E0.out) ?_); (case qqg86 => rfl); (case qqo86 => rfl); (case qqh86 => simp [Act.eval, Act.put]))
    | ((with_reducible refine wpList_load_one ?qqg87 59 ?qqx87 ?qqo87 w.heap.size 3 ?qqh87 (v3) Tryz.rBase_Llaws_Change (OA0.out.cell 3 _ E3.out) ?_); (case qqg87 => rfl); (case qqo87 => rfl); (case qqh87 => simp [Act.eval, Act.put]))
    )
    refine (HC0.out _ _ (HA.out _) (by omega) (by omega)).mono ?_
    rintro e w1 ⟨rfl, hb1⟩
    have OA1 := uhide (OA0.out.below hb1)
    have B1 : Hid (Below w.heap.size w w1) := (HA.out _).trans (hb1.mono (by simp))
    clear hb1
    rw [show leftI left M0 = y0q from Y0q.out.symm]
    go_wp2_with (first
    | ((with_reducible refine wpList_load_one ?qqg96 58 ?qqx96 ?qqo96 w.heap.size 0 ?qqh96 (v0) Tryz.rBase_Llaws_Obj (OA1.out.cell 0 _ E0.out) ?_); (case qqg96 => rfl); (case qqo96 => rfl); (case qqh96 => simp [Act.eval, Act.put]))
    | ((with_reducible refine wpList_load_one ?qqg97 59 ?qqx97 ?qqo97 w.heap.size 3 ?qqh97 (v3) Tryz.rBase_Llaws_Change (OA1.out.cell 3 _ E3.out) ?_); (case qqg97 => rfl); (case qqo97 => rfl); (case qqh97 => simp [Act.eval, Act.put]))
    )
    refine (HC1.out _ _ B1.out (by omega) (by omega)).mono ?_
    rintro e w2 ⟨rfl, hb2⟩
    have OA2 := uhide (OA1.out.below hb2)
    have B2 : Hid (Below w.heap.size w w2) := B1.out.trans (hb2.mono B1.out.size)
    clear hb2
    rw [show leftI y0q M1 = y1q from Y1q.out.symm]
    go_wp2
    go_ret
    exact ⟨ret_intU EN.out.symm, B2.out⟩
  replace E : Hid (R = leftI y1q (0)) := by
    obtain ⟨q1, q2, q3⟩ := leftI_pos (x := y0q) (a := M1) (0) (by rw [← hy1]; exact k1)
    show _ = _; rw [E.out, q1, ← hy1]
  have u1 : y1q ≤ y0q := by rw [hy1]; unfold leftI; split <;> omega
  clear hy1
  replace E : Hid (R = y1q) := E.out.trans (leftI_zero (by omega))
  go_enter Tryz.func33, Tryz.ntmps33
  go_wp2_with (first
    | ((with_reducible refine wpList_load_one ?qqg116 58 ?qqx116 ?qqo116 w.heap.size 0 ?qqh116 (v0) Tryz.rBase_Llaws_Obj (OA0.out.cell 0 _ E0.out) ?_); (case qqg116 => rfl); (case qqo116 => rfl); (case qqh116 => simp [Act.eval, Act.put]))
    | ((with_reducible refine wpList_load_one ?qqg117 59 ?qqx117 ?qqo117 w.heap.size 3 ?qqh117 (v3) Tryz.rBase_Llaws_Change (OA0.out.cell 3 _ E3.out) ?_); (case qqg117 => rfl); (case qqo117 => rfl); (case qqh117 => simp [Act.eval, Act.put]))
    )
  refine (HC0.out _ _ (HA.out _) (by omega) (by omega)).mono ?_
  rintro e w1 ⟨rfl, hb1⟩
  have OA1 := uhide (OA0.out.below hb1)
  have B1 : Hid (Below w.heap.size w w1) := (HA.out _).trans (hb1.mono (by simp))
  clear hb1
  rw [show leftI left M0 = y0q from Y0q.out.symm]
  go_wp2_with (first
    | ((with_reducible refine wpList_load_one ?qqg126 58 ?qqx126 ?qqo126 w.heap.size 0 ?qqh126 (v0) Tryz.rBase_Llaws_Obj (OA1.out.cell 0 _ E0.out) ?_); (case qqg126 => rfl); (case qqo126 => rfl); (case qqh126 => simp [Act.eval, Act.put]))
    | ((with_reducible refine wpList_load_one ?qqg127 59 ?qqx127 ?qqo127 w.heap.size 3 ?qqh127 (v3) Tryz.rBase_Llaws_Change (OA1.out.cell 3 _ E3.out) ?_); (case qqg127 => rfl); (case qqo127 => rfl); (case qqh127 => simp [Act.eval, Act.put]))
    )
  refine (HC1.out _ _ B1.out (by omega) (by omega)).mono ?_
  rintro e w2 ⟨rfl, hb2⟩
  have OA2 := uhide (OA1.out.below hb2)
  have B2 : Hid (Below w.heap.size w w2) := B1.out.trans (hb2.mono B1.out.size)
  clear hb2
  rw [show leftI y0q M1 = y1q from Y1q.out.symm]
  go_wp2
  go_ret
  exact ⟨ret_intU E.out.symm, B2.out⟩
end Go.Proofs.YtdnodaoeflbfkaaGreat
/- The changes above a rev: both sides answer alike. -/
namespace Go.Proofs.YtdnodaoeflbfkaaGreat
open Go.RowKit Go.BigFrame
set_option linter.unusedVariables false
theorem since_both (dA0 : UD) (iA1 : Int) (htA0 : tyL dA0 (uE 10)) (hsA1 : inK .i64 iA1) (hw : (wt dA0) ≤ 1048576) :
    ∃ (nR0 : Nat) (csR0 : UD) (bR1 : Bool), tyS 19 nR0 csR0 9 ∧ cnt csR0 ≤ 50000000 ∧ (∀ (w : World) (loA0 hiA0 : Nat) (xsA0 : List Value), uH w loA0 hiA0 dA0 xsA0 → Calls Tryz.prog 42 #[.agg xsA0.toArray, .int .i64 iA1] w fun e w' => ∃ (cR0 : Value), e = .returned (.tuple #[cR0, .bool bR1]) ∧ uS w' 0 w'.heap.size 19 nR0 csR0 cR0 ∧ Below w.heap.size w w') ∧
    (∀ (w : World) (loA0 hiA0 : Nat) (xsA0 : List Value) (SA0 : List Nat), oH w dA0 xsA0 SA0 → own2 SA0 loA0 hiA0 → Calls Tryz.prog 43 #[.agg xsA0.toArray, .int .i64 iA1] w fun e w' => ∃ (cR0 : Value) (SR0 : List Nat), e = .returned (.tuple #[cR0, .bool bR1]) ∧ oS w' 19 nR0 csR0 cR0 SR0 ∧ own2 SR0 w.heap.size w'.heap.size ∧ Below w.heap.size w w') := by
  obtain ⟨n0, c0, z1, z2, n3, c3, hd, g0, g1, g2, g3⟩ := partsBase htA0
  have hw3 : n3 + wt c3 ≤ 1048576 := by
    rw [hd] at hw
    simp only [wt, wtP] at hw
    omega
  obtain ⟨h1, -, h2, h3⟩ := selC_tyS (rv := iA1) g3
  refine ⟨(sinceU n0 c0 z1 z2 n3 c3 iA1).1, (sinceU n0 c0 z1 z2 n3 c3 iA1).2, sinceB n0 c0 z1 z2 n3 c3 iA1, ?_, ?_, fun w lo hi xs hx => ?_, fun w lo hi xs S hx hS => ?_⟩
  · unfold sinceU
    split
    · exact h1
    · exact ⟨by decide, rfl, by decide, rfl, trivial⟩
  · unfold sinceU
    split
    · have := cnt_wt h1
      show cnt (selC c3 iA1 n3).1 ≤ _
      omega
    · exact Nat.zero_le _
  · rw [hd] at hx
    exact (sSince_N n0 c0 z1 z2 n3 c3 iA1 xs w g0 g3 hw3 hx).mono fun e w' ⟨c, S, q1, q2, q3, q4⟩ => ⟨c, q1, q2.u (fun g hg => ⟨Nat.zero_le _, (q3.2 g hg).2⟩), q4⟩
  · rw [hd] at hx
    exact (iSince_N n0 c0 z1 z2 n3 c3 iA1 xs S w g0 g3 hw3 hx hS.1).mono fun e w' ⟨c, S, q1, q2, q3, q4⟩ => ⟨c, S, q1, q2, q3, q4⟩
end Go.Proofs.YtdnodaoeflbfkaaGreat
/- Data as cells: the helpers of the laws over Base. -/
namespace Go.Proofs.YtdnodaoeflbfkaaGreat
open Go.RowKit Go.BigFrame
set_option linter.unusedVariables false
set_option linter.unusedSimpArgs false

set_option maxRecDepth 20000 in
set_option maxHeartbeats 1600000 in
theorem ueqBase_any {lo hi lo' hi' : Nat} (d : UD) (xs ys : List Value) (w : World) (ht : tyL d (uE 10)) (hx : uH w lo hi d xs) (hy : uH w lo' hi' d ys) :
    Calls Tryz.prog 38 #[.agg xs.toArray, .agg ys.toArray] w fun e w' => e = .returned (.bool true) ∧ Below w.heap.size w w' := by
  replace ht : tyL d [.l 17 8, .i .i64, .i .i64, .l 19 9] := ht
  obtain ⟨n0, c0, _, rfl, g0, h0⟩ := tyL.l ht
  obtain ⟨z1, _, rfl, g1, h1⟩ := tyL.i h0
  clear h0
  obtain ⟨z2, _, rfl, g2, h2⟩ := tyL.i h1
  clear h1
  obtain ⟨n3, c3, _, rfl, g3, h3⟩ := tyL.l h2
  clear h2
  obtain rfl := tyL.nil h3
  clear h3
  obtain ⟨v0, _, rfl, s0, h0⟩ := hx
  obtain ⟨_, rfl, h1⟩ := h0
  obtain ⟨_, rfl, h2⟩ := h1
  obtain ⟨v3, _, rfl, s3, h3⟩ := h2
  obtain rfl := h3
  obtain ⟨v0r, _, rfl, s0r, h0r⟩ := hy
  obtain ⟨_, rfl, h1r⟩ := h0r
  obtain ⟨_, rfl, h2r⟩ := h1r
  obtain ⟨v3r, _, rfl, s3r, h3r⟩ := h2r
  obtain rfl := h3r
  have HC0 : Hid (∀ wx : World, Below w.heap.size w wx → Calls Tryz.prog 95 #[v0, v0r] wx fun e w' => e = .returned (.bool true) ∧ Below wx.heap.size wx w') := fun wx hb => ueqObjS_any (lo := lo) (hi := hi) (lo' := lo') (hi' := hi') n0 c0 _ _ wx g0 (s0.below hb) (s0r.below hb)
  have HC1 : Hid (∀ wx : World, Below w.heap.size w wx → Calls Tryz.prog 44 #[v3, v3r] wx fun e w' => e = .returned (.bool true) ∧ Below wx.heap.size wx w') := fun wx hb => ueqChangeS_any (lo := lo) (hi := hi) (lo' := lo') (hi' := hi') n3 c3 _ _ wx g3 (s3.below hb) (s3r.below hb)
  have q1 : (z1 != z1) = false := by simp
  have q2 : (z2 != z2) = false := by simp
  have HB : Hid (∀ o o', Below w.heap.size w ((w.alloc o).alloc o')) := fun o o' => ((Below.refl _ _).alloc (Nat.le_refl _) _).alloc (by simp) _
  obtain ⟨AX, hAX⟩ : ∃ AX : List Value, AX = (v0 :: (Value.int .i64 z1 :: (Value.int .i64 z2 :: (v3 :: [])))) := ⟨_, rfl⟩
  rw [← hAX]
  have hlen : AX.length = 4 := by rw [hAX]; simp
  have e0 : AX[0]? = some (v0) := at_mid (i := 0) (pre := (([] : List Value))) (ys := [v0]) (post := (Value.int .i64 z1 :: (Value.int .i64 z2 :: (v3 :: [])))) (by rw [hAX]; simp) (by simp) rfl
  have e1 : AX[1]? = some (.int .i64 z1) := at_mid (i := 0) (pre := ([v0])) (ys := [.int .i64 z1]) (post := (Value.int .i64 z2 :: (v3 :: []))) (by rw [hAX]; simp) (by simp) rfl
  have e2 : AX[2]? = some (.int .i64 z2) := at_mid (i := 0) (pre := ([v0, Value.int .i64 z1])) (ys := [.int .i64 z2]) (post := (v3 :: [])) (by rw [hAX]; simp) (by simp) rfl
  have e3 : AX[3]? = some (v3) := at_mid (i := 0) (pre := ([v0, Value.int .i64 z1, Value.int .i64 z2])) (ys := [v3]) (post := []) (by rw [hAX]; simp) (by simp) rfl
  clear hAX
  have E0 := uhide e0
  clear e0
  have E1 := uhide e1
  clear e1
  have E2 := uhide e2
  clear e2
  have E3 := uhide e3
  clear e3
  obtain ⟨AY, hAY⟩ : ∃ AY : List Value, AY = (v0r :: (Value.int .i64 z1 :: (Value.int .i64 z2 :: (v3r :: [])))) := ⟨_, rfl⟩
  rw [← hAY]
  have hlenr : AY.length = 4 := by rw [hAY]; simp
  have e0r : AY[0]? = some (v0r) := at_mid (i := 0) (pre := (([] : List Value))) (ys := [v0r]) (post := (Value.int .i64 z1 :: (Value.int .i64 z2 :: (v3r :: [])))) (by rw [hAY]; simp) (by simp) rfl
  have e1r : AY[1]? = some (.int .i64 z1) := at_mid (i := 0) (pre := ([v0r])) (ys := [.int .i64 z1]) (post := (Value.int .i64 z2 :: (v3r :: []))) (by rw [hAY]; simp) (by simp) rfl
  have e2r : AY[2]? = some (.int .i64 z2) := at_mid (i := 0) (pre := ([v0r, Value.int .i64 z1])) (ys := [.int .i64 z2]) (post := (v3r :: [])) (by rw [hAY]; simp) (by simp) rfl
  have e3r : AY[3]? = some (v3r) := at_mid (i := 0) (pre := ([v0r, Value.int .i64 z1, Value.int .i64 z2])) (ys := [v3r]) (post := []) (by rw [hAY]; simp) (by simp) rfl
  clear hAY
  have Er0 := uhide e0r
  clear e0r
  have Er1 := uhide e1r
  clear e1r
  have Er2 := uhide e2r
  clear e2r
  have Er3 := uhide e3r
  clear e3r
  have OA0 : Hid (objU ((w.alloc (.cells AX.toArray 69)).alloc (.cells AY.toArray 69)) w.heap.size 69 AX) := (objU.new2 _ _ rfl).old _
  have OB0 : Hid (objU ((w.alloc (.cells AX.toArray 69)).alloc (.cells AY.toArray 69)) (w.heap.size + 1) 69 AY) := objU.new2 _ _ (by simp)
  clear ht g0 s0 s0r g1 g2 g3 s3 s3r
  go_enter Tryz.func38, Tryz.ntmps38
  go_wp2_with (first
    | ((with_reducible refine wpList_load_one ?qqg77 63 ?qqx77 ?qqo77 w.heap.size 0 ?qqh77 (v0) Tryz.rBase_Limpl_Obj (OA0.out.cell 0 _ E0.out) ?_); (case qqg77 => rfl); (case qqo77 => rfl); (case qqh77 => simp [Act.eval, Act.put]))
    | ((with_reducible refine wpList_load_one ?qqg78 3 ?qqx78 ?qqo78 w.heap.size 1 ?qqh78 (.int .i64 z1) Tryz.rBase_int (OA0.out.cell 1 _ E1.out) ?_); (case qqg78 => rfl); (case qqo78 => rfl); (case qqh78 => simp [Act.eval, Act.put]))
    | ((with_reducible refine wpList_load_one ?qqg79 3 ?qqx79 ?qqo79 w.heap.size 2 ?qqh79 (.int .i64 z2) Tryz.rBase_int (OA0.out.cell 2 _ E2.out) ?_); (case qqg79 => rfl); (case qqo79 => rfl); (case qqh79 => simp [Act.eval, Act.put]))
    | ((with_reducible refine wpList_load_one ?qqg80 67 ?qqx80 ?qqo80 w.heap.size 3 ?qqh80 (v3) Tryz.rBase_Limpl_Change (OA0.out.cell 3 _ E3.out) ?_); (case qqg80 => rfl); (case qqo80 => rfl); (case qqh80 => simp [Act.eval, Act.put]))
    | ((with_reducible refine wpList_load_one ?qqg81 63 ?qqx81 ?qqo81 (w.heap.size + 1) 0 ?qqh81 (v0r) Tryz.rBase_Limpl_Obj (OB0.out.cell 0 _ Er0.out) ?_); (case qqg81 => rfl); (case qqo81 => rfl); (case qqh81 => simp [Act.eval, Act.put]))
    | ((with_reducible refine wpList_load_one ?qqg82 3 ?qqx82 ?qqo82 (w.heap.size + 1) 1 ?qqh82 (.int .i64 z1) Tryz.rBase_int (OB0.out.cell 1 _ Er1.out) ?_); (case qqg82 => rfl); (case qqo82 => rfl); (case qqh82 => simp [Act.eval, Act.put]))
    | ((with_reducible refine wpList_load_one ?qqg83 3 ?qqx83 ?qqo83 (w.heap.size + 1) 2 ?qqh83 (.int .i64 z2) Tryz.rBase_int (OB0.out.cell 2 _ Er2.out) ?_); (case qqg83 => rfl); (case qqo83 => rfl); (case qqh83 => simp [Act.eval, Act.put]))
    | ((with_reducible refine wpList_load_one ?qqg84 67 ?qqx84 ?qqo84 (w.heap.size + 1) 3 ?qqh84 (v3r) Tryz.rBase_Limpl_Change (OB0.out.cell 3 _ Er3.out) ?_); (case qqg84 => rfl); (case qqo84 => rfl); (case qqh84 => simp [Act.eval, Act.put]))
    )
  refine (HC0.out _ (HB.out _ _)).mono ?_
  rintro e w1 ⟨rfl, hb1⟩
  have OA1 := uhide (OA0.out.below hb1)
  have OB1 := uhide (OB0.out.below hb1)
  have B1 : Hid (Below w.heap.size w w1) := (HB.out _ _).trans (hb1.mono (by simp; omega))
  clear hb1 OA0 OB0
  go_wp2_with (first
    | ((with_reducible refine wpList_load_one ?qqg93 63 ?qqx93 ?qqo93 w.heap.size 0 ?qqh93 (v0) Tryz.rBase_Limpl_Obj (OA1.out.cell 0 _ E0.out) ?_); (case qqg93 => rfl); (case qqo93 => rfl); (case qqh93 => simp [Act.eval, Act.put]))
    | ((with_reducible refine wpList_load_one ?qqg94 3 ?qqx94 ?qqo94 w.heap.size 1 ?qqh94 (.int .i64 z1) Tryz.rBase_int (OA1.out.cell 1 _ E1.out) ?_); (case qqg94 => rfl); (case qqo94 => rfl); (case qqh94 => simp [Act.eval, Act.put]))
    | ((with_reducible refine wpList_load_one ?qqg95 3 ?qqx95 ?qqo95 w.heap.size 2 ?qqh95 (.int .i64 z2) Tryz.rBase_int (OA1.out.cell 2 _ E2.out) ?_); (case qqg95 => rfl); (case qqo95 => rfl); (case qqh95 => simp [Act.eval, Act.put]))
    | ((with_reducible refine wpList_load_one ?qqg96 67 ?qqx96 ?qqo96 w.heap.size 3 ?qqh96 (v3) Tryz.rBase_Limpl_Change (OA1.out.cell 3 _ E3.out) ?_); (case qqg96 => rfl); (case qqo96 => rfl); (case qqh96 => simp [Act.eval, Act.put]))
    | ((with_reducible refine wpList_load_one ?qqg97 63 ?qqx97 ?qqo97 (w.heap.size + 1) 0 ?qqh97 (v0r) Tryz.rBase_Limpl_Obj (OB1.out.cell 0 _ Er0.out) ?_); (case qqg97 => rfl); (case qqo97 => rfl); (case qqh97 => simp [Act.eval, Act.put]))
    | ((with_reducible refine wpList_load_one ?qqg98 3 ?qqx98 ?qqo98 (w.heap.size + 1) 1 ?qqh98 (.int .i64 z1) Tryz.rBase_int (OB1.out.cell 1 _ Er1.out) ?_); (case qqg98 => rfl); (case qqo98 => rfl); (case qqh98 => simp [Act.eval, Act.put]))
    | ((with_reducible refine wpList_load_one ?qqg99 3 ?qqx99 ?qqo99 (w.heap.size + 1) 2 ?qqh99 (.int .i64 z2) Tryz.rBase_int (OB1.out.cell 2 _ Er2.out) ?_); (case qqg99 => rfl); (case qqo99 => rfl); (case qqh99 => simp [Act.eval, Act.put]))
    | ((with_reducible refine wpList_load_one ?qqg100 67 ?qqx100 ?qqo100 (w.heap.size + 1) 3 ?qqh100 (v3r) Tryz.rBase_Limpl_Change (OB1.out.cell 3 _ Er3.out) ?_); (case qqg100 => rfl); (case qqo100 => rfl); (case qqh100 => simp [Act.eval, Act.put]))
    )
  refine (HC1.out _ B1.out).mono ?_
  rintro e w2 ⟨rfl, hb2⟩
  have OA2 := uhide (OA1.out.below hb2)
  have OB2 := uhide (OB1.out.below hb2)
  have B2 : Hid (Below w.heap.size w w2) := B1.out.trans (hb2.mono B1.out.size)
  clear hb2 OA1 OB1
  go_wp2
  go_ret
  exact ⟨rfl, B2.out⟩
end Go.Proofs.YtdnodaoeflbfkaaGreat
/- Data as cells: the helpers of the laws over Obj. -/
namespace Go.Proofs.YtdnodaoeflbfkaaGreat
open Go.RowKit Go.BigFrame
set_option linter.unusedVariables false
set_option linter.unusedSimpArgs false

set_option maxRecDepth 20000 in
set_option maxHeartbeats 3200000 in
theorem utoObj_any {lo hi : Nat} (d : UD) (xs : List Value) (w : World) (ht : tyL d (uE 8)) (hn : wt d ≤ 1048576) (hx : uH w lo hi d xs) :
    Calls Tryz.prog 170 #[.agg xs.toArray] w fun e w' => ∃ ys S, e = .returned (.agg ys.toArray) ∧ oH w' d ys S ∧ S.Nodup ∧ (∀ s ∈ S, w.heap.size ≤ s) ∧ Below w.heap.size w w' := by
  have hty := ht
  replace ht : tyL d [.i .i64, .s, .i .i64, .i .i64, .i .i64, .b, .l 1 0, .i .i64, .s, .i .i64, .l 1 0, .l 5 6, .i .i64, .s, .i .i64, .l 1 0, .l 5 6] := ht
  obtain ⟨z0, _, rfl, g0, h0⟩ := tyL.i ht
  obtain ⟨z1, _, rfl, g1, h1⟩ := tyL.s h0
  clear h0
  obtain ⟨z2, _, rfl, g2, h2⟩ := tyL.i h1
  clear h1
  obtain ⟨z3, _, rfl, g3, h3⟩ := tyL.i h2
  clear h2
  obtain ⟨z4, _, rfl, g4, h4⟩ := tyL.i h3
  clear h3
  obtain ⟨z5, _, rfl, h5⟩ := tyL.b h4
  clear h4
  obtain ⟨n6, c6, _, rfl, g6, h6⟩ := tyL.l h5
  clear h5
  obtain ⟨d7, _, rfl, g7, h7⟩ := tyL.split (f1 := uE 6) (f2 := [.i .i64, .s, .i .i64, .l 1 0, .l 5 6]) h6
  clear h6
  obtain ⟨d8, _, rfl, g8, h8⟩ := tyL.split (f1 := uE 6) (f2 := []) h7
  clear h7
  obtain rfl := tyL.nil h8
  clear h8
  obtain ⟨_, rfl, h0⟩ := hx
  obtain ⟨_, rfl, h1⟩ := h0
  obtain ⟨_, rfl, h2⟩ := h1
  obtain ⟨_, rfl, h3⟩ := h2
  obtain ⟨_, rfl, h4⟩ := h3
  obtain ⟨_, rfl, h5⟩ := h4
  obtain ⟨v6, _, rfl, s6, h6⟩ := h5
  obtain ⟨y7, _, rfl, l7, s7, h7⟩ := uH.split h6
  replace l7 : y7.length = 5 := l7.trans (tyL.len g7)
  clear h6
  obtain ⟨y8, _, rfl, l8, s8, h8⟩ := uH.split h7
  replace l8 : y8.length = 5 := l8.trans (tyL.len g8)
  clear h7
  obtain rfl := h8
  simp only [wt, wtP, wt_app] at hn
  generalize hD : (UD.p (.int .i64 z0) (UD.p (.string z1) (UD.p (.int .i64 z2) (UD.p (.int .i64 z3) (UD.p (.int .i64 z4) (UD.p (.bool z5) (UD.l 1 n6 c6 (UD.app d7 (UD.app d8 UD.nil))))))))) = D at hty ⊢
  have HD := uhide hD
  clear hD
  have HC6 : Hid (∀ wx : World, Below w.heap.size w wx → Calls Tryz.prog 51 #[v6] wx fun e w' => ∃ a p T, e = .returned (.slice a n6 p) ∧ Hid (oS w' 1 n6 c6 (.slice a n6 p) T) ∧ Hid (own2 T wx.heap.size w'.heap.size) ∧ Below wx.heap.size wx w') := fun wx hb => (utoStringS_any (lo := lo) (hi := hi) n6 c6 _ wx g6 (by omega) (s6.below hb)).mono fun e w' ⟨c', T, h1, h2, h3, h4, h5⟩ => by
    obtain ⟨a, p, rfl⟩ := h2.slice
    exact ⟨a, p, T, h1, h2, ⟨h3, fun s hs => ⟨h4 s hs, h2.lt s hs⟩⟩, h5⟩
  have HC7 : Hid (∀ wx : World, Below w.heap.size w wx → Calls Tryz.prog 50 #[.agg y7.toArray] wx fun e w' => ∃ ys T, e = .returned (.agg ys.toArray) ∧ ys.length = 5 ∧ Hid (oH w' d7 ys T) ∧ Hid (own2 T wx.heap.size w'.heap.size) ∧ Hid (∀ u ∈ ys, u.oneCell' = true) ∧ Below wx.heap.size wx w') := fun wx hb => (utoValue_any (lo := lo) (hi := hi) d7 _ wx g7 (by omega) (s7.below hb)).mono fun e w' ⟨ys, T, h1, h2, h3, h4, h5⟩ => ⟨ys, T, h1, h2.len.trans (tyL.len g7), h2, ⟨h3, fun s hs => ⟨h4 s hs, h2.lt _ _ _ s hs⟩⟩, ones_own g7 h2, h5⟩
  have HC8 : Hid (∀ wx : World, Below w.heap.size w wx → Calls Tryz.prog 50 #[.agg y8.toArray] wx fun e w' => ∃ ys T, e = .returned (.agg ys.toArray) ∧ ys.length = 5 ∧ Hid (oH w' d8 ys T) ∧ Hid (own2 T wx.heap.size w'.heap.size) ∧ Hid (∀ u ∈ ys, u.oneCell' = true) ∧ Below wx.heap.size wx w') := fun wx hb => (utoValue_any (lo := lo) (hi := hi) d8 _ wx g8 (by omega) (s8.below hb)).mono fun e w' ⟨ys, T, h1, h2, h3, h4, h5⟩ => ⟨ys, T, h1, h2.len.trans (tyL.len g8), h2, ⟨h3, fun s hs => ⟨h4 s hs, h2.lt _ _ _ s hs⟩⟩, ones_own g8 h2, h5⟩
  obtain ⟨AX, hAX⟩ : ∃ AX : List Value, AX = (Value.int .i64 z0 :: (Value.string z1 :: (Value.int .i64 z2 :: (Value.int .i64 z3 :: (Value.int .i64 z4 :: (Value.bool z5 :: (v6 :: ((y7 ++ ((y8 ++ []))))))))))) := ⟨_, rfl⟩
  rw [← hAX]
  have hlen : AX.length = 17 := by rw [hAX]; simp [l7, l8]
  have e0 : AX[0]? = some (.int .i64 z0) := at_mid (i := 0) (pre := (([] : List Value))) (ys := [.int .i64 z0]) (post := (Value.string z1 :: (Value.int .i64 z2 :: (Value.int .i64 z3 :: (Value.int .i64 z4 :: (Value.bool z5 :: (v6 :: ((y7 ++ ((y8 ++ []))))))))))) (by rw [hAX]; simp) (by simp) rfl
  have e1 : AX[1]? = some (.string z1) := at_mid (i := 0) (pre := ([Value.int .i64 z0])) (ys := [.string z1]) (post := (Value.int .i64 z2 :: (Value.int .i64 z3 :: (Value.int .i64 z4 :: (Value.bool z5 :: (v6 :: ((y7 ++ ((y8 ++ [])))))))))) (by rw [hAX]; simp) (by simp) rfl
  have e2 : AX[2]? = some (.int .i64 z2) := at_mid (i := 0) (pre := ([Value.int .i64 z0, Value.string z1])) (ys := [.int .i64 z2]) (post := (Value.int .i64 z3 :: (Value.int .i64 z4 :: (Value.bool z5 :: (v6 :: ((y7 ++ ((y8 ++ []))))))))) (by rw [hAX]; simp) (by simp) rfl
  have e3 : AX[3]? = some (.int .i64 z3) := at_mid (i := 0) (pre := ([Value.int .i64 z0, Value.string z1, Value.int .i64 z2])) (ys := [.int .i64 z3]) (post := (Value.int .i64 z4 :: (Value.bool z5 :: (v6 :: ((y7 ++ ((y8 ++ [])))))))) (by rw [hAX]; simp) (by simp) rfl
  have e4 : AX[4]? = some (.int .i64 z4) := at_mid (i := 0) (pre := ([Value.int .i64 z0, Value.string z1, Value.int .i64 z2, Value.int .i64 z3])) (ys := [.int .i64 z4]) (post := (Value.bool z5 :: (v6 :: ((y7 ++ ((y8 ++ []))))))) (by rw [hAX]; simp) (by simp) rfl
  have e5 : AX[5]? = some (.bool z5) := at_mid (i := 0) (pre := ([Value.int .i64 z0, Value.string z1, Value.int .i64 z2, Value.int .i64 z3, Value.int .i64 z4])) (ys := [.bool z5]) (post := (v6 :: ((y7 ++ ((y8 ++ [])))))) (by rw [hAX]; simp) (by simp) rfl
  have e6 : AX[6]? = some (v6) := at_mid (i := 0) (pre := ([Value.int .i64 z0, Value.string z1, Value.int .i64 z2, Value.int .i64 z3, Value.int .i64 z4, Value.bool z5])) (ys := [v6]) (post := ((y7 ++ ((y8 ++ []))))) (by rw [hAX]; simp) (by simp) rfl
  have e7 : ∀ i v, y7[i]? = some v → AX[7 + i]? = some v := fun i v h => at_mid (pre := ([Value.int .i64 z0, Value.string z1, Value.int .i64 z2, Value.int .i64 z3, Value.int .i64 z4, Value.bool z5, v6])) (ys := y7) (post := ((y8 ++ []))) (by rw [hAX]; simp) (by simp) h
  have e8 : ∀ i v, y8[i]? = some v → AX[12 + i]? = some v := fun i v h => at_mid (pre := ([Value.int .i64 z0, Value.string z1, Value.int .i64 z2, Value.int .i64 z3, Value.int .i64 z4, Value.bool z5, v6] ++ y7)) (ys := y8) (post := []) (by rw [hAX]; simp) (by simp [l7]) h
  clear hAX
  have HTY := uhide hty
  clear hty
  clear hn g0 g1 g2 g3 g4 g6 s6 g7 s7 g8 s8
  have E0 := uhide e0
  have E1 := uhide e1
  have E2 := uhide e2
  have E3 := uhide e3
  have E4 := uhide e4
  have E5 := uhide e5
  have E6 := uhide e6
  have E7 := uhide e7
  have E8 := uhide e8
  clear e0 e1 e2 e3 e4 e5 e6 e7 e8
  have BZ0 : Hid (0 + 1 ≤ ([.int .i64 0, .string ⟨#[]⟩, .int .i64 0, .int .i64 0, .int .i64 0, .bool false, .slice none 0 0, .int .i64 0, .string ⟨#[]⟩, .int .i64 0, .slice none 0 0, .slice none 0 0, .int .i64 0, .string ⟨#[]⟩, .int .i64 0, .slice none 0 0, .slice none 0 0] : List Value).length) := by show _ ≤ _; decide
  have BZ1 : Hid (1 + 1 ≤ ([.int .i64 0, .string ⟨#[]⟩, .int .i64 0, .int .i64 0, .int .i64 0, .bool false, .slice none 0 0, .int .i64 0, .string ⟨#[]⟩, .int .i64 0, .slice none 0 0, .slice none 0 0, .int .i64 0, .string ⟨#[]⟩, .int .i64 0, .slice none 0 0, .slice none 0 0] : List Value).length) := by show _ ≤ _; decide
  have BZ2 : Hid (2 + 1 ≤ ([.int .i64 0, .string ⟨#[]⟩, .int .i64 0, .int .i64 0, .int .i64 0, .bool false, .slice none 0 0, .int .i64 0, .string ⟨#[]⟩, .int .i64 0, .slice none 0 0, .slice none 0 0, .int .i64 0, .string ⟨#[]⟩, .int .i64 0, .slice none 0 0, .slice none 0 0] : List Value).length) := by show _ ≤ _; decide
  have BZ3 : Hid (3 + 1 ≤ ([.int .i64 0, .string ⟨#[]⟩, .int .i64 0, .int .i64 0, .int .i64 0, .bool false, .slice none 0 0, .int .i64 0, .string ⟨#[]⟩, .int .i64 0, .slice none 0 0, .slice none 0 0, .int .i64 0, .string ⟨#[]⟩, .int .i64 0, .slice none 0 0, .slice none 0 0] : List Value).length) := by show _ ≤ _; decide
  have BZ4 : Hid (4 + 1 ≤ ([.int .i64 0, .string ⟨#[]⟩, .int .i64 0, .int .i64 0, .int .i64 0, .bool false, .slice none 0 0, .int .i64 0, .string ⟨#[]⟩, .int .i64 0, .slice none 0 0, .slice none 0 0, .int .i64 0, .string ⟨#[]⟩, .int .i64 0, .slice none 0 0, .slice none 0 0] : List Value).length) := by show _ ≤ _; decide
  have BZ5 : Hid (5 + 1 ≤ ([.int .i64 0, .string ⟨#[]⟩, .int .i64 0, .int .i64 0, .int .i64 0, .bool false, .slice none 0 0, .int .i64 0, .string ⟨#[]⟩, .int .i64 0, .slice none 0 0, .slice none 0 0, .int .i64 0, .string ⟨#[]⟩, .int .i64 0, .slice none 0 0, .slice none 0 0] : List Value).length) := by show _ ≤ _; decide
  have BZ6 : Hid (6 + 1 ≤ ([.int .i64 0, .string ⟨#[]⟩, .int .i64 0, .int .i64 0, .int .i64 0, .bool false, .slice none 0 0, .int .i64 0, .string ⟨#[]⟩, .int .i64 0, .slice none 0 0, .slice none 0 0, .int .i64 0, .string ⟨#[]⟩, .int .i64 0, .slice none 0 0, .slice none 0 0] : List Value).length) := by show _ ≤ _; decide
  have BZ7 : Hid (7 + 5 ≤ ([.int .i64 0, .string ⟨#[]⟩, .int .i64 0, .int .i64 0, .int .i64 0, .bool false, .slice none 0 0, .int .i64 0, .string ⟨#[]⟩, .int .i64 0, .slice none 0 0, .slice none 0 0, .int .i64 0, .string ⟨#[]⟩, .int .i64 0, .slice none 0 0, .slice none 0 0] : List Value).length) := by show _ ≤ _; decide
  have BZ8 : Hid (12 + 5 ≤ ([.int .i64 0, .string ⟨#[]⟩, .int .i64 0, .int .i64 0, .int .i64 0, .bool false, .slice none 0 0, .int .i64 0, .string ⟨#[]⟩, .int .i64 0, .slice none 0 0, .slice none 0 0, .int .i64 0, .string ⟨#[]⟩, .int .i64 0, .slice none 0 0, .slice none 0 0] : List Value).length) := by show _ ≤ _; decide
  have YZ7 : Hid ((Tryz.prog.info? 83).map (·.size) = some y7.length) := by show _ = _; rw [l7]; exact Tryz.zObj_laws_Value
  clear l7
  have YZ8 : Hid ((Tryz.prog.info? 83).map (·.size) = some y8.length) := by show _ = _; rw [l8]; exact Tryz.zObj_laws_Value
  clear l8
  have C := uhide (CP.start (w := w) (TA := 214) (TO := 138) (AX := AX) (Z := [.int .i64 0, .string ⟨#[]⟩, .int .i64 0, .int .i64 0, .int .i64 0, .bool false, .slice none 0 0, .int .i64 0, .string ⟨#[]⟩, .int .i64 0, .slice none 0 0, .slice none 0 0, .int .i64 0, .string ⟨#[]⟩, .int .i64 0, .slice none 0 0, .slice none 0 0]))
  go_enter Tryz.func170, Tryz.ntmps170
  go_wp2_with (first
    | ((with_reducible refine wpList_load_one ?qqg100 3 ?qqx100 ?qqo100 w.heap.size 0 ?qqh100 (.int .i64 z0) Tryz.rObj_int (C.out.cell E0.out) ?_); (case qqg100 => rfl); (case qqo100 => rfl); (case qqh100 => simp [Act.eval, Act.put]))
    | ((with_reducible refine wpList_store_v ?qqg101 3 ?qqx101 ?qqy101 ?qqo101 ?qqd101 (w.heap.size + 1 + 1) 0 ?qqh101 (.int .i64 z0) ?qqv101 one_int Tryz.zObj_int (C.out.there 1 BZ0.out) ?_); (case qqg101 => rfl); (case qqo101 => rfl); (case qqd101 => rfl); (case qqh101 => simp [Act.eval, Act.put]); (case qqv101 => simp [Act.eval, Act.put]); intro wy ey; replace C := uhide (C.out.plain ey (j' := 1) rfl (by decide)); clear ey)
    | ((with_reducible refine wpList_load_one ?qqg102 9 ?qqx102 ?qqo102 w.heap.size 1 ?qqh102 (.string z1) Tryz.rObj_string (C.out.cell E1.out) ?_); (case qqg102 => rfl); (case qqo102 => rfl); (case qqh102 => simp [Act.eval, Act.put]))
    | ((with_reducible refine wpList_store_v ?qqg103 9 ?qqx103 ?qqy103 ?qqo103 ?qqd103 (w.heap.size + 1 + 1) 1 ?qqh103 (.string z1) ?qqv103 one_string Tryz.zObj_string (C.out.there 1 BZ1.out) ?_); (case qqg103 => rfl); (case qqo103 => rfl); (case qqd103 => rfl); (case qqh103 => simp [Act.eval, Act.put]); (case qqv103 => simp [Act.eval, Act.put]); intro wy ey; replace C := uhide (C.out.plain ey (j' := 2) rfl (by decide)); clear ey)
    | ((with_reducible refine wpList_load_one ?qqg104 3 ?qqx104 ?qqo104 w.heap.size 2 ?qqh104 (.int .i64 z2) Tryz.rObj_int (C.out.cell E2.out) ?_); (case qqg104 => rfl); (case qqo104 => rfl); (case qqh104 => simp [Act.eval, Act.put]))
    | ((with_reducible refine wpList_store_v ?qqg105 3 ?qqx105 ?qqy105 ?qqo105 ?qqd105 (w.heap.size + 1 + 1) 2 ?qqh105 (.int .i64 z2) ?qqv105 one_int Tryz.zObj_int (C.out.there 1 BZ2.out) ?_); (case qqg105 => rfl); (case qqo105 => rfl); (case qqd105 => rfl); (case qqh105 => simp [Act.eval, Act.put]); (case qqv105 => simp [Act.eval, Act.put]); intro wy ey; replace C := uhide (C.out.plain ey (j' := 3) rfl (by decide)); clear ey)
    | ((with_reducible refine wpList_load_one ?qqg106 3 ?qqx106 ?qqo106 w.heap.size 3 ?qqh106 (.int .i64 z3) Tryz.rObj_int (C.out.cell E3.out) ?_); (case qqg106 => rfl); (case qqo106 => rfl); (case qqh106 => simp [Act.eval, Act.put]))
    | ((with_reducible refine wpList_store_v ?qqg107 3 ?qqx107 ?qqy107 ?qqo107 ?qqd107 (w.heap.size + 1 + 1) 3 ?qqh107 (.int .i64 z3) ?qqv107 one_int Tryz.zObj_int (C.out.there 1 BZ3.out) ?_); (case qqg107 => rfl); (case qqo107 => rfl); (case qqd107 => rfl); (case qqh107 => simp [Act.eval, Act.put]); (case qqv107 => simp [Act.eval, Act.put]); intro wy ey; replace C := uhide (C.out.plain ey (j' := 4) rfl (by decide)); clear ey)
    | ((with_reducible refine wpList_load_one ?qqg108 3 ?qqx108 ?qqo108 w.heap.size 4 ?qqh108 (.int .i64 z4) Tryz.rObj_int (C.out.cell E4.out) ?_); (case qqg108 => rfl); (case qqo108 => rfl); (case qqh108 => simp [Act.eval, Act.put]))
    | ((with_reducible refine wpList_store_v ?qqg109 3 ?qqx109 ?qqy109 ?qqo109 ?qqd109 (w.heap.size + 1 + 1) 4 ?qqh109 (.int .i64 z4) ?qqv109 one_int Tryz.zObj_int (C.out.there 1 BZ4.out) ?_); (case qqg109 => rfl); (case qqo109 => rfl); (case qqd109 => rfl); (case qqh109 => simp [Act.eval, Act.put]); (case qqv109 => simp [Act.eval, Act.put]); intro wy ey; replace C := uhide (C.out.plain ey (j' := 5) rfl (by decide)); clear ey)
    | ((with_reducible refine wpList_load_one ?qqg110 4 ?qqx110 ?qqo110 w.heap.size 5 ?qqh110 (.bool z5) Tryz.rObj_bool (C.out.cell E5.out) ?_); (case qqg110 => rfl); (case qqo110 => rfl); (case qqh110 => simp [Act.eval, Act.put]))
    | ((with_reducible refine wpList_store_v ?qqg111 4 ?qqx111 ?qqy111 ?qqo111 ?qqd111 (w.heap.size + 1 + 1) 5 ?qqh111 (.bool z5) ?qqv111 one_bool Tryz.zObj_bool (C.out.there 1 BZ5.out) ?_); (case qqg111 => rfl); (case qqo111 => rfl); (case qqd111 => rfl); (case qqh111 => simp [Act.eval, Act.put]); (case qqv111 => simp [Act.eval, Act.put]); intro wy ey; replace C := uhide (C.out.plain ey (j' := 6) rfl (by decide)); clear ey)
    | ((with_reducible refine wpList_load_one ?qqg112 23 ?qqx112 ?qqo112 w.heap.size 6 ?qqh112 (v6) Tryz.rObj_Lstring (C.out.cell E6.out) ?_); (case qqg112 => rfl); (case qqo112 => rfl); (case qqh112 => simp [Act.eval, Act.put]))
    )
  refine (HC6.out _ C.out.bel).mono ?_
  rintro e w1 ⟨a6r, p6r, T6, rfl, O6, W6, hb6⟩
  have D := uhide (C.out.below hb6)
  have HB6 := uhide hb6
  clear hb6
  go_wp2_with (first
    | ((with_reducible refine wpList_store_v ?qqg120 23 ?qqx120 ?qqy120 ?qqo120 ?qqd120 (w.heap.size + 1 + 1) 6 ?qqh120 (.slice a6r n6 p6r) ?qqv120 one_slice Tryz.zObj_Lstring (D.out.there 1 BZ6.out) ?_); (case qqg120 => rfl); (case qqo120 => rfl); (case qqd120 => rfl); (case qqh120 => simp [Act.eval, Act.put]); (case qqv120 => simp [Act.eval, Act.put]); intro wy ey; replace C := uhide (C.out.list HB6.out O6.out W6.out ey (j' := 7) rfl (by decide)); clear ey D HB6 O6 W6)
    | ((with_reducible refine wpList_load_row2 ?qqg121 83 ?qqx121 ?qqo121 w.heap.size 7 ?qqh121 y7 Tryz.rObj_laws_Value YZ7.out (C.out.range E7.out) ?_); (case qqg121 => rfl); (case qqo121 => rfl); (case qqh121 => simp [Act.eval, Act.put]))
    )
  refine (HC7.out _ C.out.bel).mono ?_
  rintro e w2 ⟨y7r, T7, rfl, L7r, O7, W7, U7, hb7⟩
  have D := uhide (C.out.below hb7)
  have SZ : Hid ((Tryz.prog.info? 90).map (·.size) = some y7r.length) := by show _ = _; rw [L7r]; exact Tryz.zObj_impl_Value
  have TH : Hid (w2.there (w.heap.size + 1 + 1) 7 y7r.length) := by rw [L7r]; exact D.out.there 5 BZ7.out
  have HB7 := uhide hb7
  clear hb7
  go_wp2_with (first
    | ((with_reducible refine wpList_store_cells ?qqg131 90 ?qqx131 ?qqy131 ?qqo131 ?qqd131 (w.heap.size + 1 + 1) 7 ?qqh131 (.agg y7r.toArray) ?qqv131 y7r cells_agg U7.out SZ.out TH.out ?_); (case qqg131 => rfl); (case qqo131 => rfl); (case qqd131 => rfl); (case qqh131 => simp [Act.eval, Act.put]); (case qqv131 => simp [Act.eval, Act.put]); intro wy ey; replace C := uhide (C.out.step HB7.out O7.out W7.out ey (j' := 12) (by rw [L7r]) (by decide)); clear ey D SZ TH HB7 O7 W7)
    | ((with_reducible refine wpList_load_row2 ?qqg132 83 ?qqx132 ?qqo132 w.heap.size 12 ?qqh132 y8 Tryz.rObj_laws_Value YZ8.out (C.out.range E8.out) ?_); (case qqg132 => rfl); (case qqo132 => rfl); (case qqh132 => simp [Act.eval, Act.put]))
    )
  refine (HC8.out _ C.out.bel).mono ?_
  rintro e w3 ⟨y8r, T8, rfl, L8r, O8, W8, U8, hb8⟩
  have D := uhide (C.out.below hb8)
  have SZ : Hid ((Tryz.prog.info? 90).map (·.size) = some y8r.length) := by show _ = _; rw [L8r]; exact Tryz.zObj_impl_Value
  have TH : Hid (w3.there (w.heap.size + 1 + 1) 12 y8r.length) := by rw [L8r]; exact D.out.there 5 BZ8.out
  have HB8 := uhide hb8
  clear hb8
  have FZ0 : Hid (∀ l : List Value, l.length = 17 → Hid ((Tryz.prog.info? 138).map (·.size) = some l.length)) := fun l h => by show _ = _; rw [h]; exact Tryz.zObj_impl_Obj
  have HZL : Hid (17 = ([.int .i64 0, .string ⟨#[]⟩, .int .i64 0, .int .i64 0, .int .i64 0, .bool false, .slice none 0 0, .int .i64 0, .string ⟨#[]⟩, .int .i64 0, .slice none 0 0, .slice none 0 0, .int .i64 0, .string ⟨#[]⟩, .int .i64 0, .slice none 0 0, .slice none 0 0] : List Value).length) := by show _ = _; decide
  go_wp2_with (first
    | ((with_reducible refine wpList_store_cells ?qqg144 90 ?qqx144 ?qqy144 ?qqo144 ?qqd144 (w.heap.size + 1 + 1) 12 ?qqh144 (.agg y8r.toArray) ?qqv144 y8r cells_agg U8.out SZ.out TH.out ?_); (case qqg144 => rfl); (case qqo144 => rfl); (case qqd144 => rfl); (case qqh144 => simp [Act.eval, Act.put]); (case qqv144 => simp [Act.eval, Act.put]); intro wy ey; replace C := uhide (C.out.step HB8.out O8.out W8.out ey (j' := 17) (by rw [L8r]) (by decide)); clear ey D SZ TH HB8 O8 W8; obtain ⟨dn, S, RG, hl, TH, hod, HF⟩ := C.out.fin (D := D) (by rw [← HD.out]; apply UD.ext; simp only [UD.app_toL, UD.toL, List.cons_append, List.nil_append, List.append_nil]) HZL.out; have FZ := FZ0.out dn hl; have ON := uhide (ones_own HTY.out hod); have HFF := uhide HF; clear C hod HF)
    | ((with_reducible refine wpList_load_row2 ?qqg145 138 ?qqx145 ?qqo145 (w.heap.size + 1 + 1) 0 ?qqh145 dn Tryz.rObj_impl_Obj FZ.out RG.out ?_); (case qqg145 => rfl); (case qqo145 => rfl); (case qqh145 => simp [Act.eval, Act.put]))
    | ((with_reducible refine wpList_store_cells ?qqg146 138 ?qqx146 ?qqy146 ?qqo146 ?qqd146 (w.heap.size + 1) 0 ?qqh146 (.agg dn.toArray) ?qqv146 dn cells_agg ON.out FZ.out TH.out ?_); (case qqg146 => rfl); (case qqo146 => rfl); (case qqd146 => rfl); (case qqh146 => simp [Act.eval, Act.put]); (case qqv146 => simp [Act.eval, Act.put]); intro wy ey; have HG := uhide (HFF.out wy ey); clear ey HFF)
    )
  obtain ⟨HO, h1, h2, h3, h4⟩ := HG.out
  refine bodyPost_ret (v := .agg dn.toArray) ?_ rfl ⟨dn, S, rfl, ?_, h2, h3, h4⟩
  · exact results_row rfl _ _ (w.heap.size + 1) _ _ (by simp [Act.put]) HO Tryz.rObj_impl_Obj (by rw [hl]; exact Tryz.zObj_impl_Obj)
  · exact h1
theorem Tryz.infoUObj : (Tryz.prog.info? 138).map (fun i => (i.zero, i.size, decide (i.bytes ≤ 1000))) = some (some (.agg #[.int .i64 0, .string ByteArray.empty, .int .i64 0, .int .i64 0, .int .i64 0, .bool false, .slice none 0 0, .int .i64 0, .string ByteArray.empty, .int .i64 0, .slice none 0 0, .slice none 0 0, .int .i64 0, .string ByteArray.empty, .int .i64 0, .slice none 0 0, .slice none 0 0]), 17, true) := by kernel_rfl
set_option maxRecDepth 20000 in
set_option maxHeartbeats 1600000 in
theorem utoObjS_any {lo hi : Nat} (n : Nat) (cs : UD) (c : Value) (w : World) (ht : tyS 17 n cs 8) (hn : n + wt cs ≤ 1048576) (hx : uS w lo hi 17 n cs c) :
    Calls Tryz.prog 91 #[c] w fun e w' => ∃ c' S, e = .returned c' ∧ oS w' 17 n cs c' S ∧ S.Nodup ∧ (∀ s ∈ S, w.heap.size ≤ s) ∧ Below w.heap.size w w' := by
  obtain ⟨i0, hinf, hz0, hz1, hz2⟩ : ∃ i, Tryz.prog.info? 138 = some i ∧ i.zero = some (.agg #[.int .i64 0, .string ByteArray.empty, .int .i64 0, .int .i64 0, .int .i64 0, .bool false, .slice none 0 0, .int .i64 0, .string ByteArray.empty, .int .i64 0, .slice none 0 0, .slice none 0 0, .int .i64 0, .string ByteArray.empty, .int .i64 0, .slice none 0 0, .slice none 0 0]) ∧ i.size = 17 ∧ i.bytes ≤ 1000 := by
    have h := Tryz.infoUObj
    cases e : Tryz.prog.info? 138 with
    | none => rw [e] at h; cases h
    | some i => rw [e] at h; simp at h; exact ⟨i, rfl, h.1, h.2.1, h.2.2⟩
  obtain ⟨a, cap, rfl, hx2⟩ := hx
  have Hx : Hid (uS w lo hi 17 n cs (.slice a n cap)) := ⟨a, cap, rfl, hx2⟩
  have Ht := uhide ht
  have Hn : Hid (∀ q, q < n → wt (rowU cs 17 q) ≤ 1048576) := fun q hq => by have := wt_row cs 17 q; omega
  have hnn : n ≤ 1048576 := by omega
  have hbb : i0.bytes * n ≤ 281474976710656 := Nat.le_trans (Nat.mul_le_mul hz2 hnn) (by decide)
  clear hx2 ht hn
  go_enter Tryz.func91, Tryz.ntmps91
  go_wp2_with (at_make; refine wpList_make_full _ rfl _ _ 63 rfl w.heap.size 138 i0 _ 17 Tryz.underlying63 hinf hz0 hz1 _ _ _ _ n rfl rfl rfl rfl hbb (by unfold maxLen; omega) (Nat.le_refl _) ?_; intro w1 hown hgrow)
  have T0 := uhide (TS.start (cs := cs) hown (Below.grown (Below.refl _ _) hgrow (Nat.le_refl _) (fun k hk => by cases hk)))
  clear hown hgrow
  go_loopw [4] (fun i wr => ∃ (q : Nat), q ≤ n ∧ i = .int .i64 q ∧ Hid (TS w wr 138 17 n cs q)) (fun i _ => n - (intOf i).toNat)
  case atStart => exact ⟨0, Nat.zero_le _, rfl, T0⟩
  case round =>
    clear T0
    obtain ⟨q, hq, rfl, HT⟩ := hrel
    by_cases hlt : q < n
    · obtain ⟨b, off, rfl, hbk, hm⟩ := (Hx.out.below HT.out.bel).cells (by omega)
      have htr := Ht.out.row hlt
      have hwr := Hn.out q hlt
      obtain ⟨xs, hh, hcl⟩ := (hm.row 17 q).hand
      have hxl : xs.length = 17 := by rw [hh.len, tyL.len htr]; rfl
      have Hcon : Hid (∀ wx, Below wr.heap.size wr wx → Calls Tryz.prog 170 #[.agg xs.toArray] wx fun e w' => ∃ ys S, e = .returned (.agg ys.toArray) ∧ Hid (oH w' (rowU cs 17 q) ys S) ∧ Hid S.Nodup ∧ Hid (∀ s ∈ S, wx.heap.size ≤ s) ∧ Hid (ys.length = 17) ∧ Hid (∀ u ∈ ys, u.oneCell' = true) ∧ Hid (Below wx.heap.size wx w')) := fun wx hb => (utoObj_any (lo := lo) (hi := hi) _ _ wx htr hwr (hh.below hb)).mono fun e w' ⟨ys, S, h1, h2, h3, h4, h5⟩ => ⟨ys, S, h1, h2, h3, h4, h2.len.trans (tyL.len htr), ones_own htr h2, h5⟩
      have RG : Hid (wr.rangeAt b (off + q * 17) xs) := hcl
      have FZ : Hid ((Tryz.prog.info? 214).map (·.size) = some xs.length) := by show _ = _; rw [hxl]; exact Tryz.zObj_laws_Obj
      have hKn : q * 17 + 17 ≤ n * 17 := by have := Nat.mul_le_mul_right 17 (show q + 1 ≤ n by omega); rw [Nat.succ_mul] at this; exact this
      clear hcl hm htr hwr hh hxl
      go_wp2_with (first
        | ((with_reducible refine wpList_load_row2 ?qqg192 214 ?qqx192 ?qqo192 b (off + q * 17) ?qqh192 xs Tryz.rObj_laws_Obj FZ.out RG.out ?_); (case qqg192 => rfl); (case qqo192 => rfl); (case qqh192 => simp [Act.eval, Act.put]))
        )
      refine (Hcon.out _ (Below.refl _ _)).mono ?_
      rintro e w2 ⟨ys, S, rfl, ho, hnd, hS, hyl, hone, hb2⟩
      have TH : Hid (w2.there w.heap.size (q * 17) ys.length) := by rw [hyl.out]; exact (HT.out.below hb2.out).there _ _ hKn
      have FY : Hid ((Tryz.prog.info? 138).map (·.size) = some ys.length) := by show _ = _; rw [hyl.out]; exact Tryz.zObj_impl_Obj
      go_wp2_with (first
        | ((with_reducible refine wpList_store_cells ?qqg199 138 ?qqx199 ?qqy199 ?qqo199 ?qqd199 w.heap.size (q * 17) ?qqh199 (.agg ys.toArray) ?qqv199 ys cells_agg hone.out FY.out TH.out ?_); (case qqg199 => rfl); (case qqo199 => rfl); (case qqd199 => rfl); (case qqh199 => simp [Act.eval, Act.put]); (case qqv199 => simp [Act.eval, Act.put]); intro wy ey; have T1 := uhide (HT.out.row hb2.out ho.out hnd.out hS.out Ht.out.2.2.2.1 hlt ey); clear ey)
        )
      go_roundw
      case rel => exact ⟨q + 1, by omega, by go_num, T1⟩
      case measure => simp [intOf]; omega
    · have e : q = n := by omega
      subst e
      obtain ⟨S, h1, h2, h3, h4⟩ := HT.out.done (by decide) Ht.out.2.2.2.1
      have HS : Hid (oS wr 17 q cs (.slice (some ⟨w.heap.size, 0, none⟩) q q) S ∧ S.Nodup ∧ (∀ s ∈ S, w.heap.size ≤ s) ∧ Below w.heap.size w wr) := ⟨h1, h2, h3, h4⟩
      clear h1 h2 h3 h4
      go_wp2
      go_ret
      exact ⟨_, S, rfl, HS.out⟩
end Go.Proofs.YtdnodaoeflbfkaaGreat
/- Data as cells: the helpers of the laws over Change. -/
namespace Go.Proofs.YtdnodaoeflbfkaaGreat
open Go.RowKit Go.BigFrame
set_option linter.unusedVariables false
set_option linter.unusedSimpArgs false

set_option maxRecDepth 20000 in
set_option maxHeartbeats 3200000 in
theorem utoChange_any {lo hi : Nat} (d : UD) (xs : List Value) (w : World) (ht : tyL d (uE 9)) (hn : wt d ≤ 1048576) (hx : uH w lo hi d xs) :
    Calls Tryz.prog 171 #[.agg xs.toArray] w fun e w' => ∃ ys S, e = .returned (.agg ys.toArray) ∧ oH w' d ys S ∧ S.Nodup ∧ (∀ s ∈ S, w.heap.size ≤ s) ∧ Below w.heap.size w w' := by
  have hty := ht
  replace ht : tyL d [.i .i64, .b, .i .i64, .s, .i .i64, .i .i64, .i .i64, .b, .l 1 0, .i .i64, .s, .i .i64, .l 1 0, .l 5 6, .i .i64, .s, .i .i64, .l 1 0, .l 5 6] := ht
  obtain ⟨z0, _, rfl, g0, h0⟩ := tyL.i ht
  obtain ⟨z1, _, rfl, h1⟩ := tyL.b h0
  clear h0
  obtain ⟨d2, _, rfl, g2, h2⟩ := tyL.split (f1 := uE 8) (f2 := []) h1
  clear h1
  obtain rfl := tyL.nil h2
  clear h2
  obtain ⟨_, rfl, h0⟩ := hx
  obtain ⟨_, rfl, h1⟩ := h0
  obtain ⟨y2, _, rfl, l2, s2, h2⟩ := uH.split h1
  replace l2 : y2.length = 17 := l2.trans (tyL.len g2)
  clear h1
  obtain rfl := h2
  simp only [wt, wtP, wt_app] at hn
  generalize hD : (UD.p (.int .i64 z0) (UD.p (.bool z1) (UD.app d2 UD.nil))) = D at hty ⊢
  have HD := uhide hD
  clear hD
  have HC2 : Hid (∀ wx : World, Below w.heap.size w wx → Calls Tryz.prog 170 #[.agg y2.toArray] wx fun e w' => ∃ ys T, e = .returned (.agg ys.toArray) ∧ ys.length = 17 ∧ Hid (oH w' d2 ys T) ∧ Hid (own2 T wx.heap.size w'.heap.size) ∧ Hid (∀ u ∈ ys, u.oneCell' = true) ∧ Below wx.heap.size wx w') := fun wx hb => (utoObj_any (lo := lo) (hi := hi) d2 _ wx g2 (by omega) (s2.below hb)).mono fun e w' ⟨ys, T, h1, h2, h3, h4, h5⟩ => ⟨ys, T, h1, h2.len.trans (tyL.len g2), h2, ⟨h3, fun s hs => ⟨h4 s hs, h2.lt _ _ _ s hs⟩⟩, ones_own g2 h2, h5⟩
  obtain ⟨AX, hAX⟩ : ∃ AX : List Value, AX = (Value.int .i64 z0 :: (Value.bool z1 :: ((y2 ++ [])))) := ⟨_, rfl⟩
  rw [← hAX]
  have hlen : AX.length = 19 := by rw [hAX]; simp [l2]
  have e0 : AX[0]? = some (.int .i64 z0) := at_mid (i := 0) (pre := (([] : List Value))) (ys := [.int .i64 z0]) (post := (Value.bool z1 :: ((y2 ++ [])))) (by rw [hAX]; simp) (by simp) rfl
  have e1 : AX[1]? = some (.bool z1) := at_mid (i := 0) (pre := ([Value.int .i64 z0])) (ys := [.bool z1]) (post := ((y2 ++ []))) (by rw [hAX]; simp) (by simp) rfl
  have e2 : ∀ i v, y2[i]? = some v → AX[2 + i]? = some v := fun i v h => at_mid (pre := ([Value.int .i64 z0, Value.bool z1])) (ys := y2) (post := []) (by rw [hAX]; simp) (by simp) h
  clear hAX
  have HTY := uhide hty
  clear hty
  clear hn g0 g2 s2
  have E0 := uhide e0
  have E1 := uhide e1
  have E2 := uhide e2
  clear e0 e1 e2
  have BZ0 : Hid (0 + 1 ≤ ([.int .i64 0, .bool false, .int .i64 0, .string ⟨#[]⟩, .int .i64 0, .int .i64 0, .int .i64 0, .bool false, .slice none 0 0, .int .i64 0, .string ⟨#[]⟩, .int .i64 0, .slice none 0 0, .slice none 0 0, .int .i64 0, .string ⟨#[]⟩, .int .i64 0, .slice none 0 0, .slice none 0 0] : List Value).length) := by show _ ≤ _; decide
  have BZ1 : Hid (1 + 1 ≤ ([.int .i64 0, .bool false, .int .i64 0, .string ⟨#[]⟩, .int .i64 0, .int .i64 0, .int .i64 0, .bool false, .slice none 0 0, .int .i64 0, .string ⟨#[]⟩, .int .i64 0, .slice none 0 0, .slice none 0 0, .int .i64 0, .string ⟨#[]⟩, .int .i64 0, .slice none 0 0, .slice none 0 0] : List Value).length) := by show _ ≤ _; decide
  have BZ2 : Hid (2 + 17 ≤ ([.int .i64 0, .bool false, .int .i64 0, .string ⟨#[]⟩, .int .i64 0, .int .i64 0, .int .i64 0, .bool false, .slice none 0 0, .int .i64 0, .string ⟨#[]⟩, .int .i64 0, .slice none 0 0, .slice none 0 0, .int .i64 0, .string ⟨#[]⟩, .int .i64 0, .slice none 0 0, .slice none 0 0] : List Value).length) := by show _ ≤ _; decide
  have YZ2 : Hid ((Tryz.prog.info? 214).map (·.size) = some y2.length) := by show _ = _; rw [l2]; exact Tryz.zChange_laws_Obj
  clear l2
  have C := uhide (CP.start (w := w) (TA := 217) (TO := 140) (AX := AX) (Z := [.int .i64 0, .bool false, .int .i64 0, .string ⟨#[]⟩, .int .i64 0, .int .i64 0, .int .i64 0, .bool false, .slice none 0 0, .int .i64 0, .string ⟨#[]⟩, .int .i64 0, .slice none 0 0, .slice none 0 0, .int .i64 0, .string ⟨#[]⟩, .int .i64 0, .slice none 0 0, .slice none 0 0]))
  go_enter Tryz.func171, Tryz.ntmps171
  go_wp2_with (first
    | ((with_reducible refine wpList_load_one ?qqg56 3 ?qqx56 ?qqo56 w.heap.size 0 ?qqh56 (.int .i64 z0) Tryz.rChange_int (C.out.cell E0.out) ?_); (case qqg56 => rfl); (case qqo56 => rfl); (case qqh56 => simp [Act.eval, Act.put]))
    | ((with_reducible refine wpList_store_v ?qqg57 3 ?qqx57 ?qqy57 ?qqo57 ?qqd57 (w.heap.size + 1 + 1) 0 ?qqh57 (.int .i64 z0) ?qqv57 one_int Tryz.zChange_int (C.out.there 1 BZ0.out) ?_); (case qqg57 => rfl); (case qqo57 => rfl); (case qqd57 => rfl); (case qqh57 => simp [Act.eval, Act.put]); (case qqv57 => simp [Act.eval, Act.put]); intro wy ey; replace C := uhide (C.out.plain ey (j' := 1) rfl (by decide)); clear ey)
    | ((with_reducible refine wpList_load_one ?qqg58 4 ?qqx58 ?qqo58 w.heap.size 1 ?qqh58 (.bool z1) Tryz.rChange_bool (C.out.cell E1.out) ?_); (case qqg58 => rfl); (case qqo58 => rfl); (case qqh58 => simp [Act.eval, Act.put]))
    | ((with_reducible refine wpList_store_v ?qqg59 4 ?qqx59 ?qqy59 ?qqo59 ?qqd59 (w.heap.size + 1 + 1) 1 ?qqh59 (.bool z1) ?qqv59 one_bool Tryz.zChange_bool (C.out.there 1 BZ1.out) ?_); (case qqg59 => rfl); (case qqo59 => rfl); (case qqd59 => rfl); (case qqh59 => simp [Act.eval, Act.put]); (case qqv59 => simp [Act.eval, Act.put]); intro wy ey; replace C := uhide (C.out.plain ey (j' := 2) rfl (by decide)); clear ey)
    | ((with_reducible refine wpList_load_row2 ?qqg60 214 ?qqx60 ?qqo60 w.heap.size 2 ?qqh60 y2 Tryz.rChange_laws_Obj YZ2.out (C.out.range E2.out) ?_); (case qqg60 => rfl); (case qqo60 => rfl); (case qqh60 => simp [Act.eval, Act.put]))
    )
  refine (HC2.out _ C.out.bel).mono ?_
  rintro e w1 ⟨y2r, T2, rfl, L2r, O2, W2, U2, hb2⟩
  have D := uhide (C.out.below hb2)
  have SZ : Hid ((Tryz.prog.info? 138).map (·.size) = some y2r.length) := by show _ = _; rw [L2r]; exact Tryz.zChange_impl_Obj
  have TH : Hid (w1.there (w.heap.size + 1 + 1) 2 y2r.length) := by rw [L2r]; exact D.out.there 17 BZ2.out
  have HB2 := uhide hb2
  clear hb2
  have FZ0 : Hid (∀ l : List Value, l.length = 19 → Hid ((Tryz.prog.info? 140).map (·.size) = some l.length)) := fun l h => by show _ = _; rw [h]; exact Tryz.zChange_impl_Change
  have HZL : Hid (19 = ([.int .i64 0, .bool false, .int .i64 0, .string ⟨#[]⟩, .int .i64 0, .int .i64 0, .int .i64 0, .bool false, .slice none 0 0, .int .i64 0, .string ⟨#[]⟩, .int .i64 0, .slice none 0 0, .slice none 0 0, .int .i64 0, .string ⟨#[]⟩, .int .i64 0, .slice none 0 0, .slice none 0 0] : List Value).length) := by show _ = _; decide
  go_wp2_with (first
    | ((with_reducible refine wpList_store_cells ?qqg72 138 ?qqx72 ?qqy72 ?qqo72 ?qqd72 (w.heap.size + 1 + 1) 2 ?qqh72 (.agg y2r.toArray) ?qqv72 y2r cells_agg U2.out SZ.out TH.out ?_); (case qqg72 => rfl); (case qqo72 => rfl); (case qqd72 => rfl); (case qqh72 => simp [Act.eval, Act.put]); (case qqv72 => simp [Act.eval, Act.put]); intro wy ey; replace C := uhide (C.out.step HB2.out O2.out W2.out ey (j' := 19) (by rw [L2r]) (by decide)); clear ey D SZ TH HB2 O2 W2; obtain ⟨dn, S, RG, hl, TH, hod, HF⟩ := C.out.fin (D := D) (by rw [← HD.out]; apply UD.ext; simp only [UD.app_toL, UD.toL, List.cons_append, List.nil_append, List.append_nil]) HZL.out; have FZ := FZ0.out dn hl; have ON := uhide (ones_own HTY.out hod); have HFF := uhide HF; clear C hod HF)
    | ((with_reducible refine wpList_load_row2 ?qqg73 140 ?qqx73 ?qqo73 (w.heap.size + 1 + 1) 0 ?qqh73 dn Tryz.rChange_impl_Change FZ.out RG.out ?_); (case qqg73 => rfl); (case qqo73 => rfl); (case qqh73 => simp [Act.eval, Act.put]))
    | ((with_reducible refine wpList_store_cells ?qqg74 140 ?qqx74 ?qqy74 ?qqo74 ?qqd74 (w.heap.size + 1) 0 ?qqh74 (.agg dn.toArray) ?qqv74 dn cells_agg ON.out FZ.out TH.out ?_); (case qqg74 => rfl); (case qqo74 => rfl); (case qqd74 => rfl); (case qqh74 => simp [Act.eval, Act.put]); (case qqv74 => simp [Act.eval, Act.put]); intro wy ey; have HG := uhide (HFF.out wy ey); clear ey HFF)
    )
  obtain ⟨HO, h1, h2, h3, h4⟩ := HG.out
  refine bodyPost_ret (v := .agg dn.toArray) ?_ rfl ⟨dn, S, rfl, ?_, h2, h3, h4⟩
  · exact results_row rfl _ _ (w.heap.size + 1) _ _ (by simp [Act.put]) HO Tryz.rChange_impl_Change (by rw [hl]; exact Tryz.zChange_impl_Change)
  · exact h1
theorem Tryz.infoUChange : (Tryz.prog.info? 140).map (fun i => (i.zero, i.size, decide (i.bytes ≤ 1000))) = some (some (.agg #[.int .i64 0, .bool false, .int .i64 0, .string ByteArray.empty, .int .i64 0, .int .i64 0, .int .i64 0, .bool false, .slice none 0 0, .int .i64 0, .string ByteArray.empty, .int .i64 0, .slice none 0 0, .slice none 0 0, .int .i64 0, .string ByteArray.empty, .int .i64 0, .slice none 0 0, .slice none 0 0]), 19, true) := by kernel_rfl
set_option maxRecDepth 20000 in
set_option maxHeartbeats 1600000 in
theorem utoChangeS_any {lo hi : Nat} (n : Nat) (cs : UD) (c : Value) (w : World) (ht : tyS 19 n cs 9) (hn : n + wt cs ≤ 1048576) (hx : uS w lo hi 19 n cs c) :
    Calls Tryz.prog 92 #[c] w fun e w' => ∃ c' S, e = .returned c' ∧ oS w' 19 n cs c' S ∧ S.Nodup ∧ (∀ s ∈ S, w.heap.size ≤ s) ∧ Below w.heap.size w w' := by
  obtain ⟨i0, hinf, hz0, hz1, hz2⟩ : ∃ i, Tryz.prog.info? 140 = some i ∧ i.zero = some (.agg #[.int .i64 0, .bool false, .int .i64 0, .string ByteArray.empty, .int .i64 0, .int .i64 0, .int .i64 0, .bool false, .slice none 0 0, .int .i64 0, .string ByteArray.empty, .int .i64 0, .slice none 0 0, .slice none 0 0, .int .i64 0, .string ByteArray.empty, .int .i64 0, .slice none 0 0, .slice none 0 0]) ∧ i.size = 19 ∧ i.bytes ≤ 1000 := by
    have h := Tryz.infoUChange
    cases e : Tryz.prog.info? 140 with
    | none => rw [e] at h; cases h
    | some i => rw [e] at h; simp at h; exact ⟨i, rfl, h.1, h.2.1, h.2.2⟩
  obtain ⟨a, cap, rfl, hx2⟩ := hx
  have Hx : Hid (uS w lo hi 19 n cs (.slice a n cap)) := ⟨a, cap, rfl, hx2⟩
  have Ht := uhide ht
  have Hn : Hid (∀ q, q < n → wt (rowU cs 19 q) ≤ 1048576) := fun q hq => by have := wt_row cs 19 q; omega
  have hnn : n ≤ 1048576 := by omega
  have hbb : i0.bytes * n ≤ 281474976710656 := Nat.le_trans (Nat.mul_le_mul hz2 hnn) (by decide)
  clear hx2 ht hn
  go_enter Tryz.func92, Tryz.ntmps92
  go_wp2_with (at_make; refine wpList_make_full _ rfl _ _ 67 rfl w.heap.size 140 i0 _ 19 Tryz.underlying67 hinf hz0 hz1 _ _ _ _ n rfl rfl rfl rfl hbb (by unfold maxLen; omega) (Nat.le_refl _) ?_; intro w1 hown hgrow)
  have T0 := uhide (TS.start (cs := cs) hown (Below.grown (Below.refl _ _) hgrow (Nat.le_refl _) (fun k hk => by cases hk)))
  clear hown hgrow
  go_loopw [4] (fun i wr => ∃ (q : Nat), q ≤ n ∧ i = .int .i64 q ∧ Hid (TS w wr 140 19 n cs q)) (fun i _ => n - (intOf i).toNat)
  case atStart => exact ⟨0, Nat.zero_le _, rfl, T0⟩
  case round =>
    clear T0
    obtain ⟨q, hq, rfl, HT⟩ := hrel
    by_cases hlt : q < n
    · obtain ⟨b, off, rfl, hbk, hm⟩ := (Hx.out.below HT.out.bel).cells (by omega)
      have htr := Ht.out.row hlt
      have hwr := Hn.out q hlt
      obtain ⟨xs, hh, hcl⟩ := (hm.row 19 q).hand
      have hxl : xs.length = 19 := by rw [hh.len, tyL.len htr]; rfl
      have Hcon : Hid (∀ wx, Below wr.heap.size wr wx → Calls Tryz.prog 171 #[.agg xs.toArray] wx fun e w' => ∃ ys S, e = .returned (.agg ys.toArray) ∧ Hid (oH w' (rowU cs 19 q) ys S) ∧ Hid S.Nodup ∧ Hid (∀ s ∈ S, wx.heap.size ≤ s) ∧ Hid (ys.length = 19) ∧ Hid (∀ u ∈ ys, u.oneCell' = true) ∧ Hid (Below wx.heap.size wx w')) := fun wx hb => (utoChange_any (lo := lo) (hi := hi) _ _ wx htr hwr (hh.below hb)).mono fun e w' ⟨ys, S, h1, h2, h3, h4, h5⟩ => ⟨ys, S, h1, h2, h3, h4, h2.len.trans (tyL.len htr), ones_own htr h2, h5⟩
      have RG : Hid (wr.rangeAt b (off + q * 19) xs) := hcl
      have FZ : Hid ((Tryz.prog.info? 217).map (·.size) = some xs.length) := by show _ = _; rw [hxl]; exact Tryz.zChange_laws_Change
      have hKn : q * 19 + 19 ≤ n * 19 := by have := Nat.mul_le_mul_right 19 (show q + 1 ≤ n by omega); rw [Nat.succ_mul] at this; exact this
      clear hcl hm htr hwr hh hxl
      go_wp2_with (first
        | ((with_reducible refine wpList_load_row2 ?qqg120 217 ?qqx120 ?qqo120 b (off + q * 19) ?qqh120 xs Tryz.rChange_laws_Change FZ.out RG.out ?_); (case qqg120 => rfl); (case qqo120 => rfl); (case qqh120 => simp [Act.eval, Act.put]))
        )
      refine (Hcon.out _ (Below.refl _ _)).mono ?_
      rintro e w2 ⟨ys, S, rfl, ho, hnd, hS, hyl, hone, hb2⟩
      have TH : Hid (w2.there w.heap.size (q * 19) ys.length) := by rw [hyl.out]; exact (HT.out.below hb2.out).there _ _ hKn
      have FY : Hid ((Tryz.prog.info? 140).map (·.size) = some ys.length) := by show _ = _; rw [hyl.out]; exact Tryz.zChange_impl_Change
      go_wp2_with (first
        | ((with_reducible refine wpList_store_cells ?qqg127 140 ?qqx127 ?qqy127 ?qqo127 ?qqd127 w.heap.size (q * 19) ?qqh127 (.agg ys.toArray) ?qqv127 ys cells_agg hone.out FY.out TH.out ?_); (case qqg127 => rfl); (case qqo127 => rfl); (case qqd127 => rfl); (case qqh127 => simp [Act.eval, Act.put]); (case qqv127 => simp [Act.eval, Act.put]); intro wy ey; have T1 := uhide (HT.out.row hb2.out ho.out hnd.out hS.out Ht.out.2.2.2.1 hlt ey); clear ey)
        )
      go_roundw
      case rel => exact ⟨q + 1, by omega, by go_num, T1⟩
      case measure => simp [intOf]; omega
    · have e : q = n := by omega
      subst e
      obtain ⟨S, h1, h2, h3, h4⟩ := HT.out.done (by decide) Ht.out.2.2.2.1
      have HS : Hid (oS wr 19 q cs (.slice (some ⟨w.heap.size, 0, none⟩) q q) S ∧ S.Nodup ∧ (∀ s ∈ S, w.heap.size ≤ s) ∧ Below w.heap.size w wr) := ⟨h1, h2, h3, h4⟩
      clear h1 h2 h3 h4
      go_wp2
      go_ret
      exact ⟨_, S, rfl, HS.out⟩
end Go.Proofs.YtdnodaoeflbfkaaGreat
/- Data as cells: the helpers of the laws over Base. -/
namespace Go.Proofs.YtdnodaoeflbfkaaGreat
open Go.RowKit Go.BigFrame
set_option linter.unusedVariables false
set_option linter.unusedSimpArgs false

set_option maxRecDepth 20000 in
set_option maxHeartbeats 3200000 in
theorem utoBase_any {lo hi : Nat} (d : UD) (xs : List Value) (w : World) (ht : tyL d (uE 10)) (hn : wt d ≤ 1048576) (hx : uH w lo hi d xs) :
    Calls Tryz.prog 35 #[.agg xs.toArray] w fun e w' => ∃ ys S, e = .returned (.agg ys.toArray) ∧ oH w' d ys S ∧ S.Nodup ∧ (∀ s ∈ S, w.heap.size ≤ s) ∧ Below w.heap.size w w' := by
  have hty := ht
  replace ht : tyL d [.l 17 8, .i .i64, .i .i64, .l 19 9] := ht
  obtain ⟨n0, c0, _, rfl, g0, h0⟩ := tyL.l ht
  obtain ⟨z1, _, rfl, g1, h1⟩ := tyL.i h0
  clear h0
  obtain ⟨z2, _, rfl, g2, h2⟩ := tyL.i h1
  clear h1
  obtain ⟨n3, c3, _, rfl, g3, h3⟩ := tyL.l h2
  clear h2
  obtain rfl := tyL.nil h3
  clear h3
  obtain ⟨v0, _, rfl, s0, h0⟩ := hx
  obtain ⟨_, rfl, h1⟩ := h0
  obtain ⟨_, rfl, h2⟩ := h1
  obtain ⟨v3, _, rfl, s3, h3⟩ := h2
  obtain rfl := h3
  simp only [wt, wtP] at hn
  generalize hD : (UD.l 17 n0 c0 (UD.p (.int .i64 z1) (UD.p (.int .i64 z2) (UD.l 19 n3 c3 UD.nil)))) = D at hty ⊢
  have HD := uhide hD
  clear hD
  have HC0 : Hid (∀ wx : World, Below w.heap.size w wx → Calls Tryz.prog 91 #[v0] wx fun e w' => ∃ a p T, e = .returned (.slice a n0 p) ∧ Hid (oS w' 17 n0 c0 (.slice a n0 p) T) ∧ Hid (own2 T wx.heap.size w'.heap.size) ∧ Below wx.heap.size wx w') := fun wx hb => (utoObjS_any (lo := lo) (hi := hi) n0 c0 _ wx g0 (by omega) (s0.below hb)).mono fun e w' ⟨c', T, h1, h2, h3, h4, h5⟩ => by
    obtain ⟨a, p, rfl⟩ := h2.slice
    exact ⟨a, p, T, h1, h2, ⟨h3, fun s hs => ⟨h4 s hs, h2.lt s hs⟩⟩, h5⟩
  have HC3 : Hid (∀ wx : World, Below w.heap.size w wx → Calls Tryz.prog 92 #[v3] wx fun e w' => ∃ a p T, e = .returned (.slice a n3 p) ∧ Hid (oS w' 19 n3 c3 (.slice a n3 p) T) ∧ Hid (own2 T wx.heap.size w'.heap.size) ∧ Below wx.heap.size wx w') := fun wx hb => (utoChangeS_any (lo := lo) (hi := hi) n3 c3 _ wx g3 (by omega) (s3.below hb)).mono fun e w' ⟨c', T, h1, h2, h3, h4, h5⟩ => by
    obtain ⟨a, p, rfl⟩ := h2.slice
    exact ⟨a, p, T, h1, h2, ⟨h3, fun s hs => ⟨h4 s hs, h2.lt s hs⟩⟩, h5⟩
  obtain ⟨AX, hAX⟩ : ∃ AX : List Value, AX = (v0 :: (Value.int .i64 z1 :: (Value.int .i64 z2 :: (v3 :: [])))) := ⟨_, rfl⟩
  rw [← hAX]
  have hlen : AX.length = 4 := by rw [hAX]; simp
  have e0 : AX[0]? = some (v0) := at_mid (i := 0) (pre := (([] : List Value))) (ys := [v0]) (post := (Value.int .i64 z1 :: (Value.int .i64 z2 :: (v3 :: [])))) (by rw [hAX]; simp) (by simp) rfl
  have e1 : AX[1]? = some (.int .i64 z1) := at_mid (i := 0) (pre := ([v0])) (ys := [.int .i64 z1]) (post := (Value.int .i64 z2 :: (v3 :: []))) (by rw [hAX]; simp) (by simp) rfl
  have e2 : AX[2]? = some (.int .i64 z2) := at_mid (i := 0) (pre := ([v0, Value.int .i64 z1])) (ys := [.int .i64 z2]) (post := (v3 :: [])) (by rw [hAX]; simp) (by simp) rfl
  have e3 : AX[3]? = some (v3) := at_mid (i := 0) (pre := ([v0, Value.int .i64 z1, Value.int .i64 z2])) (ys := [v3]) (post := []) (by rw [hAX]; simp) (by simp) rfl
  clear hAX
  have HTY := uhide hty
  clear hty
  clear hn g0 s0 g1 g2 g3 s3
  have E0 := uhide e0
  have E1 := uhide e1
  have E2 := uhide e2
  have E3 := uhide e3
  clear e0 e1 e2 e3
  have BZ0 : Hid (0 + 1 ≤ ([.slice none 0 0, .int .i64 0, .int .i64 0, .slice none 0 0] : List Value).length) := by show _ ≤ _; decide
  have BZ1 : Hid (1 + 1 ≤ ([.slice none 0 0, .int .i64 0, .int .i64 0, .slice none 0 0] : List Value).length) := by show _ ≤ _; decide
  have BZ2 : Hid (2 + 1 ≤ ([.slice none 0 0, .int .i64 0, .int .i64 0, .slice none 0 0] : List Value).length) := by show _ ≤ _; decide
  have BZ3 : Hid (3 + 1 ≤ ([.slice none 0 0, .int .i64 0, .int .i64 0, .slice none 0 0] : List Value).length) := by show _ ≤ _; decide
  have C := uhide (CP.start (w := w) (TA := 61) (TO := 69) (AX := AX) (Z := [.slice none 0 0, .int .i64 0, .int .i64 0, .slice none 0 0]))
  go_enter Tryz.func35, Tryz.ntmps35
  go_wp2_with (first
    | ((with_reducible refine wpList_load_one ?qqg64 58 ?qqx64 ?qqo64 w.heap.size 0 ?qqh64 (v0) Tryz.rBase_Llaws_Obj (C.out.cell E0.out) ?_); (case qqg64 => rfl); (case qqo64 => rfl); (case qqh64 => simp [Act.eval, Act.put]))
    )
  refine (HC0.out _ C.out.bel).mono ?_
  rintro e w1 ⟨a0r, p0r, T0, rfl, O0, W0, hb0⟩
  have D := uhide (C.out.below hb0)
  have HB0 := uhide hb0
  clear hb0
  go_wp2_with (first
    | ((with_reducible refine wpList_store_v ?qqg72 63 ?qqx72 ?qqy72 ?qqo72 ?qqd72 (w.heap.size + 1 + 1) 0 ?qqh72 (.slice a0r n0 p0r) ?qqv72 one_slice Tryz.zBase_Limpl_Obj (D.out.there 1 BZ0.out) ?_); (case qqg72 => rfl); (case qqo72 => rfl); (case qqd72 => rfl); (case qqh72 => simp [Act.eval, Act.put]); (case qqv72 => simp [Act.eval, Act.put]); intro wy ey; replace C := uhide (C.out.list HB0.out O0.out W0.out ey (j' := 1) rfl (by decide)); clear ey D HB0 O0 W0)
    | ((with_reducible refine wpList_load_one ?qqg73 3 ?qqx73 ?qqo73 w.heap.size 1 ?qqh73 (.int .i64 z1) Tryz.rBase_int (C.out.cell E1.out) ?_); (case qqg73 => rfl); (case qqo73 => rfl); (case qqh73 => simp [Act.eval, Act.put]))
    | ((with_reducible refine wpList_store_v ?qqg74 3 ?qqx74 ?qqy74 ?qqo74 ?qqd74 (w.heap.size + 1 + 1) 1 ?qqh74 (.int .i64 z1) ?qqv74 one_int Tryz.zBase_int (C.out.there 1 BZ1.out) ?_); (case qqg74 => rfl); (case qqo74 => rfl); (case qqd74 => rfl); (case qqh74 => simp [Act.eval, Act.put]); (case qqv74 => simp [Act.eval, Act.put]); intro wy ey; replace C := uhide (C.out.plain ey (j' := 2) rfl (by decide)); clear ey)
    | ((with_reducible refine wpList_load_one ?qqg75 3 ?qqx75 ?qqo75 w.heap.size 2 ?qqh75 (.int .i64 z2) Tryz.rBase_int (C.out.cell E2.out) ?_); (case qqg75 => rfl); (case qqo75 => rfl); (case qqh75 => simp [Act.eval, Act.put]))
    | ((with_reducible refine wpList_store_v ?qqg76 3 ?qqx76 ?qqy76 ?qqo76 ?qqd76 (w.heap.size + 1 + 1) 2 ?qqh76 (.int .i64 z2) ?qqv76 one_int Tryz.zBase_int (C.out.there 1 BZ2.out) ?_); (case qqg76 => rfl); (case qqo76 => rfl); (case qqd76 => rfl); (case qqh76 => simp [Act.eval, Act.put]); (case qqv76 => simp [Act.eval, Act.put]); intro wy ey; replace C := uhide (C.out.plain ey (j' := 3) rfl (by decide)); clear ey)
    | ((with_reducible refine wpList_load_one ?qqg77 59 ?qqx77 ?qqo77 w.heap.size 3 ?qqh77 (v3) Tryz.rBase_Llaws_Change (C.out.cell E3.out) ?_); (case qqg77 => rfl); (case qqo77 => rfl); (case qqh77 => simp [Act.eval, Act.put]))
    )
  refine (HC3.out _ C.out.bel).mono ?_
  rintro e w2 ⟨a3r, p3r, T3, rfl, O3, W3, hb3⟩
  have D := uhide (C.out.below hb3)
  have HB3 := uhide hb3
  clear hb3
  have FZ0 : Hid (∀ l : List Value, l.length = 4 → Hid ((Tryz.prog.info? 69).map (·.size) = some l.length)) := fun l h => by show _ = _; rw [h]; exact Tryz.zBase_impl_Base
  have HZL : Hid (4 = ([.slice none 0 0, .int .i64 0, .int .i64 0, .slice none 0 0] : List Value).length) := by show _ = _; decide
  go_wp2_with (first
    | ((with_reducible refine wpList_store_v ?qqg87 67 ?qqx87 ?qqy87 ?qqo87 ?qqd87 (w.heap.size + 1 + 1) 3 ?qqh87 (.slice a3r n3 p3r) ?qqv87 one_slice Tryz.zBase_Limpl_Change (D.out.there 1 BZ3.out) ?_); (case qqg87 => rfl); (case qqo87 => rfl); (case qqd87 => rfl); (case qqh87 => simp [Act.eval, Act.put]); (case qqv87 => simp [Act.eval, Act.put]); intro wy ey; replace C := uhide (C.out.list HB3.out O3.out W3.out ey (j' := 4) rfl (by decide)); clear ey D HB3 O3 W3; obtain ⟨dn, S, RG, hl, TH, hod, HF⟩ := C.out.fin (D := D) (by rw [← HD.out]; apply UD.ext; simp only [UD.app_toL, UD.toL, List.cons_append, List.nil_append]) HZL.out; have FZ := FZ0.out dn hl; have ON := uhide (ones_own HTY.out hod); have HFF := uhide HF; clear C hod HF)
    | ((with_reducible refine wpList_load_row2 ?qqg88 69 ?qqx88 ?qqo88 (w.heap.size + 1 + 1) 0 ?qqh88 dn Tryz.rBase_impl_Base FZ.out RG.out ?_); (case qqg88 => rfl); (case qqo88 => rfl); (case qqh88 => simp [Act.eval, Act.put]))
    | ((with_reducible refine wpList_store_cells ?qqg89 69 ?qqx89 ?qqy89 ?qqo89 ?qqd89 (w.heap.size + 1) 0 ?qqh89 (.agg dn.toArray) ?qqv89 dn cells_agg ON.out FZ.out TH.out ?_); (case qqg89 => rfl); (case qqo89 => rfl); (case qqd89 => rfl); (case qqh89 => simp [Act.eval, Act.put]); (case qqv89 => simp [Act.eval, Act.put]); intro wy ey; have HG := uhide (HFF.out wy ey); clear ey HFF)
    )
  obtain ⟨HO, h1, h2, h3, h4⟩ := HG.out
  refine bodyPost_ret (v := .agg dn.toArray) ?_ rfl ⟨dn, S, rfl, ?_, h2, h3, h4⟩
  · exact results_row rfl _ _ (w.heap.size + 1) _ _ (by simp [Act.put]) HO Tryz.rBase_impl_Base (by rw [hl]; exact Tryz.zBase_impl_Base)
  · exact h1
end Go.Proofs.YtdnodaoeflbfkaaGreat
/- Data as cells: the helpers of the laws over Obj. -/
namespace Go.Proofs.YtdnodaoeflbfkaaGreat
open Go.RowKit Go.BigFrame
set_option linter.unusedVariables false
set_option linter.unusedSimpArgs false

set_option maxRecDepth 100000 in
set_option maxHeartbeats 4000000 in
theorem umarkObjS_any (n k0 : Nat) (cs : UD) (c : Value) (S : List Nat) (w : World) (ht : tyS 17 n cs 8) (hnd : S.Nodup) (hk0 : 1 ≤ k0) (hk1 : k0 + cnt cs ≤ 100000000) (hx : oS w 17 n cs c S) :
    Calls Tryz.prog 96 #[c, .int .i64 k0] w fun e w' => e = .returned (.int .i64 (k0 + cnt cs : Nat)) ∧ oS w' 17 n (mk cs k0) c S ∧ OutS S w w' := by
  obtain ⟨a, cap, rfl⟩ := hx.slice
  have hmx := ht.2.2.1
  unfold maxLen at hmx
  rcases Nat.eq_zero_or_pos n with h0 | hpos
  · subst h0
    obtain ⟨e1, e2⟩ := hx.empty rfl k0
    rw [e1, e2]
    have Hx := uhide hx
    clear hx ht hnd e1 e2
    go_enter Tryz.func96, Tryz.ntmps96
    go_wp2
    go_loopw [1, 5] (fun s i wr => i = .int .i64 0 ∧ s = .int .i64 k0 ∧ wr = w) (fun _ _ _ => 0)
    case atStart => exact ⟨rfl, rfl, rfl⟩
    case round =>
      obtain ⟨rfl, rfl, rfl⟩ := hrel
      go_wp2
      go_ret
      exact ⟨rfl, Hx.out, OutS.refl _ _⟩
  obtain ⟨e, g, S1, xs0, M0, rfl, hp0, hl0⟩ := MS.start hx hnd hpos k0
  obtain ⟨cap, h1, hgl⟩ := M0.own
  cases h1
  have M0 := uhide M0
  have Ht := uhide ht
  have Hp0 := uhide hp0
  have Hl0 := uhide hl0
  have Hkk : Hid (∀ q, k0 + cnt (cs.takeN (q * 17)) ≤ 100000000) := fun q => by have := cnt_le cs (q * 17); omega
  clear hx ht hnd hp0 hl0
  go_enter Tryz.func96, Tryz.ntmps96
  go_wp2
  go_loopw [1, 5] (fun s i wr => ∃ (q : Nat), q ≤ n ∧ i = .int .i64 q ∧ s = .int .i64 (k0 + cnt (cs.takeN (q * 17)) : Nat) ∧ Hid (MS w wr e 17 n (.slice (some ⟨g, 0, none⟩) n cap) g cs k0 S1 xs0 (q * 17))) (fun _ i _ => n - (intOf i).toNat)
  case atStart => exact ⟨0, Nat.zero_le _, rfl, by rw [Nat.zero_mul]; rfl, by rw [Nat.zero_mul]; exact M0⟩
  case round =>
    clear M0
    obtain ⟨q, hq, rfl, rfl, HM⟩ := hrel
    by_cases hlt : q < n
    · have htr := Ht.out.row hlt
      have hKn : q * 17 + 17 ≤ n * 17 := by have := Nat.mul_le_mul_right 17 (show q + 1 ≤ n by omega); rw [Nat.succ_mul] at this; exact this
      obtain ⟨z0, z1, z2, z3, z4, z5, n6, c6, z7, z8, z9, n10, c10, n11, c11, z12, z13, z14, n15, c15, n16, c16, hR, g0, g1, g2, g3, g4, g6, g7, g8, g9, g10, g11, g12, g13, g14, g15, g16⟩ := partsObj htr
      obtain ⟨kq, hkq⟩ : ∃ kq, k0 + cnt (cs.takeN (q * 17)) = kq := ⟨_, rfl⟩
      have hK0 : 1 ≤ kq := by omega
      have at0 : cs.at? (q * 17) = some (.p (.int .i64 z0)) := at_row (j := 0) hR (by decide) rfl
      have ct0 : Hid (k0 + cnt (cs.takeN (q * 17)) = kq) := hkq
      have at1 : cs.at? (q * 17 + 1) = some (.p (.string z1)) := at_row (j := 1) hR (by decide) rfl
      have ct1 : Hid (k0 + cnt (cs.takeN (q * 17 + 1)) = (kq + 1)) := ct_next ct0.out at0
      have at2 : cs.at? (q * 17 + 2) = some (.p (.int .i64 z2)) := at_row (j := 2) hR (by decide) rfl
      have ct2 : Hid (k0 + cnt (cs.takeN (q * 17 + 2)) = ((kq + 1) + 1)) := ct_next ct1.out at1
      have at3 : cs.at? (q * 17 + 3) = some (.p (.int .i64 z3)) := at_row (j := 3) hR (by decide) rfl
      have ct3 : Hid (k0 + cnt (cs.takeN (q * 17 + 3)) = (((kq + 1) + 1) + 1)) := ct_next ct2.out at2
      have at4 : cs.at? (q * 17 + 4) = some (.p (.int .i64 z4)) := at_row (j := 4) hR (by decide) rfl
      have ct4 : Hid (k0 + cnt (cs.takeN (q * 17 + 4)) = ((((kq + 1) + 1) + 1) + 1)) := ct_next ct3.out at3
      have at5 : cs.at? (q * 17 + 5) = some (.p (.bool z5)) := at_row (j := 5) hR (by decide) rfl
      have ct5 : Hid (k0 + cnt (cs.takeN (q * 17 + 5)) = (((((kq + 1) + 1) + 1) + 1) + 1)) := ct_next ct4.out at4
      have at6 : cs.at? (q * 17 + 6) = some (.l 1 n6 c6) := at_row (j := 6) hR (by decide) rfl
      have ct6 : Hid (k0 + cnt (cs.takeN (q * 17 + 6)) = ((((((kq + 1) + 1) + 1) + 1) + 1) + 1)) := ct_next ct5.out at5
      obtain ⟨a6, p6, x6⟩ := Hl0.out _ _ _ _ at6
      have at7 : cs.at? (q * 17 + 7) = some (.p (.int .i64 z7)) := at_row (j := 7) hR (by decide) rfl
      have ct7 : Hid (k0 + cnt (cs.takeN (q * 17 + 7)) = (((((((kq + 1) + 1) + 1) + 1) + 1) + 1) + cnt c6)) := ct_next ct6.out at6
      have at8 : cs.at? (q * 17 + 8) = some (.p (.string z8)) := at_row (j := 8) hR (by decide) rfl
      have ct8 : Hid (k0 + cnt (cs.takeN (q * 17 + 8)) = ((((((((kq + 1) + 1) + 1) + 1) + 1) + 1) + cnt c6) + 1)) := ct_next ct7.out at7
      have at9 : cs.at? (q * 17 + 9) = some (.p (.int .i64 z9)) := at_row (j := 9) hR (by decide) rfl
      have ct9 : Hid (k0 + cnt (cs.takeN (q * 17 + 9)) = (((((((((kq + 1) + 1) + 1) + 1) + 1) + 1) + cnt c6) + 1) + 1)) := ct_next ct8.out at8
      have at10 : cs.at? (q * 17 + 10) = some (.l 1 n10 c10) := at_row (j := 10) hR (by decide) rfl
      have ct10 : Hid (k0 + cnt (cs.takeN (q * 17 + 10)) = ((((((((((kq + 1) + 1) + 1) + 1) + 1) + 1) + cnt c6) + 1) + 1) + 1)) := ct_next ct9.out at9
      obtain ⟨a10, p10, x10⟩ := Hl0.out _ _ _ _ at10
      have at11 : cs.at? (q * 17 + 11) = some (.l 5 n11 c11) := at_row (j := 11) hR (by decide) rfl
      have ct11 : Hid (k0 + cnt (cs.takeN (q * 17 + 11)) = (((((((((((kq + 1) + 1) + 1) + 1) + 1) + 1) + cnt c6) + 1) + 1) + 1) + cnt c10)) := ct_next ct10.out at10
      obtain ⟨a11, p11, x11⟩ := Hl0.out _ _ _ _ at11
      have at12 : cs.at? (q * 17 + 12) = some (.p (.int .i64 z12)) := at_row (j := 12) hR (by decide) rfl
      have ct12 : Hid (k0 + cnt (cs.takeN (q * 17 + 12)) = ((((((((((((kq + 1) + 1) + 1) + 1) + 1) + 1) + cnt c6) + 1) + 1) + 1) + cnt c10) + cnt c11)) := ct_next ct11.out at11
      have at13 : cs.at? (q * 17 + 13) = some (.p (.string z13)) := at_row (j := 13) hR (by decide) rfl
      have ct13 : Hid (k0 + cnt (cs.takeN (q * 17 + 13)) = (((((((((((((kq + 1) + 1) + 1) + 1) + 1) + 1) + cnt c6) + 1) + 1) + 1) + cnt c10) + cnt c11) + 1)) := ct_next ct12.out at12
      have at14 : cs.at? (q * 17 + 14) = some (.p (.int .i64 z14)) := at_row (j := 14) hR (by decide) rfl
      have ct14 : Hid (k0 + cnt (cs.takeN (q * 17 + 14)) = ((((((((((((((kq + 1) + 1) + 1) + 1) + 1) + 1) + cnt c6) + 1) + 1) + 1) + cnt c10) + cnt c11) + 1) + 1)) := ct_next ct13.out at13
      have at15 : cs.at? (q * 17 + 15) = some (.l 1 n15 c15) := at_row (j := 15) hR (by decide) rfl
      have ct15 : Hid (k0 + cnt (cs.takeN (q * 17 + 15)) = (((((((((((((((kq + 1) + 1) + 1) + 1) + 1) + 1) + cnt c6) + 1) + 1) + 1) + cnt c10) + cnt c11) + 1) + 1) + 1)) := ct_next ct14.out at14
      obtain ⟨a15, p15, x15⟩ := Hl0.out _ _ _ _ at15
      have at16 : cs.at? (q * 17 + 16) = some (.l 5 n16 c16) := at_row (j := 16) hR (by decide) rfl
      have ct16 : Hid (k0 + cnt (cs.takeN (q * 17 + 16)) = ((((((((((((((((kq + 1) + 1) + 1) + 1) + 1) + 1) + cnt c6) + 1) + 1) + 1) + cnt c10) + cnt c11) + 1) + 1) + 1) + cnt c15)) := ct_next ct15.out at15
      obtain ⟨a16, p16, x16⟩ := Hl0.out _ _ _ _ at16
      have hend : Hid (k0 + cnt (cs.takeN ((q + 1) * 17)) = (((((((((((((((((kq + 1) + 1) + 1) + 1) + 1) + 1) + cnt c6) + 1) + 1) + 1) + cnt c10) + cnt c11) + 1) + 1) + 1) + cnt c15) + cnt c16)) := ct_end (ct_next ct16.out at16)
      have hkb : (((((((((((((((((kq + 1) + 1) + 1) + 1) + 1) + 1) + cnt c6) + 1) + 1) + 1) + cnt c10) + cnt c11) + 1) + 1) + 1) + cnt c15) + cnt c16) ≤ 100000000 := by have h := Hkk.out (q + 1); rw [hend.out] at h; exact h
      have hk1q : Hid (k0 + cnt (cs.takeN (q * 17)) = kq) := hkq
      clear hkq
      have KB0 : kq ≤ 1000000000 := by omega
      have HP0 : Hid (∀ (wx wy : World) (u : Value), MS w wx e 17 n (.slice (some ⟨g, 0, none⟩) n cap) g cs k0 S1 xs0 (q * 17) → u = .int .i64 (kq : Nat) → wy = wx.setCells g (q * 17) [u] → MS w wy e 17 n (.slice (some ⟨g, 0, none⟩) n cap) g cs k0 S1 xs0 (q * 17 + 1)) := fun wx wy u h hu e => h.cellS at0 ct0.out (hu.trans (mkP_int _ _ KB0).symm) e rfl
      have HP1 : Hid (∀ (wx wy : World) (u : Value), MS w wx e 17 n (.slice (some ⟨g, 0, none⟩) n cap) g cs k0 S1 xs0 (q * 17 + 1) → u = .string (umtx (kq + 1)) → wy = wx.setCells g (q * 17 + 1) [u] → MS w wy e 17 n (.slice (some ⟨g, 0, none⟩) n cap) g cs k0 S1 xs0 (q * 17 + 2)) := fun wx wy u h hu e => h.cellS at1 ct1.out (hu.trans rfl) e rfl
      have HT1 : Hid (∀ (wx : World) (x : Int), x = (((kq + 1) : Nat) : Int) → Calls Tryz.prog 84 #[.int .i64 x] wx fun e1 w' => e1 = .returned (.string (umtx (kq + 1))) ∧ Below wx.heap.size wx w') := fun wx x hx => by rw [hx]; exact umarkText_any _ wx (by omega) (by omega)
      have KB2 : ((kq + 1) + 1) ≤ 1000000000 := by omega
      have HP2 : Hid (∀ (wx wy : World) (u : Value), MS w wx e 17 n (.slice (some ⟨g, 0, none⟩) n cap) g cs k0 S1 xs0 (q * 17 + 2) → u = .int .i64 (((kq + 1) + 1) : Nat) → wy = wx.setCells g (q * 17 + 2) [u] → MS w wy e 17 n (.slice (some ⟨g, 0, none⟩) n cap) g cs k0 S1 xs0 (q * 17 + 3)) := fun wx wy u h hu e => h.cellS at2 ct2.out (hu.trans (mkP_int _ _ KB2).symm) e rfl
      have KB3 : (((kq + 1) + 1) + 1) ≤ 1000000000 := by omega
      have HP3 : Hid (∀ (wx wy : World) (u : Value), MS w wx e 17 n (.slice (some ⟨g, 0, none⟩) n cap) g cs k0 S1 xs0 (q * 17 + 3) → u = .int .i64 ((((kq + 1) + 1) + 1) : Nat) → wy = wx.setCells g (q * 17 + 3) [u] → MS w wy e 17 n (.slice (some ⟨g, 0, none⟩) n cap) g cs k0 S1 xs0 (q * 17 + 4)) := fun wx wy u h hu e => h.cellS at3 ct3.out (hu.trans (mkP_int _ _ KB3).symm) e rfl
      have KB4 : ((((kq + 1) + 1) + 1) + 1) ≤ 1000000000 := by omega
      have HP4 : Hid (∀ (wx wy : World) (u : Value), MS w wx e 17 n (.slice (some ⟨g, 0, none⟩) n cap) g cs k0 S1 xs0 (q * 17 + 4) → u = .int .i64 (((((kq + 1) + 1) + 1) + 1) : Nat) → wy = wx.setCells g (q * 17 + 4) [u] → MS w wy e 17 n (.slice (some ⟨g, 0, none⟩) n cap) g cs k0 S1 xs0 (q * 17 + 5)) := fun wx wy u h hu e => h.cellS at4 ct4.out (hu.trans (mkP_int _ _ KB4).symm) e rfl
      have HP5 : Hid (∀ (wx wy : World) (u : Value), MS w wx e 17 n (.slice (some ⟨g, 0, none⟩) n cap) g cs k0 S1 xs0 (q * 17 + 5) → u = .bool ((((((kq + 1) + 1) + 1) + 1) + 1) % 3 == 0) → wy = wx.setCells g (q * 17 + 5) [u] → MS w wy e 17 n (.slice (some ⟨g, 0, none⟩) n cap) g cs k0 S1 xs0 (q * 17 + 6)) := fun wx wy u h hu e => h.cellS at5 ct5.out (hu.trans rfl) e rfl
      have HC6 : Hid (∀ (wx : World) (x : Int), MS w wx e 17 n (.slice (some ⟨g, 0, none⟩) n cap) g cs k0 S1 xs0 (q * 17 + 6) → x = ((((((((kq + 1) + 1) + 1) + 1) + 1) + 1) : Nat) : Int) → Calls Tryz.prog 56 #[.slice a6 n6 p6, .int .i64 x] wx fun e1 w' => e1 = .returned (.int .i64 ((((((((kq + 1) + 1) + 1) + 1) + 1) + 1) + cnt c6 : Nat))) ∧ Hid (MS w w' e 17 n (.slice (some ⟨g, 0, none⟩) n cap) g cs k0 S1 xs0 (q * 17 + 7))) := by
        intro wx x h hxx
        rw [hxx]
        obtain ⟨c', T, q1, q2, q3, q5⟩ := h.part at6
        rw [x6] at q1
        cases q1
        rw [ct6.out] at q5
        exact (umarkStringS_any n6 ((((((kq + 1) + 1) + 1) + 1) + 1) + 1) c6 _ T wx g6 q3 (by omega) (by omega) q2).mono fun e1 w' h => ⟨h.1, q5 w' h.2.2 h.2.1⟩
      have KB7 : (((((((kq + 1) + 1) + 1) + 1) + 1) + 1) + cnt c6) ≤ 1000000000 := by omega
      have HP7 : Hid (∀ (wx wy : World) (u : Value), MS w wx e 17 n (.slice (some ⟨g, 0, none⟩) n cap) g cs k0 S1 xs0 (q * 17 + 7) → u = .int .i64 ((((((((kq + 1) + 1) + 1) + 1) + 1) + 1) + cnt c6) : Nat) → wy = wx.setCells g (q * 17 + 7) [u] → MS w wy e 17 n (.slice (some ⟨g, 0, none⟩) n cap) g cs k0 S1 xs0 (q * 17 + 8)) := fun wx wy u h hu e => h.cellS at7 ct7.out (hu.trans (mkP_int _ _ KB7).symm) e rfl
      have HP8 : Hid (∀ (wx wy : World) (u : Value), MS w wx e 17 n (.slice (some ⟨g, 0, none⟩) n cap) g cs k0 S1 xs0 (q * 17 + 8) → u = .string (umtx ((((((((kq + 1) + 1) + 1) + 1) + 1) + 1) + cnt c6) + 1)) → wy = wx.setCells g (q * 17 + 8) [u] → MS w wy e 17 n (.slice (some ⟨g, 0, none⟩) n cap) g cs k0 S1 xs0 (q * 17 + 9)) := fun wx wy u h hu e => h.cellS at8 ct8.out (hu.trans rfl) e rfl
      have HT8 : Hid (∀ (wx : World) (x : Int), x = ((((((((((kq + 1) + 1) + 1) + 1) + 1) + 1) + cnt c6) + 1) : Nat) : Int) → Calls Tryz.prog 84 #[.int .i64 x] wx fun e1 w' => e1 = .returned (.string (umtx ((((((((kq + 1) + 1) + 1) + 1) + 1) + 1) + cnt c6) + 1))) ∧ Below wx.heap.size wx w') := fun wx x hx => by rw [hx]; exact umarkText_any _ wx (by omega) (by omega)
      have KB9 : (((((((((kq + 1) + 1) + 1) + 1) + 1) + 1) + cnt c6) + 1) + 1) ≤ 1000000000 := by omega
      have HP9 : Hid (∀ (wx wy : World) (u : Value), MS w wx e 17 n (.slice (some ⟨g, 0, none⟩) n cap) g cs k0 S1 xs0 (q * 17 + 9) → u = .int .i64 ((((((((((kq + 1) + 1) + 1) + 1) + 1) + 1) + cnt c6) + 1) + 1) : Nat) → wy = wx.setCells g (q * 17 + 9) [u] → MS w wy e 17 n (.slice (some ⟨g, 0, none⟩) n cap) g cs k0 S1 xs0 (q * 17 + 10)) := fun wx wy u h hu e => h.cellS at9 ct9.out (hu.trans (mkP_int _ _ KB9).symm) e rfl
      have HC10 : Hid (∀ (wx : World) (x : Int), MS w wx e 17 n (.slice (some ⟨g, 0, none⟩) n cap) g cs k0 S1 xs0 (q * 17 + 10) → x = ((((((((((((kq + 1) + 1) + 1) + 1) + 1) + 1) + cnt c6) + 1) + 1) + 1) : Nat) : Int) → Calls Tryz.prog 56 #[.slice a10 n10 p10, .int .i64 x] wx fun e1 w' => e1 = .returned (.int .i64 ((((((((((((kq + 1) + 1) + 1) + 1) + 1) + 1) + cnt c6) + 1) + 1) + 1) + cnt c10 : Nat))) ∧ Hid (MS w w' e 17 n (.slice (some ⟨g, 0, none⟩) n cap) g cs k0 S1 xs0 (q * 17 + 11))) := by
        intro wx x h hxx
        rw [hxx]
        obtain ⟨c', T, q1, q2, q3, q5⟩ := h.part at10
        rw [x10] at q1
        cases q1
        rw [ct10.out] at q5
        exact (umarkStringS_any n10 ((((((((((kq + 1) + 1) + 1) + 1) + 1) + 1) + cnt c6) + 1) + 1) + 1) c10 _ T wx g10 q3 (by omega) (by omega) q2).mono fun e1 w' h => ⟨h.1, q5 w' h.2.2 h.2.1⟩
      have HC11 : Hid (∀ (wx : World) (x : Int), MS w wx e 17 n (.slice (some ⟨g, 0, none⟩) n cap) g cs k0 S1 xs0 (q * 17 + 11) → x = (((((((((((((kq + 1) + 1) + 1) + 1) + 1) + 1) + cnt c6) + 1) + 1) + 1) + cnt c10) : Nat) : Int) → Calls Tryz.prog 104 #[.slice a11 n11 p11, .int .i64 x] wx fun e1 w' => e1 = .returned (.int .i64 (((((((((((((kq + 1) + 1) + 1) + 1) + 1) + 1) + cnt c6) + 1) + 1) + 1) + cnt c10) + cnt c11 : Nat))) ∧ Hid (MS w w' e 17 n (.slice (some ⟨g, 0, none⟩) n cap) g cs k0 S1 xs0 (q * 17 + 12))) := by
        intro wx x h hxx
        rw [hxx]
        obtain ⟨c', T, q1, q2, q3, q5⟩ := h.part at11
        rw [x11] at q1
        cases q1
        rw [ct11.out] at q5
        exact (umarkValueS_any n11 (((((((((((kq + 1) + 1) + 1) + 1) + 1) + 1) + cnt c6) + 1) + 1) + 1) + cnt c10) c11 _ T wx g11 q3 (by omega) (by omega) q2).mono fun e1 w' h => ⟨h.1, q5 w' h.2.2 h.2.1⟩
      have KB12 : ((((((((((((kq + 1) + 1) + 1) + 1) + 1) + 1) + cnt c6) + 1) + 1) + 1) + cnt c10) + cnt c11) ≤ 1000000000 := by omega
      have HP12 : Hid (∀ (wx wy : World) (u : Value), MS w wx e 17 n (.slice (some ⟨g, 0, none⟩) n cap) g cs k0 S1 xs0 (q * 17 + 12) → u = .int .i64 (((((((((((((kq + 1) + 1) + 1) + 1) + 1) + 1) + cnt c6) + 1) + 1) + 1) + cnt c10) + cnt c11) : Nat) → wy = wx.setCells g (q * 17 + 12) [u] → MS w wy e 17 n (.slice (some ⟨g, 0, none⟩) n cap) g cs k0 S1 xs0 (q * 17 + 13)) := fun wx wy u h hu e => h.cellS at12 ct12.out (hu.trans (mkP_int _ _ KB12).symm) e rfl
      have HP13 : Hid (∀ (wx wy : World) (u : Value), MS w wx e 17 n (.slice (some ⟨g, 0, none⟩) n cap) g cs k0 S1 xs0 (q * 17 + 13) → u = .string (umtx (((((((((((((kq + 1) + 1) + 1) + 1) + 1) + 1) + cnt c6) + 1) + 1) + 1) + cnt c10) + cnt c11) + 1)) → wy = wx.setCells g (q * 17 + 13) [u] → MS w wy e 17 n (.slice (some ⟨g, 0, none⟩) n cap) g cs k0 S1 xs0 (q * 17 + 14)) := fun wx wy u h hu e => h.cellS at13 ct13.out (hu.trans rfl) e rfl
      have HT13 : Hid (∀ (wx : World) (x : Int), x = (((((((((((((((kq + 1) + 1) + 1) + 1) + 1) + 1) + cnt c6) + 1) + 1) + 1) + cnt c10) + cnt c11) + 1) : Nat) : Int) → Calls Tryz.prog 84 #[.int .i64 x] wx fun e1 w' => e1 = .returned (.string (umtx (((((((((((((kq + 1) + 1) + 1) + 1) + 1) + 1) + cnt c6) + 1) + 1) + 1) + cnt c10) + cnt c11) + 1))) ∧ Below wx.heap.size wx w') := fun wx x hx => by rw [hx]; exact umarkText_any _ wx (by omega) (by omega)
      have KB14 : ((((((((((((((kq + 1) + 1) + 1) + 1) + 1) + 1) + cnt c6) + 1) + 1) + 1) + cnt c10) + cnt c11) + 1) + 1) ≤ 1000000000 := by omega
      have HP14 : Hid (∀ (wx wy : World) (u : Value), MS w wx e 17 n (.slice (some ⟨g, 0, none⟩) n cap) g cs k0 S1 xs0 (q * 17 + 14) → u = .int .i64 (((((((((((((((kq + 1) + 1) + 1) + 1) + 1) + 1) + cnt c6) + 1) + 1) + 1) + cnt c10) + cnt c11) + 1) + 1) : Nat) → wy = wx.setCells g (q * 17 + 14) [u] → MS w wy e 17 n (.slice (some ⟨g, 0, none⟩) n cap) g cs k0 S1 xs0 (q * 17 + 15)) := fun wx wy u h hu e => h.cellS at14 ct14.out (hu.trans (mkP_int _ _ KB14).symm) e rfl
      have HC15 : Hid (∀ (wx : World) (x : Int), MS w wx e 17 n (.slice (some ⟨g, 0, none⟩) n cap) g cs k0 S1 xs0 (q * 17 + 15) → x = (((((((((((((((((kq + 1) + 1) + 1) + 1) + 1) + 1) + cnt c6) + 1) + 1) + 1) + cnt c10) + cnt c11) + 1) + 1) + 1) : Nat) : Int) → Calls Tryz.prog 56 #[.slice a15 n15 p15, .int .i64 x] wx fun e1 w' => e1 = .returned (.int .i64 (((((((((((((((((kq + 1) + 1) + 1) + 1) + 1) + 1) + cnt c6) + 1) + 1) + 1) + cnt c10) + cnt c11) + 1) + 1) + 1) + cnt c15 : Nat))) ∧ Hid (MS w w' e 17 n (.slice (some ⟨g, 0, none⟩) n cap) g cs k0 S1 xs0 (q * 17 + 16))) := by
        intro wx x h hxx
        rw [hxx]
        obtain ⟨c', T, q1, q2, q3, q5⟩ := h.part at15
        rw [x15] at q1
        cases q1
        rw [ct15.out] at q5
        exact (umarkStringS_any n15 (((((((((((((((kq + 1) + 1) + 1) + 1) + 1) + 1) + cnt c6) + 1) + 1) + 1) + cnt c10) + cnt c11) + 1) + 1) + 1) c15 _ T wx g15 q3 (by omega) (by omega) q2).mono fun e1 w' h => ⟨h.1, q5 w' h.2.2 h.2.1⟩
      have HC16 : Hid (∀ (wx : World) (x : Int), MS w wx e 17 n (.slice (some ⟨g, 0, none⟩) n cap) g cs k0 S1 xs0 (q * 17 + 16) → x = ((((((((((((((((((kq + 1) + 1) + 1) + 1) + 1) + 1) + cnt c6) + 1) + 1) + 1) + cnt c10) + cnt c11) + 1) + 1) + 1) + cnt c15) : Nat) : Int) → Calls Tryz.prog 104 #[.slice a16 n16 p16, .int .i64 x] wx fun e1 w' => e1 = .returned (.int .i64 ((((((((((((((((((kq + 1) + 1) + 1) + 1) + 1) + 1) + cnt c6) + 1) + 1) + 1) + cnt c10) + cnt c11) + 1) + 1) + 1) + cnt c15) + cnt c16 : Nat))) ∧ Hid (MS w w' e 17 n (.slice (some ⟨g, 0, none⟩) n cap) g cs k0 S1 xs0 (q * 17 + 17))) := by
        intro wx x h hxx
        rw [hxx]
        obtain ⟨c', T, q1, q2, q3, q5⟩ := h.part at16
        rw [x16] at q1
        cases q1
        rw [ct16.out] at q5
        exact (umarkValueS_any n16 ((((((((((((((((kq + 1) + 1) + 1) + 1) + 1) + 1) + cnt c6) + 1) + 1) + 1) + cnt c10) + cnt c11) + 1) + 1) + 1) + cnt c15) c16 _ T wx g16 q3 (by omega) (by omega) q2).mono fun e1 w' h => ⟨h.1, q5 w' h.2.2 h.2.1⟩
      have NN0 : Hid (q * 17 < n * 17) := by show _ < _; omega
      have NN1 : Hid (q * 17 + 1 < n * 17) := by show _ < _; omega
      have NN2 : Hid (q * 17 + 2 < n * 17) := by show _ < _; omega
      have NN3 : Hid (q * 17 + 3 < n * 17) := by show _ < _; omega
      have NN4 : Hid (q * 17 + 4 < n * 17) := by show _ < _; omega
      have NN5 : Hid (q * 17 + 5 < n * 17) := by show _ < _; omega
      have HQ6 : Hid (∀ wx, MS w wx e 17 n (.slice (some ⟨g, 0, none⟩) n cap) g cs k0 S1 xs0 (q * 17 + 6) → wx.cell? ⟨g, q * 17 + 6, none⟩ = some (.slice a6 n6 p6)) := fun wx h => h.cellAt _ _ (by omega) x6 (by omega)
      have NN6 : Hid (q * 17 + 6 < n * 17) := by show _ < _; omega
      have NN7 : Hid (q * 17 + 7 < n * 17) := by show _ < _; omega
      have NN8 : Hid (q * 17 + 8 < n * 17) := by show _ < _; omega
      have NN9 : Hid (q * 17 + 9 < n * 17) := by show _ < _; omega
      have HQ10 : Hid (∀ wx, MS w wx e 17 n (.slice (some ⟨g, 0, none⟩) n cap) g cs k0 S1 xs0 (q * 17 + 10) → wx.cell? ⟨g, q * 17 + 10, none⟩ = some (.slice a10 n10 p10)) := fun wx h => h.cellAt _ _ (by omega) x10 (by omega)
      have NN10 : Hid (q * 17 + 10 < n * 17) := by show _ < _; omega
      have HQ11 : Hid (∀ wx, MS w wx e 17 n (.slice (some ⟨g, 0, none⟩) n cap) g cs k0 S1 xs0 (q * 17 + 11) → wx.cell? ⟨g, q * 17 + 11, none⟩ = some (.slice a11 n11 p11)) := fun wx h => h.cellAt _ _ (by omega) x11 (by omega)
      have NN11 : Hid (q * 17 + 11 < n * 17) := by show _ < _; omega
      have NN12 : Hid (q * 17 + 12 < n * 17) := by show _ < _; omega
      have NN13 : Hid (q * 17 + 13 < n * 17) := by show _ < _; omega
      have NN14 : Hid (q * 17 + 14 < n * 17) := by show _ < _; omega
      have HQ15 : Hid (∀ wx, MS w wx e 17 n (.slice (some ⟨g, 0, none⟩) n cap) g cs k0 S1 xs0 (q * 17 + 15) → wx.cell? ⟨g, q * 17 + 15, none⟩ = some (.slice a15 n15 p15)) := fun wx h => h.cellAt _ _ (by omega) x15 (by omega)
      have NN15 : Hid (q * 17 + 15 < n * 17) := by show _ < _; omega
      have HQ16 : Hid (∀ wx, MS w wx e 17 n (.slice (some ⟨g, 0, none⟩) n cap) g cs k0 S1 xs0 (q * 17 + 16) → wx.cell? ⟨g, q * 17 + 16, none⟩ = some (.slice a16 n16 p16)) := fun wx h => h.cellAt _ _ (by omega) x16 (by omega)
      have NN16 : Hid (q * 17 + 16 < n * 17) := by show _ < _; omega
      have HN : Hid (∀ wx, MS w wx e 17 n (.slice (some ⟨g, 0, none⟩) n cap) g cs k0 S1 xs0 (q * 17 + 17) → MS w wx e 17 n (.slice (some ⟨g, 0, none⟩) n cap) g cs k0 S1 xs0 ((q + 1) * 17)) := fun wx h => by rw [show q * 17 + 17 = (q + 1) * 17 by omega] at h; exact h
      have HE := hend
      rw [hk1q.out]
      clear hR htr hend hk1q Ht Hkk Hp0 Hl0 g0 g1 g2 g3 g4 g6 g7 g8 g9 g10 g11 g12 g13 g14 g15 g16 at0 at1 at2 at3 at4 at5 at6 at7 at8 at9 at10 at11 at12 at13 at14 at15 at16 ct0 ct1 ct2 ct3 ct4 ct5 ct6 ct7 ct8 ct9 ct10 ct11 ct12 ct13 ct14 ct15 ct16 x6 x10 x11 x15 x16
      generalize umtx (kq + 1) = M1 at *
      generalize cnt c6 = m6 at *
      generalize umtx ((((((((kq + 1) + 1) + 1) + 1) + 1) + 1) + m6) + 1) = M8 at *
      generalize cnt c10 = m10 at *
      generalize cnt c11 = m11 at *
      generalize umtx (((((((((((((kq + 1) + 1) + 1) + 1) + 1) + 1) + m6) + 1) + 1) + 1) + m10) + m11) + 1) = M13 at *
      generalize cnt c15 = m15 at *
      generalize cnt c16 = m16 at *
      have EB5 : ((((((((kq + 1) + 1) + 1) + 1) + 1) : Nat) : Int) % 3 == 0) = ((((((kq + 1) + 1) + 1) + 1) + 1) % 3 == 0) := by rw [Bool.eq_iff_iff, beq_iff_eq, beq_iff_eq]; omega
      push_cast at EB5
      replace EB5 := uhide EB5
      go_wp2_with (first
        | ((with_reducible refine wpList_store_v ?qqg291 3 ?qqx291 ?qqy291 ?qqo291 ?qqd291 g (q * 17) ?qqh291 (.int .i64 (kq : Nat)) ?qqv291 one_int Tryz.zObj_int (HM.out.there _ NN0.out) ?_); (case qqg291 => rfl); (case qqo291 => rfl); (case qqd291 => rfl); (case qqh291 => simp [Act.eval, Act.put]); (case qqv291 => first | (simp; done) | (simp [Act.eval]; done) | (simp [Act.eval]; omega) | (simp only [Act.put]; simp; done) | (simp only [Act.put]; simp [Act.eval]; done) | (simp only [Act.put]; simp [Act.eval]; omega) | (simp [Act.eval, Bool.eq_iff_iff]; omega)); intro wy ey; replace HM := uhide (HP0.out _ wy _ HM.out rfl ey); clear ey)
        )
      refine (HT1.out _ _ (by omega)).mono ?_
      rintro e1 w1 ⟨rfl, hb1⟩
      replace HM := uhide (HM.out.below hb1)
      clear hb1
      go_wp2_with (first
        | ((with_reducible refine wpList_store_v ?qqg298 9 ?qqx298 ?qqy298 ?qqo298 ?qqd298 g (q * 17 + 1) ?qqh298 (.string M1) ?qqv298 one_string Tryz.zObj_string (HM.out.there _ NN1.out) ?_); (case qqg298 => rfl); (case qqo298 => rfl); (case qqd298 => rfl); (case qqh298 => simp [Act.eval, Act.put]); (case qqv298 => first | (simp; done) | (simp [Act.eval]; done) | (simp [Act.eval]; omega) | (simp only [Act.put]; simp; done) | (simp only [Act.put]; simp [Act.eval]; done) | (simp only [Act.put]; simp [Act.eval]; omega) | (simp [Act.eval, Bool.eq_iff_iff]; omega)); intro wy ey; replace HM := uhide (HP1.out _ wy _ HM.out rfl ey); clear ey)
        | ((with_reducible refine wpList_store_v ?qqg299 3 ?qqx299 ?qqy299 ?qqo299 ?qqd299 g (q * 17 + 2) ?qqh299 (.int .i64 (((kq + 1) + 1) : Nat)) ?qqv299 one_int Tryz.zObj_int (HM.out.there _ NN2.out) ?_); (case qqg299 => rfl); (case qqo299 => rfl); (case qqd299 => rfl); (case qqh299 => simp [Act.eval, Act.put]); (case qqv299 => first | (simp; done) | (simp [Act.eval]; done) | (simp [Act.eval]; omega) | (simp only [Act.put]; simp; done) | (simp only [Act.put]; simp [Act.eval]; done) | (simp only [Act.put]; simp [Act.eval]; omega) | (simp [Act.eval, Bool.eq_iff_iff]; omega)); intro wy ey; replace HM := uhide (HP2.out _ wy _ HM.out rfl ey); clear ey)
        | ((with_reducible refine wpList_store_v ?qqg300 3 ?qqx300 ?qqy300 ?qqo300 ?qqd300 g (q * 17 + 3) ?qqh300 (.int .i64 ((((kq + 1) + 1) + 1) : Nat)) ?qqv300 one_int Tryz.zObj_int (HM.out.there _ NN3.out) ?_); (case qqg300 => rfl); (case qqo300 => rfl); (case qqd300 => rfl); (case qqh300 => simp [Act.eval, Act.put]); (case qqv300 => first | (simp; done) | (simp [Act.eval]; done) | (simp [Act.eval]; omega) | (simp only [Act.put]; simp; done) | (simp only [Act.put]; simp [Act.eval]; done) | (simp only [Act.put]; simp [Act.eval]; omega) | (simp [Act.eval, Bool.eq_iff_iff]; omega)); intro wy ey; replace HM := uhide (HP3.out _ wy _ HM.out rfl ey); clear ey)
        | ((with_reducible refine wpList_store_v ?qqg301 3 ?qqx301 ?qqy301 ?qqo301 ?qqd301 g (q * 17 + 4) ?qqh301 (.int .i64 (((((kq + 1) + 1) + 1) + 1) : Nat)) ?qqv301 one_int Tryz.zObj_int (HM.out.there _ NN4.out) ?_); (case qqg301 => rfl); (case qqo301 => rfl); (case qqd301 => rfl); (case qqh301 => simp [Act.eval, Act.put]); (case qqv301 => first | (simp; done) | (simp [Act.eval]; done) | (simp [Act.eval]; omega) | (simp only [Act.put]; simp; done) | (simp only [Act.put]; simp [Act.eval]; done) | (simp only [Act.put]; simp [Act.eval]; omega) | (simp [Act.eval, Bool.eq_iff_iff]; omega)); intro wy ey; replace HM := uhide (HP4.out _ wy _ HM.out rfl ey); clear ey)
        | ((with_reducible refine wpList_store_v ?qqg302 4 ?qqx302 ?qqy302 ?qqo302 ?qqd302 g (q * 17 + 5) ?qqh302 (.bool ((((((kq + 1) + 1) + 1) + 1) + 1) % 3 == 0)) ?qqv302 one_bool Tryz.zObj_bool (HM.out.there _ NN5.out) ?_); (case qqg302 => rfl); (case qqo302 => rfl); (case qqd302 => rfl); (case qqh302 => simp [Act.eval, Act.put]); (case qqv302 => first | exact congrArg Value.bool EB5.out | rfl); intro wy ey; replace HM := uhide (HP5.out _ wy _ HM.out rfl ey); clear ey)
        | ((with_reducible refine wpList_load_one ?qqg303 23 ?qqx303 ?qqo303 g (q * 17 + 6) ?qqh303 (.slice a6 n6 p6) Tryz.rObj_Lstring (HQ6.out _ HM.out) ?_); (case qqg303 => rfl); (case qqo303 => rfl); (case qqh303 => simp [Act.eval, Act.put]))
        )
      refine (HC6.out _ _ HM.out (by omega)).mono ?_
      rintro e1 w2 ⟨rfl, HM2⟩
      replace HM := HM2
      go_wp2_with (first
        | ((with_reducible refine wpList_store_v ?qqg309 3 ?qqx309 ?qqy309 ?qqo309 ?qqd309 g (q * 17 + 7) ?qqh309 (.int .i64 ((((((((kq + 1) + 1) + 1) + 1) + 1) + 1) + m6) : Nat)) ?qqv309 one_int Tryz.zObj_int (HM.out.there _ NN7.out) ?_); (case qqg309 => rfl); (case qqo309 => rfl); (case qqd309 => rfl); (case qqh309 => simp [Act.eval, Act.put]); (case qqv309 => first | (simp; done) | (simp [Act.eval]; done) | (simp [Act.eval]; omega) | (simp only [Act.put]; simp; done) | (simp only [Act.put]; simp [Act.eval]; done) | (simp only [Act.put]; simp [Act.eval]; omega) | (simp [Act.eval, Bool.eq_iff_iff]; omega)); intro wy ey; replace HM := uhide (HP7.out _ wy _ HM.out rfl ey); clear ey)
        )
      refine (HT8.out _ _ (by omega)).mono ?_
      rintro e1 w3 ⟨rfl, hb3⟩
      replace HM := uhide (HM.out.below hb3)
      clear hb3
      go_wp2_with (first
        | ((with_reducible refine wpList_store_v ?qqg316 9 ?qqx316 ?qqy316 ?qqo316 ?qqd316 g (q * 17 + 8) ?qqh316 (.string M8) ?qqv316 one_string Tryz.zObj_string (HM.out.there _ NN8.out) ?_); (case qqg316 => rfl); (case qqo316 => rfl); (case qqd316 => rfl); (case qqh316 => simp [Act.eval, Act.put]); (case qqv316 => first | (simp; done) | (simp [Act.eval]; done) | (simp [Act.eval]; omega) | (simp only [Act.put]; simp; done) | (simp only [Act.put]; simp [Act.eval]; done) | (simp only [Act.put]; simp [Act.eval]; omega) | (simp [Act.eval, Bool.eq_iff_iff]; omega)); intro wy ey; replace HM := uhide (HP8.out _ wy _ HM.out rfl ey); clear ey)
        | ((with_reducible refine wpList_store_v ?qqg317 3 ?qqx317 ?qqy317 ?qqo317 ?qqd317 g (q * 17 + 9) ?qqh317 (.int .i64 ((((((((((kq + 1) + 1) + 1) + 1) + 1) + 1) + m6) + 1) + 1) : Nat)) ?qqv317 one_int Tryz.zObj_int (HM.out.there _ NN9.out) ?_); (case qqg317 => rfl); (case qqo317 => rfl); (case qqd317 => rfl); (case qqh317 => simp [Act.eval, Act.put]); (case qqv317 => first | (simp; done) | (simp [Act.eval]; done) | (simp [Act.eval]; omega) | (simp only [Act.put]; simp; done) | (simp only [Act.put]; simp [Act.eval]; done) | (simp only [Act.put]; simp [Act.eval]; omega) | (simp [Act.eval, Bool.eq_iff_iff]; omega)); intro wy ey; replace HM := uhide (HP9.out _ wy _ HM.out rfl ey); clear ey)
        | ((with_reducible refine wpList_load_one ?qqg318 23 ?qqx318 ?qqo318 g (q * 17 + 10) ?qqh318 (.slice a10 n10 p10) Tryz.rObj_Lstring (HQ10.out _ HM.out) ?_); (case qqg318 => rfl); (case qqo318 => rfl); (case qqh318 => simp [Act.eval, Act.put]))
        )
      refine (HC10.out _ _ HM.out (by omega)).mono ?_
      rintro e1 w4 ⟨rfl, HM2⟩
      replace HM := HM2
      go_wp2_with (first
        | ((with_reducible refine wpList_load_one ?qqg324 88 ?qqx324 ?qqo324 g (q * 17 + 11) ?qqh324 (.slice a11 n11 p11) Tryz.rObj_Limpl_Value (HQ11.out _ HM.out) ?_); (case qqg324 => rfl); (case qqo324 => rfl); (case qqh324 => simp [Act.eval, Act.put]))
        )
      refine (HC11.out _ _ HM.out (by omega)).mono ?_
      rintro e1 w5 ⟨rfl, HM2⟩
      replace HM := HM2
      go_wp2_with (first
        | ((with_reducible refine wpList_store_v ?qqg330 3 ?qqx330 ?qqy330 ?qqo330 ?qqd330 g (q * 17 + 12) ?qqh330 (.int .i64 (((((((((((((kq + 1) + 1) + 1) + 1) + 1) + 1) + m6) + 1) + 1) + 1) + m10) + m11) : Nat)) ?qqv330 one_int Tryz.zObj_int (HM.out.there _ NN12.out) ?_); (case qqg330 => rfl); (case qqo330 => rfl); (case qqd330 => rfl); (case qqh330 => simp [Act.eval, Act.put]); (case qqv330 => first | (simp; done) | (simp [Act.eval]; done) | (simp [Act.eval]; omega) | (simp only [Act.put]; simp; done) | (simp only [Act.put]; simp [Act.eval]; done) | (simp only [Act.put]; simp [Act.eval]; omega) | (simp [Act.eval, Bool.eq_iff_iff]; omega)); intro wy ey; replace HM := uhide (HP12.out _ wy _ HM.out rfl ey); clear ey)
        )
      refine (HT13.out _ _ (by omega)).mono ?_
      rintro e1 w6 ⟨rfl, hb6⟩
      replace HM := uhide (HM.out.below hb6)
      clear hb6
      go_wp2_with (first
        | ((with_reducible refine wpList_store_v ?qqg337 9 ?qqx337 ?qqy337 ?qqo337 ?qqd337 g (q * 17 + 13) ?qqh337 (.string M13) ?qqv337 one_string Tryz.zObj_string (HM.out.there _ NN13.out) ?_); (case qqg337 => rfl); (case qqo337 => rfl); (case qqd337 => rfl); (case qqh337 => simp [Act.eval, Act.put]); (case qqv337 => first | (simp; done) | (simp [Act.eval]; done) | (simp [Act.eval]; omega) | (simp only [Act.put]; simp; done) | (simp only [Act.put]; simp [Act.eval]; done) | (simp only [Act.put]; simp [Act.eval]; omega) | (simp [Act.eval, Bool.eq_iff_iff]; omega)); intro wy ey; replace HM := uhide (HP13.out _ wy _ HM.out rfl ey); clear ey)
        | ((with_reducible refine wpList_store_v ?qqg338 3 ?qqx338 ?qqy338 ?qqo338 ?qqd338 g (q * 17 + 14) ?qqh338 (.int .i64 (((((((((((((((kq + 1) + 1) + 1) + 1) + 1) + 1) + m6) + 1) + 1) + 1) + m10) + m11) + 1) + 1) : Nat)) ?qqv338 one_int Tryz.zObj_int (HM.out.there _ NN14.out) ?_); (case qqg338 => rfl); (case qqo338 => rfl); (case qqd338 => rfl); (case qqh338 => simp [Act.eval, Act.put]); (case qqv338 => first | (simp; done) | (simp [Act.eval]; done) | (simp [Act.eval]; omega) | (simp only [Act.put]; simp; done) | (simp only [Act.put]; simp [Act.eval]; done) | (simp only [Act.put]; simp [Act.eval]; omega) | (simp [Act.eval, Bool.eq_iff_iff]; omega)); intro wy ey; replace HM := uhide (HP14.out _ wy _ HM.out rfl ey); clear ey)
        | ((with_reducible refine wpList_load_one ?qqg339 23 ?qqx339 ?qqo339 g (q * 17 + 15) ?qqh339 (.slice a15 n15 p15) Tryz.rObj_Lstring (HQ15.out _ HM.out) ?_); (case qqg339 => rfl); (case qqo339 => rfl); (case qqh339 => simp [Act.eval, Act.put]))
        )
      refine (HC15.out _ _ HM.out (by omega)).mono ?_
      rintro e1 w7 ⟨rfl, HM2⟩
      replace HM := HM2
      go_wp2_with (first
        | ((with_reducible refine wpList_load_one ?qqg345 88 ?qqx345 ?qqo345 g (q * 17 + 16) ?qqh345 (.slice a16 n16 p16) Tryz.rObj_Limpl_Value (HQ16.out _ HM.out) ?_); (case qqg345 => rfl); (case qqo345 => rfl); (case qqh345 => simp [Act.eval, Act.put]))
        )
      refine (HC16.out _ _ HM.out (by omega)).mono ?_
      rintro e1 w8 ⟨rfl, HM2⟩
      replace HM := HM2
      go_wp2
      go_roundw
      case rel => exact ⟨q + 1, by omega, by go_num, by rw [HE.out]; go_num, HN.out _ HM.out⟩
      case measure => (simp [intOf]; omega)
    · have e : q = n := by omega
      subst e
      obtain ⟨h1, h2⟩ := HM.out.done (by decide)
      have HD := uhide (And.intro h1 h2)
      have hl : cs.takeN (q * 17) = cs := by apply UD.ext; unfold UD.takeN; rw [UD.toL_ofL]; exact List.take_of_length_le (Nat.le_of_eq Ht.out.2.2.2.1)
      rw [hl]
      clear h1 h2 hl HM Ht Hp0 Hl0 Hkk
      go_wp2
      go_ret
      exact ⟨rfl, HD.out⟩
end Go.Proofs.YtdnodaoeflbfkaaGreat
