/- Data as cells: marking them cell by cell; structs in their blocks. -/
import Derived.Test.YtdnodaoeflbfkaaU1
namespace Go.Proofs.Ytdnodaoeflbfkaa
open Go.RowKit
set_option linter.unusedVariables false

/-- where the marking of a slice's cells stands: those before i are marked -/
def MS (w0 w : World) (e : TypeId) (k n : Nat) (c : Value) (g : Nat) (cs : UD) (j0 : Nat) (S : List Nat) (xs0 : List Value) (i : Nat) : Prop :=
  ∃ xs, w.ownsRow 0 e k c n xs ∧ oH w (mixU cs j0 i) xs S ∧ OutS (g :: S) w0 w ∧ (∀ p, i ≤ p → xs[p]? = xs0[p]?) ∧ g ∉ S ∧ S.Nodup ∧ c.ownBlock = some g ∧ cs.len = n * k
theorem blkOf_some {c : Value} {g : Nat} (h : c.ownBlock = some g) : blkOf c = [g] := by unfold blkOf; rw [h]
theorem MS.below {w0 w w' : World} {e : TypeId} {k n : Nat} {c : Value} {g : Nat} {cs : UD} {j0 : Nat} {S : List Nat} {xs0 : List Value} {i : Nat} (h : MS w0 w e k n c g cs j0 S xs0 i) (hb : Below w.heap.size w w') : MS w0 w' e k n c g cs j0 S xs0 i := by
  obtain ⟨xs, h1, h2, h3, h4, h5, h6, h7, h8⟩ := h
  exact ⟨xs, uowns_frame h1 (fun x hx => hb.block x (ublk_lt h1 x hx).2), h2.below hb, h3.trans (OutS.of_below hb), h4, h5, h6, h7, h8⟩
theorem MS.own {w0 w : World} {e : TypeId} {k n : Nat} {c : Value} {g : Nat} {cs : UD} {j0 : Nat} {S : List Nat} {xs0 : List Value} {i : Nat} (h : MS w0 w e k n c g cs j0 S xs0 i) : ∃ cap, c = .slice (some ⟨g, 0, none⟩) n cap ∧ g < w.heap.size := by
  obtain ⟨xs, h1, h2, h3, h4, h5, h6, h7, h8⟩ := h
  have hl := uowns_blk h1 h7
  rcases h1.2 with ⟨rfl, _⟩ | ⟨g', cap, cur, rfl, _⟩
  · cases h7
  · cases h7; exact ⟨cap, rfl, hl.2⟩
theorem MS.cellAt {w0 w : World} {e : TypeId} {k n : Nat} {cap : Nat} {g : Nat} {cs : UD} {j0 : Nat} {S : List Nat} {xs0 : List Value} {i : Nat} (h : MS w0 w e k n (.slice (some ⟨g, 0, none⟩) n cap) g cs j0 S xs0 i) (p : Nat) (v : Value) (hp : i ≤ p) (hv : xs0[p]? = some v) (hn : p < n * k) : w.cell? ⟨g, p, none⟩ = some v := by
  obtain ⟨xs, h1, h2, h3, h4, h5, h6, h7, h8⟩ := h
  rw [h1.cellAt p hn, h4 p hp, hv]
theorem MS.fz {w0 w : World} {e : TypeId} {k n : Nat} {cap : Nat} {g : Nat} {cs : UD} {j0 : Nat} {S : List Nat} {xs0 : List Value} {i : Nat} (h : MS w0 w e k n (.slice (some ⟨g, 0, none⟩) n cap) g cs j0 S xs0 i) (p : Nat) : w.frozen? ⟨g, p, none⟩ = false := by
  obtain ⟨xs, h1, _⟩ := h
  exact h1.frozenAt p
theorem MS.plain {w0 w : World} {e : TypeId} {k n : Nat} {cap : Nat} {g : Nat} {cs : UD} {j0 : Nat} {S : List Nat} {xs0 : List Value} {i : Nat} (h : MS w0 w e k n (.slice (some ⟨g, 0, none⟩) n cap) g cs j0 S xs0 i) {v u : Value} (he : cs.at? i = some (.p v)) (hu : u = mkP (j0 + cnt (cs.takeN i)) v) : MS w0 (w.setCell ⟨g, i, none⟩ u) e k n (.slice (some ⟨g, 0, none⟩) n cap) g cs j0 S xs0 (i + 1) := by
  obtain ⟨xs, h1, h2, h3, h4, h5, h6, h7, h8⟩ := h
  refine ⟨xs.set i u, (h1.stored i u).1, ?_, h3.setCell (p := ⟨g, i, none⟩) (by simp) u, fun p hp => ?_, h5, h6, h7, h8⟩
  · have h9 := (h2.outS (T := [g]) ((OutS.refl _ _).setCell (p := ⟨g, i, none⟩) (by simp) u) (fun x hx hx' => h5 (by simp at hx'; exact hx' ▸ hx))).set i v u (by rw [mixU_get _ _ _ _ (Nat.le_refl _)]; exact he)
    have h10 : (mixU cs j0 i).setAt i (.p (mkP (j0 + cnt (cs.takeN i)) v)) = _ := mixU_succ cs j0 i (.p v) he
    rw [← hu] at h10
    rw [← h10]; exact h9
  · rw [List.getElem?_set_ne (by omega)]; exact h4 p (by omega)
theorem MS.part {w0 w : World} {e : TypeId} {k n : Nat} {c : Value} {g : Nat} {cs : UD} {j0 : Nat} {S : List Nat} {xs0 : List Value} {i : Nat} (h : MS w0 w e k n c g cs j0 S xs0 i) {k' n' : Nat} {cs' : UD} (he : cs.at? i = some (.l k' n' cs')) :
    ∃ c' T, xs0[i]? = some c' ∧ oS w k' n' cs' c' T ∧ T.Nodup ∧ ∀ w', OutS T w w' → oS w' k' n' (mk cs' (j0 + cnt (cs.takeN i))) c' T → MS w0 w' e k n c g cs j0 S xs0 (i + 1) := by
  obtain ⟨xs, h1, h2, h3, h4, h5, h6, h7, h8⟩ := h
  obtain ⟨c', T, g1, g2, g3, g4, g5⟩ := h2.part h6 i k' n' cs' (by rw [mixU_get _ _ _ _ (Nat.le_refl _)]; exact he)
  refine ⟨c', T, by rw [← h4 i (Nat.le_refl _)]; exact g1, g2, g3, fun w' ho hc => ⟨xs, uowns_frame h1 (fun x hx => ?_), ?_, h3.trans (ho.mono (fun t ht => List.mem_cons_of_mem _ (g4 t ht))), fun p hp => h4 p (by omega), h5, h6, h7, h8⟩⟩
  · refine ho.block x (ublk_lt h1 x hx).2 (fun hT => h5 ?_)
    rw [blkOf_some h7] at hx
    simp at hx
    rw [← hx]; exact g4 x hT
  · have h10 := mixU_succ cs j0 i (.l k' n' cs') he
    unfold mkE at h10
    rw [← h10]; exact g5 w' _ ho hc
theorem oH.at_p {w : World} : ∀ {d : UD} {xs : List Value} {S : List Nat} (h : oH w d xs S) (i : Nat) (v : Value), d.at? i = some (.p v) → xs[i]? = some v
  | .nil, _, _, h, i, v, e => by simp [UD.at?, UD.toL] at e
  | .p x r, _, S, ⟨ys, q, h⟩, 0, v, e => by subst q; cases e; rfl
  | .l k n cs r, _, _, h, 0, v, e => by cases e
  | .p x r, _, S, ⟨ys, q, h⟩, i + 1, v, e => by subst q; exact oH.at_p h i v e
  | .l k n cs r, _, _, ⟨c, ys, S1, S2, q, eS, hk, h1, h3⟩, i + 1, v, e => by subst q; exact oH.at_p h3 i v e
theorem uowns_slice {w : World} {B n : Nat} {v : Value} {e : TypeId} {size : Nat} {xs : List Value} (h : w.ownsRow B e size v n xs) : ∃ a cap, v = .slice a n cap := by
  rcases h.2 with ⟨rfl, rfl⟩ | ⟨g', cap, cur, rfl, _⟩
  · exact ⟨_, _, rfl⟩
  · exact ⟨_, _, rfl⟩
theorem oH.at_l {w : World} : ∀ {d : UD} {xs : List Value} {S : List Nat} (h : oH w d xs S) (i k n : Nat) (cs : UD), d.at? i = some (.l k n cs) → ∃ a cap, xs[i]? = some (.slice a n cap)
  | .nil, _, _, h, i, k, n, cs, e => by simp [UD.at?, UD.toL] at e
  | .p x r, _, S, ⟨ys, q, h⟩, 0, k, n, cs, e => by cases e
  | .l k' n' cs' r, _, _, ⟨c, ys, S1, S2, q, eS, hk, ⟨t, zs, h1, h2⟩, h3⟩, 0, k, n, cs, e => by
    subst q; cases e
    obtain ⟨a, cap, rfl⟩ := uowns_slice h1
    exact ⟨a, cap, rfl⟩
  | .p x r, _, S, ⟨ys, q, h⟩, i + 1, k, n, cs, e => by subst q; exact oH.at_l h i k n cs e
  | .l k' n' cs' r, _, _, ⟨c, ys, S1, S2, q, eS, hk, h1, h3⟩, i + 1, k, n, cs, e => by subst q; exact oH.at_l h3 i k n cs e
theorem OutS.cell {T : List Nat} {a b : World} (h : OutS T a b) {p : Addr} (hp : p.block < a.heap.size) (hT : p.block ∉ T) : b.cell? p = a.cell? p := World.cell?_of_block (w := a) (h.block p.block hp hT)
/-- a struct within a struct: its own memory, and how another of the same shape comes in its place -/
theorem oH.split {w : World} : ∀ {a b : UD} {zs : List Value} {S : List Nat}, oH w (a.app b) zs S → ∃ xs ys S1 S2, zs = xs ++ ys ∧ S = S1 ++ S2 ∧ oH w a xs S1 ∧ oH w b ys S2
  | .nil, b, zs, S, h => ⟨[], zs, [], S, rfl, rfl, ⟨rfl, rfl⟩, by rw [UD.app_nil] at h; exact h⟩
  | .p v r, b, zs, S, h => by
    rw [UD.app_p] at h
    obtain ⟨ys, rfl, h⟩ := h
    obtain ⟨x1, y1, S1, S2, rfl, rfl, h1, h2⟩ := oH.split h
    exact ⟨v :: x1, y1, S1, S2, rfl, rfl, ⟨x1, rfl, h1⟩, h2⟩
  | .l k n cs r, b, zs, S, h => by
    rw [UD.app_l] at h
    obtain ⟨c, ys, T1, T2, rfl, rfl, hk, g, h⟩ := h
    obtain ⟨x1, y1, S1, S2, rfl, rfl, h1, h2⟩ := oH.split h
    exact ⟨c :: x1, y1, (blkOf c ++ T1) ++ S1, S2, rfl, by simp, ⟨c, x1, T1, S1, rfl, rfl, hk, g, h1⟩, h2⟩
theorem oH.mid {w : World} {a b c : UD} {zs : List Value} {S : List Nat} (h : oH w ((a.app b).app c) zs S) (hn : S.Nodup) : ∃ x1 ys x3 T, zs = (x1 ++ ys) ++ x3 ∧ x1.length = a.len ∧ oH w b ys T ∧ T.Nodup ∧ (∀ g ∈ T, g ∈ S) ∧ ∀ (w' : World) (b' : UD), OutS T w w' → oH w' b' ys T → oH w' ((a.app b').app c) zs S := by
  obtain ⟨x12, x3, S12, S3, rfl, rfl, h12, h3⟩ := oH.split h
  obtain ⟨x1, x2, S1, S2, rfl, rfl, h1, h2⟩ := oH.split h12
  have n1 := List.nodup_append.1 hn
  have n2 := List.nodup_append.1 n1.1
  refine ⟨x1, x2, x3, S2, rfl, h1.len, h2, n2.2.1, fun g hg => by simp [hg], fun w' b' ho hb => ?_⟩
  exact oH.app (oH.app (h1.outS ho (fun g hg hg' => n2.2.2 g hg g hg' rfl)) hb) (h3.outS ho (fun g hg hg' => n1.2.2 g (by simp [hg']) g hg rfl))
theorem MS.start {w : World} {k n : Nat} {cs : UD} {c : Value} {S : List Nat} (h : oS w k n cs c S) (hn : S.Nodup) (h0 : 0 < n) (j0 : Nat) : ∃ e g S1 xs0, MS w w e k n c g cs j0 S1 xs0 0 ∧ S = g :: S1 ∧ (∀ i v, cs.at? i = some (.p v) → xs0[i]? = some v) ∧ ∀ i k' n' cs', cs.at? i = some (.l k' n' cs') → ∃ a cap, xs0[i]? = some (.slice a n' cap) := by
  obtain ⟨hk, e, zs, S1, h1, h2, rfl⟩ := h
  obtain ⟨g, hg⟩ : ∃ g, c.ownBlock = some g := by
    rcases h1.2 with ⟨rfl, h⟩ | ⟨g', cap, cur, rfl, _⟩
    · omega
    · exact ⟨g', rfl⟩
  rw [blkOf_some hg] at hn ⊢
  have hnd := List.nodup_cons.1 hn
  exact ⟨e, g, S1, zs, ⟨zs, h1, by rw [mixU_zero]; exact h2, OutS.refl _ _, fun p _ => rfl, hnd.1, hnd.2, hg, by rw [← h2.len, h1.1]⟩, rfl, fun i v hv => h2.at_p i v hv, fun i k' n' cs' hv => h2.at_l i k' n' cs' hv⟩
theorem MS.done {w0 w : World} {e : TypeId} {k n : Nat} {c : Value} {g : Nat} {cs : UD} {j0 : Nat} {S : List Nat} {xs0 : List Value} (h : MS w0 w e k n c g cs j0 S xs0 (n * k)) (hk : 0 < k) : oS w k n (mk cs j0) c (g :: S) ∧ OutS (g :: S) w0 w := by
  obtain ⟨xs, h1, h2, h3, h4, h5, h6, h7, h8⟩ := h
  rw [← h8, mixU_all] at h2
  exact ⟨⟨hk, e, xs, S, h1, h2, by rw [blkOf_some h7]; rfl⟩, h3⟩
theorem oS.slice {w : World} {k n : Nat} {cs : UD} {c : Value} {S : List Nat} (h : oS w k n cs c S) : ∃ a cap, c = .slice a n cap := by
  obtain ⟨hk, e, zs, S1, h1, h2, rfl⟩ := h
  rcases h1.2 with ⟨rfl, rfl⟩ | ⟨g', cap, cur, rfl, _⟩
  · exact ⟨_, _, rfl⟩
  · exact ⟨_, _, rfl⟩
theorem oS.empty {w : World} {k n : Nat} {cs : UD} {c : Value} {S : List Nat} (h : oS w k n cs c S) (h0 : n = 0) (j : Nat) : mk cs j = cs ∧ cnt cs = 0 := by
  obtain ⟨hk, e, zs, S1, h1, h2, rfl⟩ := h
  have hl := h2.len
  rw [h1.1, h0, Nat.zero_mul] at hl
  cases cs with
  | nil => exact ⟨rfl, rfl⟩
  | p v r => rw [UD.len_p] at hl; omega
  | l k n cs r => rw [UD.len_l] at hl; omega
theorem uE_len (t : Nat) : (uE t).length ≤ 40 := by unfold uE; split <;> decide
theorem cntU_wt : ∀ (d : UD) (fs : List UF) (i : Nat), tyU d fs i → cnt d ≤ d.len + 40 * wt d
  | .nil, _, _, _ => Nat.zero_le _
  | .p v r, fs, i, h => by have := cntU_wt r fs (i + 1) h.2; rw [cnt, UD.len_p, wt]; omega
  | .l k n cs r, fs, i, ⟨⟨t, h1, h2, h3, h4, h5, h6⟩, h7⟩ => by
    have e1 := cntU_wt r fs (i + 1) h7
    have e2 := cntU_wt cs (uE t) 0 h6
    have e3 : n * k ≤ n * 40 := Nat.mul_le_mul_left n (by rw [h3]; exact uE_len t)
    rw [cnt, UD.len_l, wt]; omega
theorem cnt_wt {k n : Nat} {cs : UD} {t : Nat} (h : tyS k n cs t) : cnt cs ≤ 40 * (n + wt cs) := by
  obtain ⟨h2, h3, h4, h5, h6⟩ := h
  have e2 := cntU_wt cs (uE t) 0 h6
  have e3 : n * k ≤ n * 40 := Nat.mul_le_mul_left n (by rw [h3]; exact uE_len t)
  omega
theorem cntT_wt : ∀ {d : UD} {fs : List UF}, tyL d fs → cntT d ≤ 40 * wt d
  | .nil, _, _ => Nat.zero_le _
  | .p v r, _, ⟨f, fr, e, h1, h2⟩ => by have := cntT_wt h2; rw [cntT, wt]; omega
  | .l k n cs r, _, ⟨t, fr, e, h1, h2⟩ => by have := cntT_wt h2; have := cnt_wt h1; rw [cntT, wt]; omega
theorem cntT_le : ∀ (d : UD), cntT d ≤ cnt d
  | .nil => Nat.le_refl _
  | .p v r => by have := cntT_le r; rw [cntT, cnt]; omega
  | .l k n cs r => by have := cntT_le r; rw [cntT, cnt]; omega
theorem cnt_row (cs : UD) (k q : Nat) : cnt (cs.takeN ((q + 1) * k)) = cnt (cs.takeN (q * k)) + cnt (rowU cs k q) := by rw [UD.take_row, cnt_app]

/-- a struct in a block -/
def objU (w : World) (b : Nat) (t : TypeId) (xs : List Value) : Prop := w.heap[b]? = some (.cells xs.toArray t (0, 0))
theorem objU.outS {w w' : World} {b : Nat} {t : TypeId} {xs : List Value} {S : List Nat} (h : objU w b t xs) (ho : OutS S w w') (hb : b ∉ S) : objU w' b t xs := (ho.block b (Array.getElem?_eq_some_iff.1 h).1 hb).trans h
theorem objU.lt {w : World} {b : Nat} {t : TypeId} {xs : List Value} (h : objU w b t xs) : b < w.heap.size := (Array.getElem?_eq_some_iff.1 h).1
theorem objU.below {w w' : World} {b : Nat} {t : TypeId} {xs : List Value} (h : objU w b t xs) (hb : Below w.heap.size w w') : objU w' b t xs := (hb.block b h.lt).trans h
theorem objU.cell {w : World} {b : Nat} {t : TypeId} {xs : List Value} (h : objU w b t xs) (j : Nat) (v : Value) (hv : xs[j]? = some v) : w.cell? ⟨b, j, none⟩ = some v := by
  unfold objU at h
  simp only [World.cell?, h]
  simpa using hv
theorem objU.fz {w : World} {b : Nat} {t : TypeId} {xs : List Value} (h : objU w b t xs) (j : Nat) : w.frozen? ⟨b, j, none⟩ = false := by
  unfold objU at h
  simp [World.frozen?, h]
theorem objU.new (w : World) (t : TypeId) (xs : List Value) : objU (w.alloc (.cells xs.toArray t)) w.heap.size t xs := heap_alloc_new w _
theorem objU.new2 {w : World} {b : Nat} (t : TypeId) (xs : List Value) (hb : b = w.heap.size) : objU (w.alloc (.cells xs.toArray t)) b t xs := by subst hb; exact heap_alloc_new w _
theorem objU.old {w : World} {b : Nat} {t : TypeId} {xs : List Value} (h : objU w b t xs) (o : Obj) : objU (w.alloc o) b t xs := (Below.heap_alloc w o b h.lt).trans h
theorem objU.other {w : World} {b : Nat} {t : TypeId} {xs : List Value} (h : objU w b t xs) (p : Addr) (hp : b ≠ p.block) (v : Value) : objU (w.setCell p v) b t xs := (Below.heap_setCell w p v b hp).trans h
theorem objU.set {w : World} {b : Nat} {t : TypeId} {xs : List Value} (h : objU w b t xs) (j : Nat) (v : Value) : objU (w.setCell ⟨b, j, none⟩ v) b t (xs.set j v) := by
  unfold objU at h ⊢
  have hl := (Array.getElem?_eq_some_iff.1 h)
  obtain ⟨hb, he⟩ := hl
  simp only [World.setCell, Array.getElem?_modify, h]
  simp
theorem uwrap64 (x : Int) (h0 : -9223372036854775808 ≤ x) (h1 : x ≤ 9223372036854775807) : IntKind.i64.wrap x = x := by rw [IntKind.wrap_i64]; omega
theorem mkP_int (j : Nat) (z : Int) (h : j ≤ 1000000000) : mkP j (.int .i64 z) = .int .i64 (j : Int) := by show Value.int _ (IntKind.i64.wrap _) = _; rw [uwrap64 _ (by omega) (by omega)]
theorem mk_takeN : ∀ (d : UD) (j i : Nat), (mk d j).takeN i = mk (d.takeN i) j
  | d, j, 0 => rfl
  | .nil, j, i + 1 => rfl
  | .p v r, j, i + 1 => by rw [mk, UD.takeN_p, UD.takeN_p, mk, mk_takeN r]
  | .l k n cs r, j, i + 1 => by rw [mk, UD.takeN_l, UD.takeN_l, mk, mk_takeN r]
theorem mk_dropN : ∀ (d : UD) (j i : Nat), (mk d j).dropN i = mk (d.dropN i) (j + cnt (d.takeN i))
  | d, j, 0 => by rw [UD.dropN_zero, UD.dropN_zero]; rfl
  | .nil, j, i + 1 => by unfold UD.dropN UD.toL; rw [List.drop_nil]; rfl
  | .p v r, j, i + 1 => by rw [mk, UD.dropN_p, UD.dropN_p, UD.takeN_p, mk_dropN r, cnt]; congr 1; omega
  | .l k n cs r, j, i + 1 => by rw [mk, UD.dropN_l, UD.dropN_l, UD.takeN_l, mk_dropN r, cnt]; congr 1; omega
theorem mk_row (cs : UD) (j k q : Nat) : rowU (mk cs j) k q = mk (rowU cs k q) (j + cnt (cs.takeN (q * k))) := by unfold rowU; rw [mk_dropN, mk_takeN]
theorem cnt_at (cs : UD) (k q j : Nat) (hj : j ≤ k) : cnt (cs.takeN (q * k + j)) = cnt (cs.takeN (q * k)) + cnt ((rowU cs k q).takeN j) := by
  rw [← cnt_app]
  congr 1
  apply UD.ext
  rw [UD.app_toL]
  unfold rowU UD.takeN UD.dropN
  rw [UD.toL_ofL, UD.toL_ofL, UD.toL_ofL, UD.toL_ofL, UD.toL_ofL, List.take_take, Nat.min_eq_left hj, List.take_add]
def uszD : UD → Nat
  | .nil => 0
  | .p _ r => uszD r + 1
  | .l _ _ cs r => uszD cs + uszD r + 1
theorem uszD_app : ∀ (a b : UD), uszD (a.app b) = uszD a + uszD b
  | .nil, b => by rw [UD.app_nil]; simp [uszD]
  | .p v r, b => by rw [UD.app_p, uszD, uszD, uszD_app r b]; omega
  | .l k n cs r, b => by rw [UD.app_l, uszD, uszD, uszD_app r b]; omega
theorem uszD_row (cs : UD) (k q : Nat) : uszD (rowU cs k q) ≤ uszD cs := by
  have h1 := uszD_app (cs.takeN (q * k)) (cs.dropN (q * k))
  rw [UD.app_take_drop, UD.drop_row cs k q, uszD_app] at h1
  omega
theorem wt_row (cs : UD) (k q : Nat) : wt (rowU cs k q) ≤ wt cs := by
  have h1 := wt_app (cs.takeN (q * k)) (cs.dropN (q * k))
  rw [UD.app_take_drop, UD.drop_row cs k q, wt_app] at h1
  omega
theorem uM.hand {w : World} {lo hi b : Nat} : ∀ {d : UD} {o : Nat}, uM w lo hi d b o → ∃ xs, uH w lo hi d xs ∧ ∀ j c, xs[j]? = some c → w.cell? ⟨b, o + j, none⟩ = some c
  | .nil, o, h => ⟨[], rfl, fun j c e => by simp at e⟩
  | .p v r, o, h => by
    obtain ⟨ys, h1, h2⟩ := uM.hand (d := r) h.2
    refine ⟨v :: ys, ⟨ys, rfl, h1⟩, fun j c e => ?_⟩
    cases j with
    | zero => cases e; exact h.1
    | succ j => have := h2 j c (by simpa using e); rw [← this]; congr 2; omega
  | .l k n cs r, o, ⟨⟨a, cap, g0, g1⟩, g2⟩ => by
    obtain ⟨ys, h1, h2⟩ := uM.hand (d := r) g2
    refine ⟨_ :: ys, ⟨_, ys, rfl, ⟨a, cap, rfl, g1⟩, h1⟩, fun j c e => ?_⟩
    cases j with
    | zero => cases e; exact g0
    | succ j => have := h2 j c (by simpa using e); rw [← this]; congr 2; omega
theorem oH.nil (w : World) : oH w .nil [] [] := ⟨rfl, rfl⟩
theorem oH.consP {w : World} {r : UD} {ys : List Value} {S : List Nat} (v : Value) (h : oH w r ys S) : oH w (.p v r) (v :: ys) S := ⟨ys, rfl, h⟩
theorem oH.consS {w : World} {k n : Nat} {cs r : UD} {c : Value} {ys : List Value} {S1 S2 : List Nat} (h1 : oS w k n cs c S1) (h2 : oH w r ys S2) : oH w (.l k n cs r) (c :: ys) (S1 ++ S2) := by
  obtain ⟨hk, e, zs, S', g1, g2, rfl⟩ := h1
  exact ⟨c, ys, S', S2, rfl, rfl, hk, ⟨e, zs, g1, g2⟩, h2⟩
/-- memory of one's own, made since the heap had a blocks, all below b -/
def own2 (S : List Nat) (a b : Nat) : Prop := S.Nodup ∧ ∀ s ∈ S, a ≤ s ∧ s < b
theorem own2.nil (a b : Nat) : own2 [] a b := ⟨List.nodup_nil, fun s hs => by cases hs⟩
theorem own2.app {S T : List Nat} {a b c d : Nat} (h : own2 S a b) (k : own2 T c d) (hbc : b ≤ c) (hac : a ≤ c) (hbd : b ≤ d) : own2 (S ++ T) a d := by
  refine ⟨List.nodup_append.2 ⟨h.1, k.1, fun x hx y hy => ?_⟩, fun s hs => ?_⟩
  · have := h.2 x hx; have := k.2 y hy; omega
  · rcases List.mem_append.1 hs with hs | hs
    · have := h.2 s hs; omega
    · have := k.2 s hs; omega
theorem own2.mono {S : List Nat} {a b a' b' : Nat} (h : own2 S a b) (ha : a' ≤ a) (hb : b ≤ b') : own2 S a' b' := ⟨h.1, fun s hs => by have := h.2 s hs; omega⟩
theorem own2.not {S : List Nat} {a b x : Nat} (h : own2 S a b) (hx : x < a ∨ b ≤ x) : x ∉ S := fun g => by have := h.2 x g; omega
theorem own2.out {S : List Nat} {a b : Nat} {w w' : World} (h : own2 S a b) (ho : OutS S w w') : OutR a b w w' := ho.out h.2
theorem own2.below {S : List Nat} {a b B : Nat} {w w' : World} (h : own2 S a b) (ho : OutS S w w') (hB : B ≤ a) (hs : B ≤ w.heap.size) : Below B w w' := ho.below (fun t ht => by have := h.2 t ht; omega) hs
theorem oS.outs {w w' : World} {k n : Nat} {cs : UD} {c : Value} {S T : List Nat} (h : oS w k n cs c S) (ho : OutS T w w') {a b : Nat} (hS : own2 S a b) (hT : ∀ t ∈ T, t < a ∨ b ≤ t) : oS w' k n cs c S :=
  h.frame (fun g hg => ho.block g (h.lt g hg) (fun hx => by have := hS.2 g hg; have := hT g hx; omega))
theorem oH.outs {w w' : World} {d : UD} {xs : List Value} {S T : List Nat} (h : oH w d xs S) (ho : OutS T w w') {a b : Nat} (hS : own2 S a b) (hT : ∀ t ∈ T, t < a ∨ b ≤ t) : oH w' d xs S :=
  h.frame _ _ _ (fun g hg => ho.block g (h.lt _ _ _ g hg) (fun hx => by have := hS.2 g hg; have := hT g hx; omega))
/-! copying, row by row -/
def wSet (w : World) (g : Nat) : Nat → List Value → World
  | _, [] => w
  | i, y :: ys => wSet (w.setCell ⟨g, i, none⟩ y) g (i + 1) ys
def lSet (xs : List Value) : Nat → List Value → List Value
  | _, [] => xs
  | i, y :: ys => lSet (xs.set i y) (i + 1) ys
theorem lSet_len : ∀ (ys xs : List Value) (i : Nat), (lSet xs i ys).length = xs.length
  | [], xs, i => rfl
  | y :: ys, xs, i => by unfold lSet; rw [lSet_len ys, List.length_set]
theorem lSet_take : ∀ (ys xs : List Value) (i : Nat), i + ys.length ≤ xs.length → (lSet xs i ys).take (i + ys.length) = xs.take i ++ ys
  | [], xs, i, h => by unfold lSet; simp
  | y :: ys, xs, i, h => by
    unfold lSet
    rw [List.length_cons] at h ⊢
    rw [show i + (ys.length + 1) = (i + 1) + ys.length by omega, lSet_take ys (xs.set i y) (i + 1) (by rw [List.length_set]; omega), List.take_add_one, List.getElem?_set_self (by omega), List.take_set_of_le (Nat.le_refl _)]
    simp
theorem wSet_own {B : Nat} {e : TypeId} {k n cap g : Nat} : ∀ (ys xs : List Value) (i : Nat) {w : World}, w.ownsRow B e k (.slice (some ⟨g, 0, none⟩) n cap) n xs → (wSet w g i ys).ownsRow B e k (.slice (some ⟨g, 0, none⟩) n cap) n (lSet xs i ys)
  | [], xs, i, w, h => h
  | y :: ys, xs, i, w, h => wSet_own ys (xs.set i y) (i + 1) (h.stored i y).1
theorem wSet_out {g : Nat} : ∀ (ys : List Value) (i : Nat) (w : World), OutS [g] w (wSet w g i ys)
  | [], i, w => OutS.refl _ _
  | y :: ys, i, w => ((OutS.refl _ _).setCell (p := ⟨g, i, none⟩) (by simp) y).trans (wSet_out ys (i + 1) _)
/-- where the copying of a slice stands: q rows are copied -/
def TS (w0 w : World) (e : TypeId) (k n : Nat) (cs : UD) (q : Nat) : Prop :=
  ∃ xs S, w.ownsRow w0.heap.size e k (.slice (some ⟨w0.heap.size, 0, none⟩) n n) n xs ∧ oH w (cs.takeN (q * k)) (xs.take (q * k)) S ∧ S.Nodup ∧ (∀ s ∈ S, w0.heap.size < s) ∧ Below w0.heap.size w0 w
theorem TS.start {w0 w : World} {e : TypeId} {k n : Nat} {cs : UD} {xs : List Value} (h : w.ownsRow w0.heap.size e k (.slice (some ⟨w0.heap.size, 0, none⟩) n n) n xs) (hb : Below w0.heap.size w0 w) : TS w0 w e k n cs 0 :=
  ⟨xs, [], h, by rw [Nat.zero_mul]; exact ⟨rfl, rfl⟩, List.nodup_nil, fun s hs => (by cases hs), hb⟩
theorem TS.below {w0 w w' : World} {e : TypeId} {k n : Nat} {cs : UD} {q : Nat} (h : TS w0 w e k n cs q) (hb : Below w.heap.size w w') : TS w0 w' e k n cs q := by
  obtain ⟨xs, S, h1, h2, h3, h4, h5⟩ := h
  exact ⟨xs, S, uowns_frame h1 (fun x hx => hb.block x (ublk_lt h1 x hx).2), h2.below hb, h3, h4, h5.trans (hb.mono h5.size)⟩
theorem TS.bel {w0 w : World} {e : TypeId} {k n : Nat} {cs : UD} {q : Nat} (h : TS w0 w e k n cs q) : Below w0.heap.size w0 w := by
  obtain ⟨xs, S, h1, h2, h3, h4, h5⟩ := h; exact h5
theorem TS.cell {w0 w : World} {e : TypeId} {k n : Nat} {cs : UD} {q : Nat} (h : TS w0 w e k n cs q) (p : Nat) (hp : p < n * k) : ∃ v, w.cell? ⟨w0.heap.size, p, none⟩ = some v := by
  obtain ⟨xs, S, h1, h2, h3, h4, h5⟩ := h
  exact ⟨xs[p]'(by rw [h1.1]; exact hp), by rw [h1.cellAt p hp, List.getElem?_eq_getElem]⟩
theorem TS.fz {w0 w : World} {e : TypeId} {k n : Nat} {cs : UD} {q : Nat} (h : TS w0 w e k n cs q) (p : Nat) : w.frozen? ⟨w0.heap.size, p, none⟩ = false := by
  obtain ⟨xs, S, h1, _⟩ := h
  exact h1.frozenAt p
theorem TS.step {w0 w w2 : World} {e : TypeId} {k n : Nat} {cs : UD} {q : Nat} (h : TS w0 w e k n cs q) (hb : Below w.heap.size w w2) {ys : List Value} {T : List Nat} (ho : oH w2 (rowU cs k q) ys T) (hnd : T.Nodup) (hT : ∀ t ∈ T, w.heap.size ≤ t) (hl : cs.len = n * k) (hq : q < n) : TS w0 (wSet w2 w0.heap.size (q * k) ys) e k n cs (q + 1) := by
  have hh := h
  obtain ⟨xs, S, h1, h2, h3, h4, h5⟩ := hh
  have hS : ∀ s ∈ S, s < w.heap.size := h2.lt _ _ _
  replace h1 := uowns_frame h1 (fun x hx => hb.block x (ublk_lt h1 x hx).2)
  replace h2 := h2.below hb
  replace h5 := h5.trans (hb.mono h5.size)
  have hlen : ys.length = k := by rw [ho.len]; exact rowU_len cs k q n hl hq
  have hle : q * k + k ≤ n * k := by have := Nat.mul_le_mul_right k (show q + 1 ≤ n by omega); rw [Nat.succ_mul] at this; exact this
  have hg : w0.heap.size < w.heap.size := by
    obtain ⟨xs', S', h1', _⟩ := h
    exact (uowns_blk h1' rfl).2
  have hTg : ∀ t ∈ T, w0.heap.size < t := fun t ht => Nat.lt_of_lt_of_le hg (hT t ht)
  refine ⟨lSet xs (q * k) ys, S ++ T, wSet_own ys xs (q * k) h1, ?_, List.nodup_append.2 ⟨h3, hnd, fun a ha b hb' => by have := hS a ha; have := hT b hb'; omega⟩, fun s hs => ?_, ?_⟩
  · have e1 : (lSet xs (q * k) ys).take ((q + 1) * k) = xs.take (q * k) ++ ys := by
      rw [Nat.succ_mul]
      have := lSet_take ys xs (q * k) (by rw [hlen, h1.1]; exact hle)
      rw [hlen] at this
      exact this
    rw [e1, UD.take_row]
    exact oH.app (h2.outS (wSet_out ys _ _) (fun g hg' hx => by simp at hx; have := h4 g hg'; omega)) (ho.outS (wSet_out ys _ _) (fun g hg' hx => by simp at hx; have := hTg g hg'; omega))
  · rcases List.mem_append.1 hs with hs | hs
    · exact h4 s hs
    · exact hTg s hs
  · exact h5.trans ((wSet_out ys _ _).below (fun t ht => by simp at ht; omega) (by have := h5.size; omega))
theorem TS.done {w0 w : World} {e : TypeId} {k n : Nat} {cs : UD} (h : TS w0 w e k n cs n) (hk : 0 < k) (hl : cs.len = n * k) : ∃ S, oS w k n cs (.slice (some ⟨w0.heap.size, 0, none⟩) n n) S ∧ S.Nodup ∧ (∀ s ∈ S, w0.heap.size ≤ s) ∧ Below w0.heap.size w0 w := by
  obtain ⟨xs, S, h1, h2, h3, h4, h5⟩ := h
  have e1 : cs.takeN (n * k) = cs := by apply UD.ext; unfold UD.takeN; rw [UD.toL_ofL, ← hl]; exact List.take_of_length_le (Nat.le_refl _)
  rw [e1, ← h1.1, List.take_length] at h2
  refine ⟨w0.heap.size :: S, ⟨hk, e, xs, S, ⟨h1.1, ?_⟩, h2, rfl⟩, List.nodup_cons.2 ⟨fun hx => by have := h4 _ hx; omega, h3⟩, fun s hs => ?_, h5⟩
  · rcases h1.2 with hh | ⟨g, cap, cur, a1, a2, a3⟩
    · exact .inl hh
    · exact .inr ⟨g, cap, cur, a1, Nat.zero_le _, a3⟩
  · rcases List.mem_cons.1 hs with rfl | hs
    · exact Nat.le_refl _
    · have := h4 s hs; omega
end Go.Proofs.Ytdnodaoeflbfkaa
