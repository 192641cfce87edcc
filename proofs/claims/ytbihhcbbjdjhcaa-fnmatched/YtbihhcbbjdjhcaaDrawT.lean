import Derived.Test.YtbihhcbbjdjhcaaDrawM
import Derived.Deep.QuietTactic
import Derived.Laws.Rows
import Derived.Deep.RegionLaw
import Derived.Deep.AppendLies
namespace Go.Proofs.Ytbihhcbbjdjhcaa
open Go.RowKit Go.BigFrame
set_option linter.unusedVariables false
/-! a term that is drawn -/
theorem CurIn.frame {w w' : World} {d : Nat} {a : Option Addr} {n cap B : Nat} (c : CurIn w d a n cap) (hg : Below B w w') (hd : d < B) (hall : ∀ j, j < n → ∀ b off, a = some ⟨b, off, none⟩ → b < B) : CurIn w' d a n cap := by
  have hb : ∀ k, k < B → w'.heap[k]? = w.heap[k]? := fun k hk => hg.block k hk
  obtain ⟨i, h, c⟩ := c
  refine ⟨i, h, c.le, ?_, ?_, ?_, ?_, ?_, ?_⟩
  · exact (World.cell?_of_block (w := w) (a := ⟨d, 0, none⟩) (hb d hd)).trans c.c0
  · exact (World.cell?_of_block (w := w) (a := ⟨d, 1, none⟩) (hb d hd)).trans c.c1
  · exact (World.cell?_of_block (w := w) (a := ⟨d, 2, none⟩) (hb d hd)).trans c.c2
  · exact (World.frozen?_of_block (w := w) (a := ⟨d, 1, none⟩) (hb d hd)).trans c.f1
  · exact (World.frozen?_of_block (w := w) (a := ⟨d, 2, none⟩) (hb d hd)).trans c.f2
  · intro j hj
    obtain ⟨b, off, x, h1, h2, h3, h4⟩ := c.code j hj
    exact ⟨b, off, x, h1, h2, (World.cell?_of_block (w := w) (a := ⟨b, off + j, none⟩) (hb b (hall j hj b off h1))).trans h3, h4⟩
structure Trm (w : World) (t : Nat) (kd : Int) (K : ByteArray) (v : Value) : Prop where
  c0 : w.cell? ⟨t, 0, none⟩ = some (.int .i64 kd)
  c1 : w.cell? ⟨t, 1, none⟩ = some (.string K)
  c2 : w.cell? ⟨t, 2, none⟩ = some v
  f0 : w.frozen? ⟨t, 0, none⟩ = false
  f1 : w.frozen? ⟨t, 1, none⟩ = false
  f2 : w.frozen? ⟨t, 2, none⟩ = false
theorem Trm.lt {w : World} {t : Nat} {kd : Int} {K : ByteArray} {v : Value} (h : Trm w t kd K v) : t < w.heap.size := World.block_lt_of_cell? _ _ h.c0
theorem Trm.new (w : World) (kd : Int) (K : ByteArray) (v : Value) (T : TypeId) : Trm (w.alloc (.cells #[.int .i64 kd, .string K, v] T)) w.heap.size kd K v := by constructor <;> simp [go_sem]
theorem Trm.out {w w' : World} {lo hi t : Nat} {kd : Int} {K : ByteArray} {v : Value} (h : Trm w t kd K v) (hb : Out lo hi w w') (ht : t < lo ∨ hi ≤ t) : Trm w' t kd K v := by
  have hk := hb.block t h.lt ht
  exact ⟨(World.cell?_of_block (w := w) (a := ⟨t, 0, none⟩) hk).trans h.c0, (World.cell?_of_block (w := w) (a := ⟨t, 1, none⟩) hk).trans h.c1, (World.cell?_of_block (w := w) (a := ⟨t, 2, none⟩) hk).trans h.c2,
    (World.frozen?_of_block (w := w) (a := ⟨t, 0, none⟩) hk).trans h.f0, (World.frozen?_of_block (w := w) (a := ⟨t, 1, none⟩) hk).trans h.f1, (World.frozen?_of_block (w := w) (a := ⟨t, 2, none⟩) hk).trans h.f2⟩
theorem Trm.step {w w' : World} {o : Obj} {row : Option Nat} {t : Nat} {kd : Int} {K : ByteArray} {v : Value} (hg : (w.alloc o).drew.grownBy w' row) (hr : ∀ b, row = some b → b ≠ t) (h : Trm w t kd K v) : Trm w' t kd K v := by
  have h1 := h.out (Out.of_below (lo := 0) (hi := 0) ((Below.refl _ w).alloc (Nat.le_refl _) o)) (Or.inr (Nat.zero_le _))
  have hk : w'.heap[t]? = (w.alloc o).heap[t]? := hg.block t h1.lt (fun e => hr t e.symm rfl)
  exact ⟨(World.cell?_of_block (w := w.alloc o) (a := ⟨t, 0, none⟩) hk).trans h1.c0, (World.cell?_of_block (w := w.alloc o) (a := ⟨t, 1, none⟩) hk).trans h1.c1, (World.cell?_of_block (w := w.alloc o) (a := ⟨t, 2, none⟩) hk).trans h1.c2,
    (World.frozen?_of_block (w := w.alloc o) (a := ⟨t, 0, none⟩) hk).trans h1.f0, (World.frozen?_of_block (w := w.alloc o) (a := ⟨t, 1, none⟩) hk).trans h1.f1, (World.frozen?_of_block (w := w.alloc o) (a := ⟨t, 2, none⟩) hk).trans h1.f2⟩
theorem Trm.set {w : World} {t : Nat} {kd : Int} {K : ByteArray} {v : Value} (h : Trm w t kd K v) (u : Value) : Trm (w.setCell ⟨t, 2, none⟩ u) t kd K u := by
  obtain ⟨a0, a1, a2, f0, f1, f2⟩ := h
  constructor <;> simp [go_sem, a0, a1, a2, f0, f1, f2]
theorem Trm.set3 {w : World} {t : Nat} {kd : Int} {K : ByteArray} {v : Value} (h : Trm w t kd K v) (kd' : Int) (K' : ByteArray) (v' : Value) : Trm (((w.setCell ⟨t, 0, none⟩ (.int .i64 kd')).setCell ⟨t, 1, none⟩ (.string K')).setCell ⟨t, 2, none⟩ v') t kd' K' v' := by
  obtain ⟨a0, a1, a2, f0, f1, f2⟩ := h
  constructor <;> simp [go_sem, a0, a1, a2, f0, f1, f2]
theorem ret_trm {fn : Func} {Q : Ending → World → Prop} {tmps : Array Value} {W : World} {B k : Nat} {kd : Int} {K : ByteArray} {v : Value} (hr : fn.results = #[.cell k 33])
    (h4 : tmps.getD k undef = .pointer (some ⟨B, 0, none⟩)) (h : Trm W B kd K v) (hQ : Q (.returned (.agg #[.int .i64 kd, .string K, v])) W) :
    bodyPost Try.prog fn Q .ret ⟨tmps, []⟩ W := by
  obtain ⟨a0, a1, a2, f0, f1, f2⟩ := h
  refine bodyPost_ret (v := .agg #[.int .i64 kd, .string K, v]) ?_ rfl hQ
  have h5 : tmps[k]?.getD undef = .pointer (some ⟨B, 0, none⟩) := by simpa using h4
  simp [results, hr, h5, asAddr, go_sem, a0, a1, a2]
theorem Out.past {lo hi g : Nat} {a b c : World} (h : Out lo hi a b) (k : Out g (g + 1) b c) (hg : a.heap.size ≤ g) : Out lo hi a c :=
  ⟨k.os.trans h.os, k.tape.trans h.tape, k.output.trans h.output, Nat.le_trans h.size k.size, fun j hj hr => (k.block j (Nat.lt_of_lt_of_le hj h.size) (by omega)).trans (h.block j hj hr)⟩
theorem cell_one_new (w : World) (s : ByteArray) (t : TypeId) (j : Nat) (u : Value) (h : [Value.string s][j]? = some u) : (w.alloc (.cells #[.string s] t)).cell? ((⟨w.heap.size, 0, none⟩ : Addr).add j) = some u := by
  cases j with
  | zero => simp at h; subst h; simp [Addr.add, go_sem]
  | succ j => simp at h
theorem owns_grownT {w w' : World} {base g n cap : Nat} {e : TypeId} {size : Nat} {xs : List Value} {row : Option Nat} (h : w.ownsRow base e size (.slice (some ⟨g, 0, none⟩) n cap) n xs) (hg : w.grownBy w' row) (hne : row ≠ some g) :
    w'.ownsRow base e size (.slice (some ⟨g, 0, none⟩) n cap) n xs := by
  obtain ⟨h1, h2⟩ := h
  rcases h2 with ⟨h, _⟩ | ⟨g', cap', cur, h, hbs, hh, r⟩
  · cases h
  · cases h
    refine ⟨h1, .inr ⟨g, cap, cur, rfl, hbs, ?_, r⟩⟩
    rw [hg.block g (Array.getElem?_eq_some_iff.1 hh).1 (fun h => hne h.symm)]
    exact hh
/-- what was drawn: a kind, a key, a few values in a row from lo on -/
def goodT (kd : Int) (K : ByteArray) (vs : List ByteArray) : Prop := 1 ≤ kd ∧ kd ≤ 5 ∧ K.size ≤ 25 ∧ vs.length ≤ 8 ∧ ∀ s ∈ vs, s.size ≤ 25
def drawnT (w : World) (d n cap : Nat) (a : Option Addr) (e : Ending) (w' : World) : Prop := ∃ (kd : Int) (K : ByteArray) (vs : List ByteArray) (v : Value), e = .returned (.agg #[.int .i64 kd, .string K, v]) ∧ Hid (goodT kd K vs) ∧
  Hid (w'.ownsRow w.heap.size 9 1 v vs.length (strVs vs)) ∧ Hid (CurIn w' d a n cap) ∧ Hid (Out d (d + 1) w w')
theorem owns_none (w : World) (B : Nat) (e : TypeId) (size : Nat) : w.ownsRow B e size (.slice none 0 0) 0 [] := ⟨by simp, .inl ⟨rfl, rfl⟩⟩
/-- the end: the term's cells go over into the result's -/
theorem term_end {w wr : World} {d n cap B G : Nat} {a : Option Addr} {kd kz : Int} {K Kz : ByteArray} {v vz : Value} {vs : List ByteArray} (hB : B = w.heap.size) (hBG : B < G) (hd : d < B) (hall : ∀ j, j < n → ∀ b off, a = some ⟨b, off, none⟩ → b < B)
    (hg : goodT kd K vs) (ho : wr.ownsRow (G + 1) 9 1 v vs.length (strVs vs)) (hz : Trm wr B kz Kz vz) (hc : CurIn wr d a n cap) (hO : Out d (d + 1) w wr) :
    drawnT w d n cap a (.returned (.agg #[.int .i64 kd, .string K, v])) (((wr.setCell ⟨B, 0, none⟩ (.int .i64 kd)).setCell ⟨B, 1, none⟩ (.string K)).setCell ⟨B, 2, none⟩ v) := by
  have h0 : Out B (B + 1) wr (((wr.setCell ⟨B, 0, none⟩ (.int .i64 kd)).setCell ⟨B, 1, none⟩ (.string K)).setCell ⟨B, 2, none⟩ v) :=
    (((Out.refl _ _ _).setCell (p := ⟨B, 0, none⟩) (Nat.le_refl _) (Nat.lt_succ_self _) _).setCell (p := ⟨B, 1, none⟩) (Nat.le_refl _) (Nat.lt_succ_self _) _).setCell (p := ⟨B, 2, none⟩) (Nat.le_refl _) (Nat.lt_succ_self _) _
  have hb : Below B wr _ := h0.below (Nat.le_refl _) (Nat.le_of_lt hz.lt)
  refine ⟨kd, K, vs, v, rfl, hg, owns_mono (owns_out ho h0 fun g hg => ?_) (by omega), hc.frame hb hd hall, ?_⟩
  · have := (owns_blk ho hg).1
    omega
  · refine ⟨h0.os.trans hO.os, h0.tape.trans hO.tape, h0.output.trans hO.output, Nat.le_trans hO.size h0.size, fun k hk hr => ?_⟩
    exact (h0.block k (Nat.lt_of_lt_of_le hk hO.size) (by omega)).trans (hO.block k hk hr)
set_option maxRecDepth 100000 in
set_option maxHeartbeats 1600000 in
theorem l2DrawTerm_any (d n cap : Nat) (a : Option Addr) (w : World) (hn : n ≤ 1048576) (hc : CurIn w d a n cap) :
    Calls Try.prog 24 #[.pointer (some ⟨d, 0, none⟩)] w (drawnT w d n cap a) := by
  obtain ⟨i0, hi, hz0, hz1, hz2⟩ := info_parts Try.infoStr
  have Hc : Hid (CurIn (w.alloc (.cells #[.int .i64 0, .string ⟨#[]⟩, .slice none 0 0] 33)) d a n cap) := hc.later ((Below.refl _ _).alloc (Nat.le_refl _) _)
  have Hd := hide hc.lt
  have Hall := hide hc.lt_all'
  clear hc
  go_enter Try.func24, Try.ntmps24
  go_wp2_with fail
  refine (l1Below_any d n cap 5 a _ hn (by decide) Hc.out).mono ?_
  rintro e w1 ⟨x, hx, rfl, Hc1, ho1⟩
  have hx5 := hx (by decide)
  have Z1 := hide ((Trm.new w 0 ⟨#[]⟩ (.slice none 0 0) 33).out ho1 (by have := Hd.out; omega))
  have O1 : Hid (Out d (d + 1) w w1) := (Out.of_below ((Below.refl _ _).alloc (Nat.le_refl _) _)).trans ho1
  clear ho1 Hc hx
  have hwx : wrap64 (1 + (x : Int)) = 1 + (x : Int) := by simp only [wrap64]; omega
  go_wp2_with fail
  refine (l1Name_any d n cap a _ hn Hc1.out.lt Hc1.out).mono ?_
  rintro e w2 ⟨K, hK, rfl, Hc2, ho2⟩
  have Z2 := hide (Z1.out.out ho2 (by have := Hd.out; omega))
  have O2 := hide (O1.out.trans ho2)
  have HK := hide (names_small K (List.mem_append_left _ hK))
  clear ho2 hK Z1 O1 Hc1
  have HG : Hid (w.heap.size < w2.heap.size) := Z2.out.lt
  have Z3 := fun v => hide (Z2.out.out (Out.of_below (lo := 0) (hi := 0) ((Below.refl _ w2).alloc (Nat.le_refl _) (.cells #[.int .i64 (1 + (x : Int)), .string K, v] 33))) (Or.inr (Nat.zero_le _)))
  have O3 := fun v => hide (O2.out.trans (Out.of_below ((Below.refl _ w2).alloc (Nat.le_refl _) (.cells #[.int .i64 (1 + (x : Int)), .string K, v] 33))))
  have C3 := fun v => hide (Hc2.out.later ((Below.refl _ w2).alloc (Nat.le_refl _) (.cells #[.int .i64 (1 + (x : Int)), .string K, v] 33)))
  have HZ3 := hide Z3
  have HO3 := hide O3
  have HC3 := hide C3
  clear Z3 O3 C3 Hc2 O2
  rcases (show x = 0 ∨ x = 1 ∨ x = 2 ∨ x = 3 ∨ x = 4 by omega) with rfl | rfl | rfl | rfl | rfl
  · have C := hide (show CurIn (w2.alloc (.cells #[.int .i64 1, .string K, .slice none 0 0] 33)) d a n cap from (HC3.out _).out)
    have Z := hide (show Trm (w2.alloc (.cells #[.int .i64 1, .string K, .slice none 0 0] 33)) w.heap.size 0 ⟨#[]⟩ (.slice none 0 0) from (HZ3.out _).out)
    have O := hide (show Out d (d + 1) w (w2.alloc (.cells #[.int .i64 1, .string K, .slice none 0 0] 33)) from (HO3.out _).out)
    clear HZ3 HO3 HC3 Z2
    go_wp2_with fail
    refine (l1Name_any d n cap a _ hn C.out.lt C.out).mono ?_
    rintro e w4 ⟨S, hS, rfl, Hc4, ho4⟩
    have HS := hide (names_small S (List.mem_append_left _ hS))
    have T4 := hide ((Trm.new w2 1 K (.slice none 0 0) 33).out ho4 (by have := Hd.out; have := HG.out; omega))
    have Z4 := hide (Z.out.out ho4 (by have := Hd.out; omega))
    have O4 := hide (O.out.trans ho4)
    clear ho4 hS Z O C
    have Hlt := hide T4.out.lt
    have bl : Below w4.heap.size w4 (w4.alloc (.cells #[.string S] 9)) := (Below.refl _ _).alloc (Nat.le_refl _) _
    have T5 := hide (T4.out.out (Out.of_below (lo := 0) (hi := 0) bl) (Or.inr (Nat.zero_le _)))
    have Z5 := hide (Z4.out.out (Out.of_below (lo := 0) (hi := 0) bl) (Or.inr (Nat.zero_le _)))
    have O5 := hide (O4.out.trans (Out.of_below bl))
    have C5 := hide (Hc4.out.later bl)
    have W5 : Hid ((w4.alloc (.cells #[.string S] 9)).ownsRow (w2.heap.size + 1) 9 1 (.slice (some ⟨w4.heap.size, 0, none⟩) 1 1) 1 (strVs [S])) := World.ownsRow_lit w4 #[.string S] 1 (by have := Hlt.out; omega) (by decide) rfl
    clear bl T4 Z4 O4 Hc4
    have t0 := T5.out.c0
    have t1 := T5.out.c1
    have t2 := T5.out.c2
    have s0 := T5.out.f0
    have s1 := T5.out.f1
    have s2 := T5.out.f2
    have z0 := Z5.out.c0
    have z1 := Z5.out.c1
    have z2 := Z5.out.c2
    have y0 := Z5.out.f0
    have y1 := Z5.out.f1
    have y2 := Z5.out.f2
    have hne : ¬ w2.heap.size = w.heap.size := by have := HG.out; omega
    have hne' : ¬ w.heap.size = w2.heap.size := by have := HG.out; omega
    go_wp2
    have so : Out w2.heap.size (w2.heap.size + 1) (w4.alloc (.cells #[.string S] 9)) ((w4.alloc (.cells #[.string S] 9)).setCell ⟨w2.heap.size, 2, none⟩ (.slice (some ⟨w4.heap.size, 0, none⟩) 1 1)) := (Out.refl _ _ _).setCell (p := ⟨w2.heap.size, 2, none⟩) (Nat.le_refl _) (Nat.lt_succ_self _) _
    have Z6 := Z5.out.out so (Or.inl HG.out)
    exact ret_trm (B := w.heap.size) Try.results24 rfl (Z6.set3 _ _ _) (term_end (G := w2.heap.size) (vs := [S]) rfl HG.out Hd.out Hall.out ⟨by decide, by decide, HK.out, by simp, fun s h => by rw [List.mem_singleton.1 h]; exact HS.out⟩
      (owns_out W5.out so (fun g hg => Or.inr (owns_blk W5.out hg).1)) Z6 (C5.out.frame (so.below (Nat.le_of_lt HG.out) (Nat.le_of_lt Z5.out.lt)) Hd.out Hall.out) (O5.out.past so (Nat.le_of_lt HG.out)))
  · have C := hide (show CurIn (w2.alloc (.cells #[.int .i64 2, .string K, .slice none 0 0] 33)) d a n cap from (HC3.out _).out)
    have Z := hide (show Trm (w2.alloc (.cells #[.int .i64 2, .string K, .slice none 0 0] 33)) w.heap.size 0 ⟨#[]⟩ (.slice none 0 0) from (HZ3.out _).out)
    have O := hide (show Out d (d + 1) w (w2.alloc (.cells #[.int .i64 2, .string K, .slice none 0 0] 33)) from (HO3.out _).out)
    clear HZ3 HO3 HC3 Z2
    go_wp2_with fail
    refine (l1Name_any d n cap a _ hn C.out.lt C.out).mono ?_
    rintro e w4 ⟨S, hS, rfl, Hc4, ho4⟩
    have HS := hide (names_small S (List.mem_append_left _ hS))
    have T4 := hide ((Trm.new w2 2 K (.slice none 0 0) 33).out ho4 (by have := Hd.out; have := HG.out; omega))
    have Z4 := hide (Z.out.out ho4 (by have := Hd.out; omega))
    have O4 := hide (O.out.trans ho4)
    clear ho4 hS Z O C
    have Hlt := hide T4.out.lt
    have bl : Below w4.heap.size w4 (w4.alloc (.cells #[.string S] 9)) := (Below.refl _ _).alloc (Nat.le_refl _) _
    have T5 := hide (T4.out.out (Out.of_below (lo := 0) (hi := 0) bl) (Or.inr (Nat.zero_le _)))
    have Z5 := hide (Z4.out.out (Out.of_below (lo := 0) (hi := 0) bl) (Or.inr (Nat.zero_le _)))
    have O5 := hide (O4.out.trans (Out.of_below bl))
    have C5 := hide (Hc4.out.later bl)
    have W5 : Hid ((w4.alloc (.cells #[.string S] 9)).ownsRow (w2.heap.size + 1) 9 1 (.slice (some ⟨w4.heap.size, 0, none⟩) 1 1) 1 (strVs [S])) := World.ownsRow_lit w4 #[.string S] 1 (by have := Hlt.out; omega) (by decide) rfl
    clear bl T4 Z4 O4 Hc4
    have t0 := T5.out.c0
    have t1 := T5.out.c1
    have t2 := T5.out.c2
    have s0 := T5.out.f0
    have s1 := T5.out.f1
    have s2 := T5.out.f2
    have z0 := Z5.out.c0
    have z1 := Z5.out.c1
    have z2 := Z5.out.c2
    have y0 := Z5.out.f0
    have y1 := Z5.out.f1
    have y2 := Z5.out.f2
    have hne : ¬ w2.heap.size = w.heap.size := by have := HG.out; omega
    have hne' : ¬ w.heap.size = w2.heap.size := by have := HG.out; omega
    go_wp2
    have so : Out w2.heap.size (w2.heap.size + 1) (w4.alloc (.cells #[.string S] 9)) ((w4.alloc (.cells #[.string S] 9)).setCell ⟨w2.heap.size, 2, none⟩ (.slice (some ⟨w4.heap.size, 0, none⟩) 1 1)) := (Out.refl _ _ _).setCell (p := ⟨w2.heap.size, 2, none⟩) (Nat.le_refl _) (Nat.lt_succ_self _) _
    have Z6 := Z5.out.out so (Or.inl HG.out)
    exact ret_trm (B := w.heap.size) Try.results24 rfl (Z6.set3 _ _ _) (term_end (G := w2.heap.size) (vs := [S]) rfl HG.out Hd.out Hall.out ⟨by decide, by decide, HK.out, by simp, fun s h => by rw [List.mem_singleton.1 h]; exact HS.out⟩
      (owns_out W5.out so (fun g hg => Or.inr (owns_blk W5.out hg).1)) Z6 (C5.out.frame (so.below (Nat.le_of_lt HG.out) (Nat.le_of_lt Z5.out.lt)) Hd.out Hall.out) (O5.out.past so (Nat.le_of_lt HG.out)))
  · have C := hide (show CurIn (w2.alloc (.cells #[.int .i64 3, .string K, .slice none 0 0] 33)) d a n cap from (HC3.out _).out)
    have Z := hide (show Trm (w2.alloc (.cells #[.int .i64 3, .string K, .slice none 0 0] 33)) w.heap.size 0 ⟨#[]⟩ (.slice none 0 0) from (HZ3.out _).out)
    have O := hide (show Out d (d + 1) w (w2.alloc (.cells #[.int .i64 3, .string K, .slice none 0 0] 33)) from (HO3.out _).out)
    clear HZ3 HO3 HC3 Z2
    go_wp2_with fail
    refine (l1Draw_any d n cap 5 a _ hn (by decide) (by decide) C.out).mono ?_
    rintro e w4 ⟨ls, g, c, rfl, Hs, Hw, Hc4, ho4⟩
    have T4 := hide ((Trm.new w2 3 K (.slice none 0 0) 33).out ho4.out (by have := Hd.out; have := HG.out; omega))
    have Z4 := hide (Z.out.out ho4.out (by have := Hd.out; omega))
    have O4 := hide (O.out.trans ho4.out)
    have Hw4 : Hid (w4.ownsRow (w2.heap.size + 1) 43 2 (.slice (some ⟨g, 0, none⟩) ls.length c) ls.length (flat ls)) := owns_mono Hw.out (by simp)
    clear ho4 Z O C Hw
    go_wp2_with fail
    go_loopw [5] (fun i wr => ∃ (k : Nat) (v : Value), k ≤ ls.length ∧ i = .int .i64 k ∧ Hid (wr.ownsRow (w2.heap.size + 1) 43 2 (.slice (some ⟨g, 0, none⟩) ls.length c) ls.length (flat ls)) ∧ Hid (wr.ownsRow (w2.heap.size + 1) 9 1 v k (strVs ((ls.take k).map (·.1)))) ∧ Hid (v.ownBlock ≠ some g) ∧
      Hid (Trm wr w2.heap.size 3 K v) ∧ Hid (Trm wr w.heap.size 0 ⟨#[]⟩ (.slice none 0 0)) ∧ Hid (CurIn wr d a n cap) ∧ Hid (Out d (d + 1) w wr)) (fun i _ => ls.length - (intOf i).toNat)
    case atStart => exact ⟨0, .slice none 0 0, Nat.zero_le _, rfl, Hw4, owns_none _ _ _ _, (by intro h; cases h), T4, Z4, Hc4, O4⟩
    case round =>
      clear Hw4 T4 Z4 Hc4 O4
      obtain ⟨k, v, hk, rfl, Hw, Hv, Hne, HT, HZ, HC, HO⟩ := hrel
      obtain ⟨av, cv, rfl, hso, hcv, hnv⟩ := strOf_own Hv.out (by rw [List.length_map, List.length_take]; omega)
      have t0 := HT.out.c0
      have t1 := HT.out.c1
      have t2 := HT.out.c2
      have s0 := HT.out.f0
      have s1 := HT.out.f1
      have s2 := HT.out.f2
      clear hso hcv hnv
      by_cases hlt : k < ls.length
      · have hc := (cellsOf_of (labs_of_owns' Hw.out) k hlt).1
        rw [Nat.zero_add] at hc
        have Hsm := hide (Hs.out.2 _ (List.getElem_mem hlt)).1
        have hkl : (k : Int) < (ls.length : Int) := by omega
        have Hn : Hid (strVs ((ls.take (k + 1)).map (·.1)) = strVs ((ls.take k).map (·.1)) ++ [.string (keyAt ls k)]) := by
          show _ = _
          rw [take_succ_at ls k hlt, List.map_append]
          unfold strVs
          rw [List.map_append]
          rfl
        have Hbase : Hid (w2.heap.size + 1 ≤ wr.heap.size) := by have := HT.out.lt; show _ ≤ _; omega
        have hl8 : k ≤ 8 := by have := Hs.out.1; omega
        have hGl : w2.heap.size < wr.heap.size := HT.out.lt
        have hgl : g < wr.heap.size := (owns_blk Hw.out (g := g) rfl).2
        generalize keyAt ls k = S at *
        go_wp2
        go_region_law (refine step_append_lies _ rfl (.tmp 32) (.tmp 38) 31 rfl (w2.heap.size + 1) 9 i0 _ 1 16 Try.underlying31 hi hz0 hz1 hz2 rfl (by decide) (.slice av k cv) k _ (by simp [Act.eval]) (Hv.out.alloc _).drew ⟨wr.heap.size, 0, none⟩ 1 1 [.string S] (by simp [Act.eval]) rfl (fun j u hj => cell_one_new wr S _ j u hj) (fun x hx => by simp at hx; rcases hx with rfl; rfl) (by decide) (by unfold maxLen; omega) (by omega) (by have := Hbase.out; simp; omega) _ rfl ?_; intro g' cap' w5 hown' hgrow5 hat5 hlt5; have T5 := Trm.step hgrow5 (fun b hb e => by have := (owns_blk Hv.out hb).1; omega) HT.out; have q2 := T5.c2; have r2 := T5.f2)
        all_goals (
          have so : Out w2.heap.size (w2.heap.size + 1) w5 (w5.setCell ⟨w2.heap.size, 2, none⟩ (.slice (some ⟨g', 0, none⟩) (k + 1) cap')) := (Out.refl _ _ _).setCell (p := ⟨w2.heap.size, 2, none⟩) (Nat.le_refl _) (Nat.lt_succ_self _) _
          have hrow : ∀ b, (Value.slice av k cv).ownBlock = some b → w2.heap.size + 1 ≤ b := fun b hb => (owns_blk Hv.out hb).1
          have hb1 : Below wr.heap.size wr (wr.alloc (.cells #[.string S] 9)).drew := ((Below.refl _ _).alloc (Nat.le_refl _) _).drew
          have HO6 := hide ((Out.grown (HO.out.trans (Out.of_below hb1)) hgrow5 (fun b hb => by have := hrow b hb; have := HG.out; omega)).past so (Nat.le_of_lt HG.out))
          have Z5 := Trm.step hgrow5 (fun b hb e => by have := hrow b hb; have := HG.out; omega) HZ.out
          have HZ6 := hide (Z5.out so (Or.inl HG.out))
          have HT6 := hide (T5.set (.slice (some ⟨g', 0, none⟩) (k + 1) cap'))
          have HC6 := hide ((CurIn.grown (B := w.heap.size) (HC.out.later hb1) hgrow5 (fun b hb => by have := hrow b hb; have := HG.out; omega) Hd.out Hall.out).frame (so.below (Nat.le_of_lt HG.out) (Nat.le_of_lt Z5.lt)) Hd.out Hall.out)
          have hgg : g' ≠ g := by
            rcases hat5 with h | h
            · intro e; subst e; exact Hne.out h
            · rw [h]; simp; omega
          have Hw6 := hide (owns_out (owns_grownT ((Hw.out.alloc _).drew) hgrow5 (by intro h; exact Hne.out h)) so (fun b hb => Or.inr (owns_blk Hw.out hb).1))
          have Hv6 : Hid ((w5.setCell ⟨w2.heap.size, 2, none⟩ (.slice (some ⟨g', 0, none⟩) (k + 1) cap')).ownsRow (w2.heap.size + 1) 9 1 (.slice (some ⟨g', 0, none⟩) (k + 1) cap') (k + 1) (strVs ((ls.take (k + 1)).map (·.1)))) := by
            show World.ownsRow _ _ _ _ _ _ _
            rw [Hn.out]
            exact owns_out hown' so (fun b hb => Or.inr (owns_blk hown' hb).1)
          clear so hrow hb1 Z5 T5 q2 r2 hown' hgrow5 hat5 hlt5 Hw Hv HT HZ HC HO t0 t1 t2 s0 s1 s2 hc
          go_wp2
          go_roundw
          case rel => exact ⟨k + 1, _, by omega, by go_num, Hw6, Hv6, (by intro h; cases h; exact hgg rfl), HT6, HZ6, HC6, HO6⟩
          case measure => simp [intOf]; omega)
      · have e : k = ls.length := by omega
        subst e
        clear hlt hk
        have z0 := HZ.out.c0
        have z1 := HZ.out.c1
        have z2 := HZ.out.c2
        have y0 := HZ.out.f0
        have y1 := HZ.out.f1
        have y2 := HZ.out.f2
        rw [List.take_length] at Hv
        have hne : ¬ w2.heap.size = w.heap.size := by have := HG.out; omega
        have hne' : ¬ w.heap.size = w2.heap.size := by have := HG.out; omega
        by_cases hz : ls.length = 0
        · have hzb : (((ls.length : Nat) : Int) == 0) = true := by rw [beq_iff_eq]; omega
          clear hz
          have bl : Below wr.heap.size wr (wr.alloc (.cells #[.string ⟨#[97]⟩] 9)) := (Below.refl _ _).alloc (Nat.le_refl _) _
          have Hlt := hide HT.out.lt
          have T5 := hide (HT.out.out (Out.of_below (lo := 0) (hi := 0) bl) (Or.inr (Nat.zero_le _)))
          have Z5 := hide (HZ.out.out (Out.of_below (lo := 0) (hi := 0) bl) (Or.inr (Nat.zero_le _)))
          have O5 := hide (HO.out.trans (Out.of_below bl))
          have C5 := hide (HC.out.later bl)
          have W5 : Hid ((wr.alloc (.cells #[.string ⟨#[97]⟩] 9)).ownsRow (w2.heap.size + 1) 9 1 (.slice (some ⟨wr.heap.size, 0, none⟩) 1 1) 1 (strVs [⟨#[97]⟩])) := World.ownsRow_lit wr #[.string ⟨#[97]⟩] 1 (by have := Hlt.out; omega) (by decide) rfl
          have a0 := T5.out.c0
          have a1 := T5.out.c1
          have a2 := T5.out.c2
          have e0 := T5.out.f0
          have e1 := T5.out.f1
          have e2 := T5.out.f2
          have b0 := Z5.out.c0
          have b1 := Z5.out.c1
          have b2 := Z5.out.c2
          have x0 := Z5.out.f0
          have x1 := Z5.out.f1
          have x2 := Z5.out.f2
          clear bl HT HZ HO HC Hv
          go_wp2
          have so : Out w2.heap.size (w2.heap.size + 1) (wr.alloc (.cells #[.string ⟨#[97]⟩] 9)) ((wr.alloc (.cells #[.string ⟨#[97]⟩] 9)).setCell ⟨w2.heap.size, 2, none⟩ (.slice (some ⟨wr.heap.size, 0, none⟩) 1 1)) := (Out.refl _ _ _).setCell (p := ⟨w2.heap.size, 2, none⟩) (Nat.le_refl _) (Nat.lt_succ_self _) _
          have Z6 := Z5.out.out so (Or.inl HG.out)
          exact ret_trm (B := w.heap.size) Try.results24 rfl (Z6.set3 _ _ _) (term_end (G := w2.heap.size) (vs := [⟨#[97]⟩]) rfl HG.out Hd.out Hall.out ⟨by decide, by decide, HK.out, by decide, by decide⟩
            (owns_out W5.out so (fun g hg => Or.inr (owns_blk W5.out hg).1)) Z6 (C5.out.frame (so.below (Nat.le_of_lt HG.out) (Nat.le_of_lt Z5.out.lt)) Hd.out Hall.out) (O5.out.past so (Nat.le_of_lt HG.out)))
        · have hz' : ¬ ((ls.length : Nat) : Int) = 0 := by omega
          have hzb : (((ls.length : Nat) : Int) == 0) = false := by rw [beq_eq_false_iff_ne]; omega
          go_wp2
          exact ret_trm (B := w.heap.size) Try.results24 rfl (HZ.out.set3 _ _ _) (term_end (G := w2.heap.size) (vs := ls.map (·.1)) rfl HG.out Hd.out Hall.out ⟨by decide, by decide, HK.out, by rw [List.length_map]; exact Hs.out.1, fun s h => by
            obtain ⟨p, hp, rfl⟩ := List.mem_map.1 h
            exact (Hs.out.2 p hp).1⟩ (by rw [List.length_map]; exact Hv.out) HZ.out HC.out HO.out)
  · have Z := hide (show Trm (w2.alloc (.cells #[.int .i64 4, .string K, .slice none 0 0] 33)) w.heap.size 0 ⟨#[]⟩ (.slice none 0 0) from (HZ3.out _).out)
    have O := hide (show Out d (d + 1) w (w2.alloc (.cells #[.int .i64 4, .string K, .slice none 0 0] 33)) from (HO3.out _).out)
    have C := hide (show CurIn (w2.alloc (.cells #[.int .i64 4, .string K, .slice none 0 0] 33)) d a n cap from (HC3.out _).out)
    clear HZ3 HO3 HC3 Z2
    have z0 := Z.out.c0
    have z1 := Z.out.c1
    have z2 := Z.out.c2
    have y0 := Z.out.f0
    have y1 := Z.out.f1
    have y2 := Z.out.f2
    go_wp2
    exact ret_trm (B := w.heap.size) Try.results24 rfl (Z.out.set3 _ _ _) (term_end (G := w2.heap.size) (vs := []) rfl HG.out Hd.out Hall.out ⟨by decide, by decide, HK.out, by decide, fun s h => by cases h⟩ (owns_none _ _ _ _) Z.out C.out O.out)
  · have Z := hide (show Trm (w2.alloc (.cells #[.int .i64 5, .string K, .slice none 0 0] 33)) w.heap.size 0 ⟨#[]⟩ (.slice none 0 0) from (HZ3.out _).out)
    have O := hide (show Out d (d + 1) w (w2.alloc (.cells #[.int .i64 5, .string K, .slice none 0 0] 33)) from (HO3.out _).out)
    have C := hide (show CurIn (w2.alloc (.cells #[.int .i64 5, .string K, .slice none 0 0] 33)) d a n cap from (HC3.out _).out)
    clear HZ3 HO3 HC3 Z2
    have z0 := Z.out.c0
    have z1 := Z.out.c1
    have z2 := Z.out.c2
    have y0 := Z.out.f0
    have y1 := Z.out.f1
    have y2 := Z.out.f2
    go_wp2
    exact ret_trm (B := w.heap.size) Try.results24 rfl (Z.out.set3 _ _ _) (term_end (G := w2.heap.size) (vs := []) rfl HG.out Hd.out Hall.out ⟨by decide, by decide, HK.out, by decide, fun s h => by cases h⟩ (owns_none _ _ _ _) Z.out C.out O.out)
end Go.Proofs.Ytbihhcbbjdjhcaa
