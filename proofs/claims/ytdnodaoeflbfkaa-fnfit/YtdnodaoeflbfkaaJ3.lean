/- Texts of one claim, joined: each in its own section, in build order. -/
import Derived.Test.YtdnodaoeflbfkaaJ2
import Derived.Deep.QuietTactic
import Derived.Laws.Rows
import Derived.Deep.RegionLaw
import Derived.Deep.AppendLies
import Derived.WideShapes
import Derived.Handy
import Derived.LoopN
import Derived.Test.YtdnodaoeflbfkaaJ1
import Derived.Maps.AppendAt
namespace Go.Proofs.Ytdnodaoeflbfkaa
open Go.RowKit Go.BigFrame
set_option linter.unusedVariables false
/-! labels that are drawn -/
def smallL (ls : List (ByteArray × ByteArray)) : Prop := ∀ p ∈ ls, p.1.size ≤ 25 ∧ p.2.size ≤ 25
theorem smallL.ok {ls : List (ByteArray × ByteArray)} (h : smallL ls) : okSizes ls := fun p hp => by
  have := h p hp
  unfold maxLen
  omega
def cntL (b : Bool) : Nat := if b then 0 else 1
theorem cntL_t : cntL true = 0 := rfl
theorem cntL_f : cntL false = 1 := rfl
theorem setStep_len (key val : ByteArray) (o : List (ByteArray × ByteArray) × Bool) (x : ByteArray × ByteArray) : (setStep key val o x).1.length + cntL (setStep key val o x).2 ≤ o.1.length + 1 + cntL o.2 := by
  obtain ⟨o1, o2⟩ := o
  unfold setStep
  simp only
  cases o2 <;> simp only [Bool.not_true, Bool.not_false, Bool.true_and, Bool.false_and, cntL_t, cntL_f] <;> split <;> split <;> simp_all [cntL_t, cntL_f] <;> omega
theorem setTo_len1 (key val : ByteArray) : ∀ (ls : List (ByteArray × ByteArray)) (o : List (ByteArray × ByteArray) × Bool), (ls.foldl (setStep key val) o).1.length + cntL (ls.foldl (setStep key val) o).2 ≤ o.1.length + ls.length + cntL o.2
  | [], o => Nat.le_refl _
  | x :: r, o => by
    have ih := setTo_len1 key val r (setStep key val o x)
    have h := setStep_len key val o x
    simp only [List.foldl_cons, List.length_cons]
    omega
theorem setTo_mem (key val : ByteArray) : ∀ (ls : List (ByteArray × ByteArray)) (o : List (ByteArray × ByteArray) × Bool) (p : ByteArray × ByteArray), p ∈ (ls.foldl (setStep key val) o).1 → p ∈ o.1 ∨ p ∈ ls ∨ p = (key, val)
  | [], o, p, h => .inl h
  | x :: r, o, p, h => by
    rw [List.foldl_cons] at h
    rcases setTo_mem key val r _ p h with h | h | h
    · have : p ∈ o.1 ∨ p = x ∨ p = (key, val) := by
        obtain ⟨o1, o2⟩ := o
        unfold setStep at h
        simp only at h
        split at h <;> split at h <;> simp at h <;> grind
      rcases this with h | h | h
      · exact .inl h
      · exact .inr (.inl (by rw [h]; exact List.mem_cons_self))
      · exact .inr (.inr h)
    · exact .inr (.inl (List.mem_cons_of_mem _ h))
    · exact .inr (.inr h)
theorem setR_lenD (ls : List (ByteArray × ByteArray)) (key val : ByteArray) : (setR ls key val).1.length ≤ ls.length + 1 := by
  unfold setR
  split
  · have h := setTo_len1 key val ls ([], false)
    rw [cntL_f, List.length_nil, Nat.zero_add] at h
    unfold setAll setTo
    split
    · exact Nat.le_trans (Nat.le_add_right _ _) h
    · rename_i hq
      have e : (ls.foldl (setStep key val) ([], false)).2 = false := by simpa using hq
      rw [e, cntL_f] at h
      simp only [List.length_append, List.length_singleton]
      exact h
  · exact Nat.le_succ _
theorem setR_small {ls : List (ByteArray × ByteArray)} {key val : ByteArray} (h : smallL ls) (hk : key.size ≤ 25) (hv : val.size ≤ 25) : smallL (setR ls key val).1 := by
  intro p hp
  have : p ∈ ls ∨ p = (key, val) := by
    unfold setR at hp
    split at hp
    · unfold setAll setTo at hp
      split at hp
      · rcases setTo_mem key val ls _ p hp with g | g | g
        · cases g
        · exact .inl g
        · exact .inr g
      · rcases List.mem_append.1 hp with hp | hp
        · rcases setTo_mem key val ls _ p hp with g | g | g
          · cases g
          · exact .inl g
          · exact .inr g
        · exact .inr (by simpa using hp)
    · exact .inl hp
  rcases this with g | rfl
  · exact h p g
  · exact ⟨hk, hv⟩
theorem names_small : ∀ s ∈ drawnNames ++ drawnOdd, s.size ≤ 25 := by decide
theorem labs_of_owns' {w : World} {base g n cap : Nat} {e : TypeId} {ls : List (ByteArray × ByteArray)} (h : w.ownsRow base e 2 (.slice (some ⟨g, 0, none⟩) n cap) n (flat ls)) : labsAt w g 0 ls := by
  intro i hi
  obtain ⟨b, off, e, h'⟩ := row_of_owns h (by omega)
  cases e
  exact h' i hi
theorem wrap_pred {k : Nat} (h : 0 < k ∧ k ≤ 8) : wrap64 ((k : Int) - 1) = ((k - 1 : Nat) : Int) := by simp only [wrap64]; omega
set_option maxRecDepth 100000 in
set_option maxHeartbeats 1600000 in
theorem l1Draw_any (d n cap m : Nat) (a : Option Addr) (w : World) (hn : n ≤ 1048576) (hm0 : 0 < m) (hm : m ≤ 9) (hc : CurIn w d a n cap) :
    Calls Try.prog 186 #[.pointer (some ⟨d, 0, none⟩), .int .i64 m] w fun e w' => ∃ (ls : List (ByteArray × ByteArray)) (g c : Nat), e = .returned (.slice (some ⟨g, 0, none⟩) ls.length c) ∧ Hid (ls.length ≤ 8 ∧ smallL ls) ∧
      Hid (w'.ownsRow w.heap.size 212 2 (.slice (some ⟨g, 0, none⟩) ls.length c) ls.length (flat ls)) ∧ Hid (CurIn w' d a n cap) ∧ Hid (Out d (d + 1) w w') := by
  have Hc : Hid (CurIn (w.alloc (.cells #[] 212)) d a n cap) := hc.later ((Below.refl _ _).alloc (Nat.le_refl _) _)
  have Hd := hide hc.lt
  clear hc
  go_enter Try.func186, Try.ntmps186
  go_wp2_with fail
  refine (l1Below_any d n cap m a _ hn (by omega) Hc.out).mono ?_
  rintro e w1 ⟨q, hq, rfl, hc1, ho1⟩
  have hq8 : q ≤ 8 := by have := hq hm0; omega
  clear hq
  have O1 : Hid (Out d (d + 1) w w1) := (Out.of_below ((Below.refl _ _).alloc (Nat.le_refl _) _)).trans ho1
  have W0 : Hid (w1.ownsRow w.heap.size 212 2 (.slice (some ⟨w.heap.size, 0, none⟩) ([] : List (ByteArray × ByteArray)).length 0) ([] : List (ByteArray × ByteArray)).length (flat [])) :=
    owns_out (World.ownsRow_lit w #[] 0 (Nat.le_refl _) (by decide) rfl) ho1 (by intro g hg; cases hg; have := Hd.out; show w.heap.size < d ∨ d + 1 ≤ w.heap.size; omega)
  clear ho1 Hc
  go_wp2_with fail
  go_loopw [5, 6] (fun v i wr => ∃ (ls : List (ByteArray × ByteArray)) (g c k : Nat), v = .slice (some ⟨g, 0, none⟩) ls.length c ∧ i = .int .i64 k ∧ Hid (ls.length + k ≤ 8 ∧ smallL ls) ∧
      Hid (wr.ownsRow w.heap.size 212 2 (.slice (some ⟨g, 0, none⟩) ls.length c) ls.length (flat ls)) ∧ Hid (CurIn wr d a n cap) ∧ Hid (Out d (d + 1) w wr)) (fun _ i _ => (intOf i).toNat)
  case atStart => exact ⟨[], _, _, q, rfl, rfl, ⟨by simpa using hq8, fun p hp => by cases hp⟩, W0, hc1, O1⟩
  case round =>
    clear W0 O1 hc1 hq8
    obtain ⟨ls, g, c, k, rfl, rfl, Hs, Hw, Hc, Ho⟩ := hrel
    by_cases hk : 0 < k
    · have hk' : (0 : Int) < (k : Int) := by omega
      have hk8 : k ≤ 8 := by have := Hs.out.1; omega
      have Hk : Hid (0 < k ∧ k ≤ 8) := ⟨hk, hk8⟩
      have Hgd : Hid (g ≠ d) := by
        have h1 := (owns_blk Hw.out (g := g) rfl).1
        have h2 := Hd.out
        show g ≠ d
        omega
      go_wp2_with fail
      refine (l1Name_any d n cap a _ hn Hc.out.lt Hc.out).mono ?_
      rintro e w2 ⟨s1, hs1, rfl, hc2, ho2⟩
      have Hw2 := hide (owns_out Hw.out ho2 (by intro b hb; cases hb; have := Hgd.out; show g < d ∨ d + 1 ≤ g; omega))
      have O2 := hide (Ho.out.trans ho2)
      clear Hw Ho ho2 Hc
      go_wp2_with fail
      refine (l1Name_any d n cap a _ hn hc2.out.lt hc2.out).mono ?_
      rintro e w3 ⟨s2, hs2, rfl, hc3, ho3⟩
      have Hw3 := hide (owns_out Hw2.out ho3 (by intro b hb; cases hb; have := Hgd.out; show g < d ∨ d + 1 ≤ g; omega))
      have O3 := hide (O2.out.trans ho3)
      have z1 := names_small s1 (List.mem_append_left _ hs1)
      have z2 := names_small s2 (List.mem_append_left _ hs2)
      have Hset := hide (slabelSet_any g 0 c ls s1 s2 w3 (by have := Hs.out.1; omega) Hs.out.2.ok (by unfold maxLen; omega) (by unfold maxLen; omega) (labs_of_owns' Hw3.out))
      have Hs3 : Hid ((setR ls s1 s2).1.length + (k - 1) ≤ 8 ∧ smallL (setR ls s1 s2).1) := ⟨by have := setR_lenD ls s1 s2; have := Hs.out.1; omega, setR_small Hs.out.2 z1 z2⟩
      clear Hw2 O2 ho3 hc2 hs1 hs2 z1 z2 Hs
      generalize (setR ls s1 s2).1 = ls2 at *
      generalize (setR ls s1 s2).2 = b2 at *
      go_wp2_with fail
      refine Hset.out.mono ?_
      rintro e w4 ⟨g4, c4, rfl, ho4, hb4⟩
      have B4 := hide hb4
      have Hw4 := hide ho4
      clear hb4 ho4 Hset
      go_wp2
      go_roundw
      case rel => exact ⟨ls2, g4, c4, k - 1, rfl, by go_num, Hs3, owns_mono Hw4.out (by have := O3.out.size; omega), hc3.out.later B4.out, O3.out.trans (Out.of_below B4.out)⟩
      case measure => have := Hk.out; simp [intOf]; omega
    · have hk' : ¬ (0 : Int) < (k : Int) := by omega
      go_wp2
      go_ret
      exact ⟨ls, g, c, rfl, ⟨by have := Hs.out.1; omega, Hs.out.2⟩, Hw, Hc, Ho⟩
end Go.Proofs.Ytdnodaoeflbfkaa
namespace Go.Proofs.Ytdnodaoeflbfkaa
open Go.RowKit Go.BigFrame
set_option linter.unusedVariables false
/-! labels that are drawn, right or not -/
theorem Out.grown {lo hi : Nat} {a w w' : World} {row : Option Nat} (h : Out lo hi a w) (hg : w.grownBy w' row) (hr : ∀ k, row = some k → a.heap.size ≤ k) : Out lo hi a w' :=
  ⟨hg.os.trans h.os, hg.tape.trans h.tape, hg.output.trans h.output, Nat.le_trans h.size hg.size, fun k hk hr' => (hg.block k (Nat.lt_of_lt_of_le hk h.size) (fun e => by have := hr k e.symm; omega)).trans (h.block k hk hr')⟩
theorem CurIn.grown {w w' : World} {row : Option Nat} {d : Nat} {a : Option Addr} {n cap B : Nat} (c : CurIn w d a n cap) (hg : w.grownBy w' row) (hr : ∀ k, row = some k → B ≤ k) (hd : d < B) (hall : ∀ j, j < n → ∀ b off, a = some ⟨b, off, none⟩ → b < B) : CurIn w' d a n cap := by
  have hlt := c.lt
  have hb : ∀ k, k < w.heap.size → k < B → w'.heap[k]? = w.heap[k]? := fun k hk hkB => hg.block k hk (fun e => by have := hr k e.symm; omega)
  obtain ⟨i, h, c⟩ := c
  refine ⟨i, h, c.le, ?_, ?_, ?_, ?_, ?_, ?_⟩
  · exact (World.cell?_of_block (w := w) (a := ⟨d, 0, none⟩) (hb d hlt hd)).trans c.c0
  · exact (World.cell?_of_block (w := w) (a := ⟨d, 1, none⟩) (hb d hlt hd)).trans c.c1
  · exact (World.cell?_of_block (w := w) (a := ⟨d, 2, none⟩) (hb d hlt hd)).trans c.c2
  · exact (World.frozen?_of_block (w := w) (a := ⟨d, 1, none⟩) (hb d hlt hd)).trans c.f1
  · exact (World.frozen?_of_block (w := w) (a := ⟨d, 2, none⟩) (hb d hlt hd)).trans c.f2
  · intro j hj
    obtain ⟨b, off, x, h1, h2, h3, h4⟩ := c.code j hj
    exact ⟨b, off, x, h1, h2, (World.cell?_of_block (w := w) (a := ⟨b, off + j, none⟩) (hb b (World.block_lt_of_cell? _ _ h3) (hall j hj b off h1))).trans h3, h4⟩
theorem CurIn.lt_all' {w : World} {d : Nat} {a : Option Addr} {n cap : Nat} (c : CurIn w d a n cap) : ∀ j, j < n → ∀ b off, a = some ⟨b, off, none⟩ → b < w.heap.size := by
  obtain ⟨i, h, c⟩ := c
  intro j hj b off e
  obtain ⟨b', off', x, h1, h2, h3, h4⟩ := c.code j hj
  rw [h1] at e
  cases e
  exact World.block_lt_of_cell? _ _ h3
theorem slice_of_owns {w : World} {B n : Nat} {v : Value} {e : TypeId} {size : Nat} {xs : List Value} (h : w.ownsRow B e size v n xs) (hn : v ≠ .slice none 0 0) : ∃ g c, v = .slice (some ⟨g, 0, none⟩) n c := by
  rcases h.2 with ⟨h, _⟩ | ⟨g, cap, cur, h, _⟩
  · exact absurd h hn
  · exact ⟨g, cap, h⟩
/-- one of the eight -/
def dLab (k : Nat) : ByteArray × ByteArray := (⟨#[100, UInt8.ofNat (48 + k)]⟩, ⟨#[118]⟩)
theorem two_fold (k : Nat) : [100, 48 + (k : Int)].foldl (fun r n => r.push (UInt8.ofNat n.toNat)) ByteArray.empty = (dLab k).1 := by
  have e1 : (48 + (k : Int)).toNat = 48 + k := by omega
  simp only [List.foldl, e1]
  rfl
theorem d_small : smallL ((List.range 8).map dLab) := by
  intro p hp
  obtain ⟨k, _, rfl⟩ := List.mem_map.1 hp
  exact ⟨by show 2 ≤ 25; decide, by show 1 ≤ 25; decide⟩
end Go.Proofs.Ytdnodaoeflbfkaa
namespace Go.Proofs.Ytdnodaoeflbfkaa
open Go.RowKit Go.BigFrame
set_option linter.unusedVariables false
/-! a term that is drawn -/
theorem CurIn.frame {w w' : World} {d : Nat} {a : Option Addr} {n cap B : Nat} (c : CurIn w d a n cap) (hg : Below B w w') (hd : d < B) (hall : ∀ j, j < n → ∀ b off, a = some ⟨b, off, none⟩ → b < B) : CurIn w' d a n cap := by
  have hb : ∀ k, k < B → w'.heap[k]? = w.heap[k]? := fun k hk => hg.block k hk
  obtain ⟨i, h, c⟩ := c
  refine ⟨i, h, c.le, ?_, ?_, ?_, ?_, ?_, ?_⟩
  · exact (World.cell?_of_block (w := w) (a := ⟨d, 0, none⟩) (hb d hd)).trans c.c0
  · exact (World.cell?_of_block (w := w) (a := ⟨d, 1, none⟩) (hb d hd)).trans c.c1
  · exact (World.cell?_of_block (w := w) (a := ⟨d, 2, none⟩) (hb d hd)).trans c.c2
  · exact (World.frozen?_of_block (w := w) (a := ⟨d, 1, none⟩) (hb d hd)).trans c.f1
  · exact (World.frozen?_of_block (w := w) (a := ⟨d, 2, none⟩) (hb d hd)).trans c.f2
  · intro j hj
    obtain ⟨b, off, x, h1, h2, h3, h4⟩ := c.code j hj
    exact ⟨b, off, x, h1, h2, (World.cell?_of_block (w := w) (a := ⟨b, off + j, none⟩) (hb b (hall j hj b off h1))).trans h3, h4⟩
structure Trm (w : World) (t : Nat) (kd : Int) (K : ByteArray) (v : Value) : Prop where
  c0 : w.cell? ⟨t, 0, none⟩ = some (.int .i64 kd)
  c1 : w.cell? ⟨t, 1, none⟩ = some (.string K)
  c2 : w.cell? ⟨t, 2, none⟩ = some v
  f0 : w.frozen? ⟨t, 0, none⟩ = false
  f1 : w.frozen? ⟨t, 1, none⟩ = false
  f2 : w.frozen? ⟨t, 2, none⟩ = false
theorem Trm.lt {w : World} {t : Nat} {kd : Int} {K : ByteArray} {v : Value} (h : Trm w t kd K v) : t < w.heap.size := World.block_lt_of_cell? _ _ h.c0
theorem Trm.new (w : World) (kd : Int) (K : ByteArray) (v : Value) (T : TypeId) : Trm (w.alloc (.cells #[.int .i64 kd, .string K, v] T)) w.heap.size kd K v := by constructor <;> simp [go_sem]
theorem Trm.out {w w' : World} {lo hi t : Nat} {kd : Int} {K : ByteArray} {v : Value} (h : Trm w t kd K v) (hb : Out lo hi w w') (ht : t < lo ∨ hi ≤ t) : Trm w' t kd K v := by
  have hk := hb.block t h.lt ht
  exact ⟨(World.cell?_of_block (w := w) (a := ⟨t, 0, none⟩) hk).trans h.c0, (World.cell?_of_block (w := w) (a := ⟨t, 1, none⟩) hk).trans h.c1, (World.cell?_of_block (w := w) (a := ⟨t, 2, none⟩) hk).trans h.c2,
    (World.frozen?_of_block (w := w) (a := ⟨t, 0, none⟩) hk).trans h.f0, (World.frozen?_of_block (w := w) (a := ⟨t, 1, none⟩) hk).trans h.f1, (World.frozen?_of_block (w := w) (a := ⟨t, 2, none⟩) hk).trans h.f2⟩
theorem Trm.step {w w' : World} {o : Obj} {row : Option Nat} {t : Nat} {kd : Int} {K : ByteArray} {v : Value} (hg : (w.alloc o).drew.grownBy w' row) (hr : ∀ b, row = some b → b ≠ t) (h : Trm w t kd K v) : Trm w' t kd K v := by
  have h1 := h.out (Out.of_below (lo := 0) (hi := 0) ((Below.refl _ w).alloc (Nat.le_refl _) o)) (Or.inr (Nat.zero_le _))
  have hk : w'.heap[t]? = (w.alloc o).heap[t]? := hg.block t h1.lt (fun e => hr t e.symm rfl)
  exact ⟨(World.cell?_of_block (w := w.alloc o) (a := ⟨t, 0, none⟩) hk).trans h1.c0, (World.cell?_of_block (w := w.alloc o) (a := ⟨t, 1, none⟩) hk).trans h1.c1, (World.cell?_of_block (w := w.alloc o) (a := ⟨t, 2, none⟩) hk).trans h1.c2,
    (World.frozen?_of_block (w := w.alloc o) (a := ⟨t, 0, none⟩) hk).trans h1.f0, (World.frozen?_of_block (w := w.alloc o) (a := ⟨t, 1, none⟩) hk).trans h1.f1, (World.frozen?_of_block (w := w.alloc o) (a := ⟨t, 2, none⟩) hk).trans h1.f2⟩
theorem Trm.set {w : World} {t : Nat} {kd : Int} {K : ByteArray} {v : Value} (h : Trm w t kd K v) (u : Value) : Trm (w.setCell ⟨t, 2, none⟩ u) t kd K u := by
  obtain ⟨a0, a1, a2, f0, f1, f2⟩ := h
  constructor <;> simp [go_sem, a0, a1, a2, f0, f1, f2]
theorem Trm.set3 {w : World} {t : Nat} {kd : Int} {K : ByteArray} {v : Value} (h : Trm w t kd K v) (kd' : Int) (K' : ByteArray) (v' : Value) : Trm (((w.setCell ⟨t, 0, none⟩ (.int .i64 kd')).setCell ⟨t, 1, none⟩ (.string K')).setCell ⟨t, 2, none⟩ v') t kd' K' v' := by
  obtain ⟨a0, a1, a2, f0, f1, f2⟩ := h
  constructor <;> simp [go_sem, a0, a1, a2, f0, f1, f2]
theorem ret_trm {fn : Func} {Q : Ending → World → Prop} {tmps : Array Value} {W : World} {B k : Nat} {kd : Int} {K : ByteArray} {v : Value} (hr : fn.results = #[.cell k 199])
    (h4 : tmps.getD k undef = .pointer (some ⟨B, 0, none⟩)) (h : Trm W B kd K v) (hQ : Q (.returned (.agg #[.int .i64 kd, .string K, v])) W) :
    bodyPost Try.prog fn Q .ret ⟨tmps, []⟩ W := by
  obtain ⟨a0, a1, a2, f0, f1, f2⟩ := h
  refine bodyPost_ret (v := .agg #[.int .i64 kd, .string K, v]) ?_ rfl hQ
  have h5 : tmps[k]?.getD undef = .pointer (some ⟨B, 0, none⟩) := by simpa using h4
  simp [results, hr, h5, asAddr, go_sem, a0, a1, a2]
theorem Out.past {lo hi g : Nat} {a b c : World} (h : Out lo hi a b) (k : Out g (g + 1) b c) (hg : a.heap.size ≤ g) : Out lo hi a c :=
  ⟨k.os.trans h.os, k.tape.trans h.tape, k.output.trans h.output, Nat.le_trans h.size k.size, fun j hj hr => (k.block j (Nat.lt_of_lt_of_le hj h.size) (by omega)).trans (h.block j hj hr)⟩
theorem cell_one_new (w : World) (s : ByteArray) (t : TypeId) (j : Nat) (u : Value) (h : [Value.string s][j]? = some u) : (w.alloc (.cells #[.string s] t)).cell? ((⟨w.heap.size, 0, none⟩ : Addr).add j) = some u := by
  cases j with
  | zero => simp at h; subst h; simp [Addr.add, go_sem]
  | succ j => simp at h
theorem owns_grownT {w w' : World} {base g n cap : Nat} {e : TypeId} {size : Nat} {xs : List Value} {row : Option Nat} (h : w.ownsRow base e size (.slice (some ⟨g, 0, none⟩) n cap) n xs) (hg : w.grownBy w' row) (hne : row ≠ some g) :
    w'.ownsRow base e size (.slice (some ⟨g, 0, none⟩) n cap) n xs := by
  obtain ⟨h1, h2⟩ := h
  rcases h2 with ⟨h, _⟩ | ⟨g', cap', cur, h, hbs, hh, r⟩
  · cases h
  · cases h
    refine ⟨h1, .inr ⟨g, cap, cur, rfl, hbs, ?_, r⟩⟩
    rw [hg.block g (Array.getElem?_eq_some_iff.1 hh).1 (fun h => hne h.symm)]
    exact hh
/-- what was drawn: a kind, a key, a few values in a row from lo on -/
def goodT (kd : Int) (K : ByteArray) (vs : List ByteArray) : Prop := 1 ≤ kd ∧ kd ≤ 5 ∧ K.size ≤ 25 ∧ vs.length ≤ 8 ∧ ∀ s ∈ vs, s.size ≤ 25
def drawnT (w : World) (d n cap : Nat) (a : Option Addr) (e : Ending) (w' : World) : Prop := ∃ (kd : Int) (K : ByteArray) (vs : List ByteArray) (v : Value), e = .returned (.agg #[.int .i64 kd, .string K, v]) ∧ Hid (goodT kd K vs) ∧
  Hid (w'.ownsRow w.heap.size 9 1 v vs.length (strVs vs)) ∧ Hid (CurIn w' d a n cap) ∧ Hid (Out d (d + 1) w w')
theorem owns_none (w : World) (B : Nat) (e : TypeId) (size : Nat) : w.ownsRow B e size (.slice none 0 0) 0 [] := ⟨by simp, .inl ⟨rfl, rfl⟩⟩
/-- the end: the term's cells go over into the result's -/
theorem term_end {w wr : World} {d n cap B G : Nat} {a : Option Addr} {kd kz : Int} {K Kz : ByteArray} {v vz : Value} {vs : List ByteArray} (hB : B = w.heap.size) (hBG : B < G) (hd : d < B) (hall : ∀ j, j < n → ∀ b off, a = some ⟨b, off, none⟩ → b < B)
    (hg : goodT kd K vs) (ho : wr.ownsRow (G + 1) 9 1 v vs.length (strVs vs)) (hz : Trm wr B kz Kz vz) (hc : CurIn wr d a n cap) (hO : Out d (d + 1) w wr) :
    drawnT w d n cap a (.returned (.agg #[.int .i64 kd, .string K, v])) (((wr.setCell ⟨B, 0, none⟩ (.int .i64 kd)).setCell ⟨B, 1, none⟩ (.string K)).setCell ⟨B, 2, none⟩ v) := by
  have h0 : Out B (B + 1) wr (((wr.setCell ⟨B, 0, none⟩ (.int .i64 kd)).setCell ⟨B, 1, none⟩ (.string K)).setCell ⟨B, 2, none⟩ v) :=
    (((Out.refl _ _ _).setCell (p := ⟨B, 0, none⟩) (Nat.le_refl _) (Nat.lt_succ_self _) _).setCell (p := ⟨B, 1, none⟩) (Nat.le_refl _) (Nat.lt_succ_self _) _).setCell (p := ⟨B, 2, none⟩) (Nat.le_refl _) (Nat.lt_succ_self _) _
  have hb : Below B wr _ := h0.below (Nat.le_refl _) (Nat.le_of_lt hz.lt)
  refine ⟨kd, K, vs, v, rfl, hg, owns_mono (owns_out ho h0 fun g hg => ?_) (by omega), hc.frame hb hd hall, ?_⟩
  · have := (owns_blk ho hg).1
    omega
  · refine ⟨h0.os.trans hO.os, h0.tape.trans hO.tape, h0.output.trans hO.output, Nat.le_trans hO.size h0.size, fun k hk hr => ?_⟩
    exact (h0.block k (Nat.lt_of_lt_of_le hk hO.size) (by omega)).trans (hO.block k hk hr)
set_option maxRecDepth 100000 in
set_option maxHeartbeats 1600000 in
theorem l2DrawTerm_any (d n cap : Nat) (a : Option Addr) (w : World) (hn : n ≤ 1048576) (hc : CurIn w d a n cap) :
    Calls Try.prog 215 #[.pointer (some ⟨d, 0, none⟩)] w (drawnT w d n cap a) := by
  obtain ⟨i0, hi, hz0, hz1, hz2⟩ := info_parts Try.infoStr
  have Hc : Hid (CurIn (w.alloc (.cells #[.int .i64 0, .string ⟨#[]⟩, .slice none 0 0] 199)) d a n cap) := hc.later ((Below.refl _ _).alloc (Nat.le_refl _) _)
  have Hd := hide hc.lt
  have Hall := hide hc.lt_all'
  clear hc
  go_enter Try.func215, Try.ntmps215
  go_wp2_with fail
  refine (l1Below_any d n cap 5 a _ hn (by decide) Hc.out).mono ?_
  rintro e w1 ⟨x, hx, rfl, Hc1, ho1⟩
  have hx5 := hx (by decide)
  have Z1 := hide ((Trm.new w 0 ⟨#[]⟩ (.slice none 0 0) 199).out ho1 (by have := Hd.out; omega))
  have O1 : Hid (Out d (d + 1) w w1) := (Out.of_below ((Below.refl _ _).alloc (Nat.le_refl _) _)).trans ho1
  clear ho1 Hc hx
  have hwx : wrap64 (1 + (x : Int)) = 1 + (x : Int) := by simp only [wrap64]; omega
  go_wp2_with fail
  refine (l1Name_any d n cap a _ hn Hc1.out.lt Hc1.out).mono ?_
  rintro e w2 ⟨K, hK, rfl, Hc2, ho2⟩
  have Z2 := hide (Z1.out.out ho2 (by have := Hd.out; omega))
  have O2 := hide (O1.out.trans ho2)
  have HK := hide (names_small K (List.mem_append_left _ hK))
  clear ho2 hK Z1 O1 Hc1
  have HG : Hid (w.heap.size < w2.heap.size) := Z2.out.lt
  have Z3 := fun v => hide (Z2.out.out (Out.of_below (lo := 0) (hi := 0) ((Below.refl _ w2).alloc (Nat.le_refl _) (.cells #[.int .i64 (1 + (x : Int)), .string K, v] 199))) (Or.inr (Nat.zero_le _)))
  have O3 := fun v => hide (O2.out.trans (Out.of_below ((Below.refl _ w2).alloc (Nat.le_refl _) (.cells #[.int .i64 (1 + (x : Int)), .string K, v] 199))))
  have C3 := fun v => hide (Hc2.out.later ((Below.refl _ w2).alloc (Nat.le_refl _) (.cells #[.int .i64 (1 + (x : Int)), .string K, v] 199)))
  have HZ3 := hide Z3
  have HO3 := hide O3
  have HC3 := hide C3
  clear Z3 O3 C3 Hc2 O2
  rcases (show x = 0 ∨ x = 1 ∨ x = 2 ∨ x = 3 ∨ x = 4 by omega) with rfl | rfl | rfl | rfl | rfl
  · have C := hide (show CurIn (w2.alloc (.cells #[.int .i64 1, .string K, .slice none 0 0] 199)) d a n cap from (HC3.out _).out)
    have Z := hide (show Trm (w2.alloc (.cells #[.int .i64 1, .string K, .slice none 0 0] 199)) w.heap.size 0 ⟨#[]⟩ (.slice none 0 0) from (HZ3.out _).out)
    have O := hide (show Out d (d + 1) w (w2.alloc (.cells #[.int .i64 1, .string K, .slice none 0 0] 199)) from (HO3.out _).out)
    clear HZ3 HO3 HC3 Z2
    go_wp2_with fail
    refine (l1Name_any d n cap a _ hn C.out.lt C.out).mono ?_
    rintro e w4 ⟨S, hS, rfl, Hc4, ho4⟩
    have HS := hide (names_small S (List.mem_append_left _ hS))
    have T4 := hide ((Trm.new w2 1 K (.slice none 0 0) 199).out ho4 (by have := Hd.out; have := HG.out; omega))
    have Z4 := hide (Z.out.out ho4 (by have := Hd.out; omega))
    have O4 := hide (O.out.trans ho4)
    clear ho4 hS Z O C
    have Hlt := hide T4.out.lt
    have bl : Below w4.heap.size w4 (w4.alloc (.cells #[.string S] 9)) := (Below.refl _ _).alloc (Nat.le_refl _) _
    have T5 := hide (T4.out.out (Out.of_below (lo := 0) (hi := 0) bl) (Or.inr (Nat.zero_le _)))
    have Z5 := hide (Z4.out.out (Out.of_below (lo := 0) (hi := 0) bl) (Or.inr (Nat.zero_le _)))
    have O5 := hide (O4.out.trans (Out.of_below bl))
    have C5 := hide (Hc4.out.later bl)
    have W5 : Hid ((w4.alloc (.cells #[.string S] 9)).ownsRow (w2.heap.size + 1) 9 1 (.slice (some ⟨w4.heap.size, 0, none⟩) 1 1) 1 (strVs [S])) := World.ownsRow_lit w4 #[.string S] 1 (by have := Hlt.out; omega) (by decide) rfl
    clear bl T4 Z4 O4 Hc4
    have t0 := T5.out.c0
    have t1 := T5.out.c1
    have t2 := T5.out.c2
    have s0 := T5.out.f0
    have s1 := T5.out.f1
    have s2 := T5.out.f2
    have z0 := Z5.out.c0
    have z1 := Z5.out.c1
    have z2 := Z5.out.c2
    have y0 := Z5.out.f0
    have y1 := Z5.out.f1
    have y2 := Z5.out.f2
    have hne : ¬ w2.heap.size = w.heap.size := by have := HG.out; omega
    have hne' : ¬ w.heap.size = w2.heap.size := by have := HG.out; omega
    go_wp2
    have so : Out w2.heap.size (w2.heap.size + 1) (w4.alloc (.cells #[.string S] 9)) ((w4.alloc (.cells #[.string S] 9)).setCell ⟨w2.heap.size, 2, none⟩ (.slice (some ⟨w4.heap.size, 0, none⟩) 1 1)) := (Out.refl _ _ _).setCell (p := ⟨w2.heap.size, 2, none⟩) (Nat.le_refl _) (Nat.lt_succ_self _) _
    have Z6 := Z5.out.out so (Or.inl HG.out)
    exact ret_trm (B := w.heap.size) Try.results215 rfl (Z6.set3 _ _ _) (term_end (G := w2.heap.size) (vs := [S]) rfl HG.out Hd.out Hall.out ⟨by decide, by decide, HK.out, by simp, fun s h => by rw [List.mem_singleton.1 h]; exact HS.out⟩
      (owns_out W5.out so (fun g hg => Or.inr (owns_blk W5.out hg).1)) Z6 (C5.out.frame (so.below (Nat.le_of_lt HG.out) (Nat.le_of_lt Z5.out.lt)) Hd.out Hall.out) (O5.out.past so (Nat.le_of_lt HG.out)))
  · have C := hide (show CurIn (w2.alloc (.cells #[.int .i64 2, .string K, .slice none 0 0] 199)) d a n cap from (HC3.out _).out)
    have Z := hide (show Trm (w2.alloc (.cells #[.int .i64 2, .string K, .slice none 0 0] 199)) w.heap.size 0 ⟨#[]⟩ (.slice none 0 0) from (HZ3.out _).out)
    have O := hide (show Out d (d + 1) w (w2.alloc (.cells #[.int .i64 2, .string K, .slice none 0 0] 199)) from (HO3.out _).out)
    clear HZ3 HO3 HC3 Z2
    go_wp2_with fail
    refine (l1Name_any d n cap a _ hn C.out.lt C.out).mono ?_
    rintro e w4 ⟨S, hS, rfl, Hc4, ho4⟩
    have HS := hide (names_small S (List.mem_append_left _ hS))
    have T4 := hide ((Trm.new w2 2 K (.slice none 0 0) 199).out ho4 (by have := Hd.out; have := HG.out; omega))
    have Z4 := hide (Z.out.out ho4 (by have := Hd.out; omega))
    have O4 := hide (O.out.trans ho4)
    clear ho4 hS Z O C
    have Hlt := hide T4.out.lt
    have bl : Below w4.heap.size w4 (w4.alloc (.cells #[.string S] 9)) := (Below.refl _ _).alloc (Nat.le_refl _) _
    have T5 := hide (T4.out.out (Out.of_below (lo := 0) (hi := 0) bl) (Or.inr (Nat.zero_le _)))
    have Z5 := hide (Z4.out.out (Out.of_below (lo := 0) (hi := 0) bl) (Or.inr (Nat.zero_le _)))
    have O5 := hide (O4.out.trans (Out.of_below bl))
    have C5 := hide (Hc4.out.later bl)
    have W5 : Hid ((w4.alloc (.cells #[.string S] 9)).ownsRow (w2.heap.size + 1) 9 1 (.slice (some ⟨w4.heap.size, 0, none⟩) 1 1) 1 (strVs [S])) := World.ownsRow_lit w4 #[.string S] 1 (by have := Hlt.out; omega) (by decide) rfl
    clear bl T4 Z4 O4 Hc4
    have t0 := T5.out.c0
    have t1 := T5.out.c1
    have t2 := T5.out.c2
    have s0 := T5.out.f0
    have s1 := T5.out.f1
    have s2 := T5.out.f2
    have z0 := Z5.out.c0
    have z1 := Z5.out.c1
    have z2 := Z5.out.c2
    have y0 := Z5.out.f0
    have y1 := Z5.out.f1
    have y2 := Z5.out.f2
    have hne : ¬ w2.heap.size = w.heap.size := by have := HG.out; omega
    have hne' : ¬ w.heap.size = w2.heap.size := by have := HG.out; omega
    go_wp2
    have so : Out w2.heap.size (w2.heap.size + 1) (w4.alloc (.cells #[.string S] 9)) ((w4.alloc (.cells #[.string S] 9)).setCell ⟨w2.heap.size, 2, none⟩ (.slice (some ⟨w4.heap.size, 0, none⟩) 1 1)) := (Out.refl _ _ _).setCell (p := ⟨w2.heap.size, 2, none⟩) (Nat.le_refl _) (Nat.lt_succ_self _) _
    have Z6 := Z5.out.out so (Or.inl HG.out)
    exact ret_trm (B := w.heap.size) Try.results215 rfl (Z6.set3 _ _ _) (term_end (G := w2.heap.size) (vs := [S]) rfl HG.out Hd.out Hall.out ⟨by decide, by decide, HK.out, by simp, fun s h => by rw [List.mem_singleton.1 h]; exact HS.out⟩
      (owns_out W5.out so (fun g hg => Or.inr (owns_blk W5.out hg).1)) Z6 (C5.out.frame (so.below (Nat.le_of_lt HG.out) (Nat.le_of_lt Z5.out.lt)) Hd.out Hall.out) (O5.out.past so (Nat.le_of_lt HG.out)))
  · have C := hide (show CurIn (w2.alloc (.cells #[.int .i64 3, .string K, .slice none 0 0] 199)) d a n cap from (HC3.out _).out)
    have Z := hide (show Trm (w2.alloc (.cells #[.int .i64 3, .string K, .slice none 0 0] 199)) w.heap.size 0 ⟨#[]⟩ (.slice none 0 0) from (HZ3.out _).out)
    have O := hide (show Out d (d + 1) w (w2.alloc (.cells #[.int .i64 3, .string K, .slice none 0 0] 199)) from (HO3.out _).out)
    clear HZ3 HO3 HC3 Z2
    go_wp2_with fail
    refine (l1Draw_any d n cap 5 a _ hn (by decide) (by decide) C.out).mono ?_
    rintro e w4 ⟨ls, g, c, rfl, Hs, Hw, Hc4, ho4⟩
    have T4 := hide ((Trm.new w2 3 K (.slice none 0 0) 199).out ho4.out (by have := Hd.out; have := HG.out; omega))
    have Z4 := hide (Z.out.out ho4.out (by have := Hd.out; omega))
    have O4 := hide (O.out.trans ho4.out)
    have Hw4 : Hid (w4.ownsRow (w2.heap.size + 1) 212 2 (.slice (some ⟨g, 0, none⟩) ls.length c) ls.length (flat ls)) := owns_mono Hw.out (by simp)
    clear ho4 Z O C Hw
    go_wp2_with fail
    go_loopw [5] (fun i wr => ∃ (k : Nat) (v : Value), k ≤ ls.length ∧ i = .int .i64 k ∧ Hid (wr.ownsRow (w2.heap.size + 1) 212 2 (.slice (some ⟨g, 0, none⟩) ls.length c) ls.length (flat ls)) ∧ Hid (wr.ownsRow (w2.heap.size + 1) 9 1 v k (strVs ((ls.take k).map (·.1)))) ∧ Hid (v.ownBlock ≠ some g) ∧
      Hid (Trm wr w2.heap.size 3 K v) ∧ Hid (Trm wr w.heap.size 0 ⟨#[]⟩ (.slice none 0 0)) ∧ Hid (CurIn wr d a n cap) ∧ Hid (Out d (d + 1) w wr)) (fun i _ => ls.length - (intOf i).toNat)
    case atStart => exact ⟨0, .slice none 0 0, Nat.zero_le _, rfl, Hw4, owns_none _ _ _ _, (by intro h; cases h), T4, Z4, Hc4, O4⟩
    case round =>
      clear Hw4 T4 Z4 Hc4 O4
      obtain ⟨k, v, hk, rfl, Hw, Hv, Hne, HT, HZ, HC, HO⟩ := hrel
      obtain ⟨av, cv, rfl, hso, hcv, hnv⟩ := strOf_own Hv.out (by rw [List.length_map, List.length_take]; omega)
      have t0 := HT.out.c0
      have t1 := HT.out.c1
      have t2 := HT.out.c2
      have s0 := HT.out.f0
      have s1 := HT.out.f1
      have s2 := HT.out.f2
      clear hso hcv hnv
      by_cases hlt : k < ls.length
      · have hc := (cellsOf_of (labs_of_owns' Hw.out) k hlt).1
        rw [Nat.zero_add] at hc
        have Hsm := hide (Hs.out.2 _ (List.getElem_mem hlt)).1
        have hkl : (k : Int) < (ls.length : Int) := by omega
        have Hn : Hid (strVs ((ls.take (k + 1)).map (·.1)) = strVs ((ls.take k).map (·.1)) ++ [.string (keyAt ls k)]) := by
          show _ = _
          rw [take_succ_at ls k hlt, List.map_append]
          unfold strVs
          rw [List.map_append]
          rfl
        have Hbase : Hid (w2.heap.size + 1 ≤ wr.heap.size) := by have := HT.out.lt; show _ ≤ _; omega
        have hl8 : k ≤ 8 := by have := Hs.out.1; omega
        have hGl : w2.heap.size < wr.heap.size := HT.out.lt
        have hgl : g < wr.heap.size := (owns_blk Hw.out (g := g) rfl).2
        generalize keyAt ls k = S at *
        go_wp2
        go_region_law (refine step_append_lies _ rfl (.tmp 32) (.tmp 38) 25 rfl (w2.heap.size + 1) 9 i0 _ 1 16 Try.underlying25 hi hz0 hz1 hz2 rfl (by decide) (.slice av k cv) k _ (by simp [Act.eval]) (Hv.out.alloc _).drew ⟨wr.heap.size, 0, none⟩ 1 1 [.string S] (by simp [Act.eval]) rfl (fun j u hj => cell_one_new wr S _ j u hj) (fun x hx => by simp at hx; rcases hx with rfl; rfl) (by decide) (by unfold maxLen; omega) (by omega) (by have := Hbase.out; simp; omega) _ rfl ?_; intro g' cap' w5 hown' hgrow5 hat5 hlt5; have T5 := Trm.step hgrow5 (fun b hb e => by have := (owns_blk Hv.out hb).1; omega) HT.out; have q2 := T5.c2; have r2 := T5.f2)
        all_goals (
          have so : Out w2.heap.size (w2.heap.size + 1) w5 (w5.setCell ⟨w2.heap.size, 2, none⟩ (.slice (some ⟨g', 0, none⟩) (k + 1) cap')) := (Out.refl _ _ _).setCell (p := ⟨w2.heap.size, 2, none⟩) (Nat.le_refl _) (Nat.lt_succ_self _) _
          have hrow : ∀ b, (Value.slice av k cv).ownBlock = some b → w2.heap.size + 1 ≤ b := fun b hb => (owns_blk Hv.out hb).1
          have hb1 : Below wr.heap.size wr (wr.alloc (.cells #[.string S] 9)).drew := ((Below.refl _ _).alloc (Nat.le_refl _) _).drew
          have HO6 := hide ((Out.grown (HO.out.trans (Out.of_below hb1)) hgrow5 (fun b hb => by have := hrow b hb; have := HG.out; omega)).past so (Nat.le_of_lt HG.out))
          have Z5 := Trm.step hgrow5 (fun b hb e => by have := hrow b hb; have := HG.out; omega) HZ.out
          have HZ6 := hide (Z5.out so (Or.inl HG.out))
          have HT6 := hide (T5.set (.slice (some ⟨g', 0, none⟩) (k + 1) cap'))
          have HC6 := hide ((CurIn.grown (B := w.heap.size) (HC.out.later hb1) hgrow5 (fun b hb => by have := hrow b hb; have := HG.out; omega) Hd.out Hall.out).frame (so.below (Nat.le_of_lt HG.out) (Nat.le_of_lt Z5.lt)) Hd.out Hall.out)
          have hgg : g' ≠ g := by
            rcases hat5 with h | h
            · intro e; subst e; exact Hne.out h
            · rw [h]; simp; omega
          have Hw6 := hide (owns_out (owns_grownT ((Hw.out.alloc _).drew) hgrow5 (by intro h; exact Hne.out h)) so (fun b hb => Or.inr (owns_blk Hw.out hb).1))
          have Hv6 : Hid ((w5.setCell ⟨w2.heap.size, 2, none⟩ (.slice (some ⟨g', 0, none⟩) (k + 1) cap')).ownsRow (w2.heap.size + 1) 9 1 (.slice (some ⟨g', 0, none⟩) (k + 1) cap') (k + 1) (strVs ((ls.take (k + 1)).map (·.1)))) := by
            show World.ownsRow _ _ _ _ _ _ _
            rw [Hn.out]
            exact owns_out hown' so (fun b hb => Or.inr (owns_blk hown' hb).1)
          clear so hrow hb1 Z5 T5 q2 r2 hown' hgrow5 hat5 hlt5 Hw Hv HT HZ HC HO t0 t1 t2 s0 s1 s2 hc
          go_wp2
          go_roundw
          case rel => exact ⟨k + 1, _, by omega, by go_num, Hw6, Hv6, (by intro h; cases h; exact hgg rfl), HT6, HZ6, HC6, HO6⟩
          case measure => simp [intOf]; omega)
      · have e : k = ls.length := by omega
        subst e
        clear hlt hk
        have z0 := HZ.out.c0
        have z1 := HZ.out.c1
        have z2 := HZ.out.c2
        have y0 := HZ.out.f0
        have y1 := HZ.out.f1
        have y2 := HZ.out.f2
        rw [List.take_length] at Hv
        have hne : ¬ w2.heap.size = w.heap.size := by have := HG.out; omega
        have hne' : ¬ w.heap.size = w2.heap.size := by have := HG.out; omega
        by_cases hz : ls.length = 0
        · have hzb : (((ls.length : Nat) : Int) == 0) = true := by rw [beq_iff_eq]; omega
          clear hz
          have bl : Below wr.heap.size wr (wr.alloc (.cells #[.string ⟨#[97]⟩] 9)) := (Below.refl _ _).alloc (Nat.le_refl _) _
          have Hlt := hide HT.out.lt
          have T5 := hide (HT.out.out (Out.of_below (lo := 0) (hi := 0) bl) (Or.inr (Nat.zero_le _)))
          have Z5 := hide (HZ.out.out (Out.of_below (lo := 0) (hi := 0) bl) (Or.inr (Nat.zero_le _)))
          have O5 := hide (HO.out.trans (Out.of_below bl))
          have C5 := hide (HC.out.later bl)
          have W5 : Hid ((wr.alloc (.cells #[.string ⟨#[97]⟩] 9)).ownsRow (w2.heap.size + 1) 9 1 (.slice (some ⟨wr.heap.size, 0, none⟩) 1 1) 1 (strVs [⟨#[97]⟩])) := World.ownsRow_lit wr #[.string ⟨#[97]⟩] 1 (by have := Hlt.out; omega) (by decide) rfl
          have a0 := T5.out.c0
          have a1 := T5.out.c1
          have a2 := T5.out.c2
          have e0 := T5.out.f0
          have e1 := T5.out.f1
          have e2 := T5.out.f2
          have b0 := Z5.out.c0
          have b1 := Z5.out.c1
          have b2 := Z5.out.c2
          have x0 := Z5.out.f0
          have x1 := Z5.out.f1
          have x2 := Z5.out.f2
          clear bl HT HZ HO HC Hv
          go_wp2
          have so : Out w2.heap.size (w2.heap.size + 1) (wr.alloc (.cells #[.string ⟨#[97]⟩] 9)) ((wr.alloc (.cells #[.string ⟨#[97]⟩] 9)).setCell ⟨w2.heap.size, 2, none⟩ (.slice (some ⟨wr.heap.size, 0, none⟩) 1 1)) := (Out.refl _ _ _).setCell (p := ⟨w2.heap.size, 2, none⟩) (Nat.le_refl _) (Nat.lt_succ_self _) _
          have Z6 := Z5.out.out so (Or.inl HG.out)
          exact ret_trm (B := w.heap.size) Try.results215 rfl (Z6.set3 _ _ _) (term_end (G := w2.heap.size) (vs := [⟨#[97]⟩]) rfl HG.out Hd.out Hall.out ⟨by decide, by decide, HK.out, by decide, by decide⟩
            (owns_out W5.out so (fun g hg => Or.inr (owns_blk W5.out hg).1)) Z6 (C5.out.frame (so.below (Nat.le_of_lt HG.out) (Nat.le_of_lt Z5.out.lt)) Hd.out Hall.out) (O5.out.past so (Nat.le_of_lt HG.out)))
        · have hz' : ¬ ((ls.length : Nat) : Int) = 0 := by omega
          have hzb : (((ls.length : Nat) : Int) == 0) = false := by rw [beq_eq_false_iff_ne]; omega
          go_wp2
          exact ret_trm (B := w.heap.size) Try.results215 rfl (HZ.out.set3 _ _ _) (term_end (G := w2.heap.size) (vs := ls.map (·.1)) rfl HG.out Hd.out Hall.out ⟨by decide, by decide, HK.out, by rw [List.length_map]; exact Hs.out.1, fun s h => by
            obtain ⟨p, hp, rfl⟩ := List.mem_map.1 h
            exact (Hs.out.2 p hp).1⟩ (by rw [List.length_map]; exact Hv.out) HZ.out HC.out HO.out)
  · have Z := hide (show Trm (w2.alloc (.cells #[.int .i64 4, .string K, .slice none 0 0] 199)) w.heap.size 0 ⟨#[]⟩ (.slice none 0 0) from (HZ3.out _).out)
    have O := hide (show Out d (d + 1) w (w2.alloc (.cells #[.int .i64 4, .string K, .slice none 0 0] 199)) from (HO3.out _).out)
    have C := hide (show CurIn (w2.alloc (.cells #[.int .i64 4, .string K, .slice none 0 0] 199)) d a n cap from (HC3.out _).out)
    clear HZ3 HO3 HC3 Z2
    have z0 := Z.out.c0
    have z1 := Z.out.c1
    have z2 := Z.out.c2
    have y0 := Z.out.f0
    have y1 := Z.out.f1
    have y2 := Z.out.f2
    go_wp2
    exact ret_trm (B := w.heap.size) Try.results215 rfl (Z.out.set3 _ _ _) (term_end (G := w2.heap.size) (vs := []) rfl HG.out Hd.out Hall.out ⟨by decide, by decide, HK.out, by decide, fun s h => by cases h⟩ (owns_none _ _ _ _) Z.out C.out O.out)
  · have Z := hide (show Trm (w2.alloc (.cells #[.int .i64 5, .string K, .slice none 0 0] 199)) w.heap.size 0 ⟨#[]⟩ (.slice none 0 0) from (HZ3.out _).out)
    have O := hide (show Out d (d + 1) w (w2.alloc (.cells #[.int .i64 5, .string K, .slice none 0 0] 199)) from (HO3.out _).out)
    have C := hide (show CurIn (w2.alloc (.cells #[.int .i64 5, .string K, .slice none 0 0] 199)) d a n cap from (HC3.out _).out)
    clear HZ3 HO3 HC3 Z2
    have z0 := Z.out.c0
    have z1 := Z.out.c1
    have z2 := Z.out.c2
    have y0 := Z.out.f0
    have y1 := Z.out.f1
    have y2 := Z.out.f2
    go_wp2
    exact ret_trm (B := w.heap.size) Try.results215 rfl (Z.out.set3 _ _ _) (term_end (G := w2.heap.size) (vs := []) rfl HG.out Hd.out Hall.out ⟨by decide, by decide, HK.out, by decide, fun s h => by cases h⟩ (owns_none _ _ _ _) Z.out C.out O.out)
end Go.Proofs.Ytdnodaoeflbfkaa
namespace Go.Proofs.Ytdnodaoeflbfkaa
open Go.RowKit Go.BigFrame
set_option linter.unusedVariables false
/-! terms that are drawn, in a row -/
def OTD (w : World) (lo g cap : Nat) (xs : List Value) (V : Nat → Value) (ts : List TD) : Prop :=
  w.ownsRow lo 199 3 (.slice (some ⟨g, 0, none⟩) ts.length cap) ts.length xs ∧ (∀ j (hj : j < ts.length), termOwn w lo xs V g j ts[j]) ∧ apart V ts.length
theorem OTD.own {w : World} {lo g cap : Nat} {xs : List Value} {V : Nat → Value} {ts : List TD} (h : OTD w lo g cap xs V ts) : ownTs w lo g cap ts := ⟨xs, V, h⟩
theorem owns_grownD {w w' : World} {B n : Nat} {u : Value} {e : TypeId} {size : Nat} {xs : List Value} {row : Option Nat} (h : w.ownsRow B e size u n xs) (hg : w.grownBy w' row) (hne : ∀ b, u.ownBlock = some b → row ≠ some b) : w'.ownsRow B e size u n xs := by
  obtain ⟨h1, h2⟩ := h
  refine ⟨h1, ?_⟩
  rcases h2 with h | ⟨g, cap, cur, h, hb, hh, r⟩
  · exact .inl h
  · refine .inr ⟨g, cap, cur, h, hb, ?_, r⟩
    rw [hg.block g (Array.getElem?_eq_some_iff.1 hh).1 (fun e => hne g (by rw [h]; rfl) e.symm)]
    exact hh
theorem OTD_push {wr w2 w3 : World} {lo g cap g' cap' : Nat} {xs : List Value} {V : Nat → Value} {ts : List TD} {t : TD} {v : Value} {o : Obj} {d : Nat} (h : OTD wr lo g cap xs V ts) (hb : Out d (d + 1) wr w2) (hd : d < lo)
    (hv : w2.ownsRow wr.heap.size 9 1 v t.2.2.length (strVs t.2.2)) (hlo : lo ≤ wr.heap.size)
    (hown : w3.ownsRow lo 199 3 (.slice (some ⟨g', 0, none⟩) (ts.length + 1) cap') (ts.length + 1) (xs ++ [.int .i64 t.1, .string t.2.1, v]))
    (hg : (w2.alloc o).grownBy w3 (some g)) (hat : some g = some g' ∨ g' = (w2.alloc o).heap.size) :
    OTD w3 lo g' cap' (xs ++ [.int .i64 t.1, .string t.2.1, v]) (fun j => if j = ts.length then v else V j) (ts ++ [t]) := by
  obtain ⟨h1, h2, h3⟩ := h
  have hgl : lo ≤ g ∧ g < wr.heap.size := owns_blk h1 rfl
  have hsz := hb.size
  have hxl : xs.length = ts.length * 3 := h1.1
  have hg' : g' = g ∨ g' = w2.heap.size + 1 := by
    rcases hat with e | e
    · left; cases e; rfl
    · right; rw [e]; simp
  have hvb : ∀ b, v.ownBlock = some b → wr.heap.size ≤ b ∧ b < w2.heap.size := fun b e => owns_blk hv e
  have hVb : ∀ j, j < ts.length → ∀ b, (V j).ownBlock = some b → lo ≤ b ∧ b < wr.heap.size := fun j hj b e => owns_blk (h2 j hj).2.2.2.1 e
  refine ⟨by rw [List.length_append]; exact hown, fun j hj => ?_, ?_⟩
  · rw [List.length_append, List.length_singleton] at hj
    by_cases e : j = ts.length
    · subst e
      have et : (ts ++ [t])[ts.length]'(by simp) = t := by simp
      rw [et]
      refine ⟨?_, ?_, ?_, ?_, ?_⟩
      · rw [List.getElem?_append_right (by omega), show ts.length * 3 - xs.length = 0 from by omega]; rfl
      · rw [List.getElem?_append_right (by omega), show ts.length * 3 + 1 - xs.length = 1 from by omega]; rfl
      · rw [List.getElem?_append_right (by omega), show ts.length * 3 + 2 - xs.length = 2 from by omega]; simp
      · simp only [if_true]
        exact owns_mono (owns_grownD (hv.alloc o) hg (fun b hb' e' => by cases e'; have := hvb _ hb'; omega)) hlo
      · simp only [if_true]
        intro e'
        have := hvb _ e'
        omega
    · obtain ⟨a0, a1, a2, a3, a4⟩ := h2 j (by omega)
      have et : (ts ++ [t])[j]'(by simp; omega) = ts[j]'(by omega) := List.getElem_append_left (by omega)
      rw [et]
      refine ⟨?_, ?_, ?_, ?_, ?_⟩
      · rw [List.getElem?_append_left (by omega)]; exact a0
      · rw [List.getElem?_append_left (by omega)]; exact a1
      · rw [List.getElem?_append_left (by omega)]; simp only [e, if_false]; exact a2
      · simp only [e, if_false]
        exact owns_grownD ((owns_out a3 hb (fun b hb'' => .inr (by have := (owns_blk a3 hb'').1; omega))).alloc o) hg (fun b hb' e' => by cases e'; exact a4 hb')
      · simp only [e, if_false]
        intro e'
        have := hVb j (by omega) _ e'
        rcases hg' with e2 | e2
        · rw [e2] at e'; exact a4 e'
        · omega
  · rw [List.length_append, List.length_singleton]
    intro i j hi hj hij b h4 h5
    by_cases ei : i = ts.length
    · have ej : j ≠ ts.length := by omega
      simp only [ei, if_true] at h4
      simp only [ej, if_false] at h5
      have := hvb b h4
      have := hVb j (by omega) b h5
      omega
    · simp only [ei, if_false] at h4
      by_cases ej : j = ts.length
      · simp only [ej, if_true] at h5
        have := hvb b h5
        have := hVb i (by omega) b h4
        omega
      · simp only [ej, if_false] at h5
        exact h3 i j (by omega) (by omega) hij b h4 h5
theorem OTD.out {w w' : World} {lo g cap d : Nat} {xs : List Value} {V : Nat → Value} {ts : List TD} (h : OTD w lo g cap xs V ts) (hb : Out d (d + 1) w w') (hd : d < lo) : OTD w' lo g cap xs V ts := by
  obtain ⟨h1, h2, h3⟩ := h
  refine ⟨owns_out h1 hb (fun b e => .inr (by have := (owns_blk h1 e).1; omega)), fun j hj => ?_, h3⟩
  obtain ⟨a0, a1, a2, a3, a4⟩ := h2 j hj
  exact ⟨a0, a1, a2, owns_out a3 hb (fun b e => .inr (by have := (owns_blk a3 e).1; omega)), a4⟩
theorem cell_three_new (w : World) (a b c : Value) (t : TypeId) : ∀ j u, [a, b, c][j]? = some u → (w.alloc (.cells #[a, b, c] t)).cell? ((⟨w.heap.size, 0, none⟩ : Addr).add j) = some u := by
  intro j u h
  match j with
  | 0 => simp at h; subst h; simp [Addr.add, go_sem]
  | 1 => simp at h; subst h; simp [Addr.add, go_sem]
  | 2 => simp at h; subst h; simp [Addr.add, go_sem]
  | j + 3 => simp at h
def goodTs (ts : List TD) : Prop := ∀ t ∈ ts, goodT t.1 t.2.1 t.2.2
def drawnTs (k : Nat) (w : World) (d n cap : Nat) (a : Option Addr) (e : Ending) (w' : World) : Prop := ∃ (ts : List TD) (g c : Nat), e = .returned (.slice (some ⟨g, 0, none⟩) ts.length c) ∧ Hid (ts.length ≤ k ∧ goodTs ts) ∧
  Hid (ownTs w' w.heap.size g c ts) ∧ Hid (CurIn w' d a n cap) ∧ Hid (Out d (d + 1) w w')
set_option maxRecDepth 100000 in
set_option maxHeartbeats 1600000 in
theorem l2Draw_any (d n cap m : Nat) (a : Option Addr) (w : World) (hn : n ≤ 1048576) (hm0 : 0 < m) (hm : m ≤ 9) (hc : CurIn w d a n cap) :
    Calls Try.prog 174 #[.pointer (some ⟨d, 0, none⟩), .int .i64 m] w (drawnTs 8 w d n cap a) := by
  obtain ⟨i0, hi, hz0, hz1, hz2⟩ := info_parts Try.infoTerm
  have Hc : Hid (CurIn (w.alloc (.cells #[] 199)) d a n cap) := hc.later ((Below.refl _ _).alloc (Nat.le_refl _) _)
  have Hd := hide hc.lt
  have Hall := hide hc.lt_all'
  clear hc
  go_enter Try.func174, Try.ntmps174
  go_wp2_with fail
  refine (l1Below_any d n cap m a _ hn (by omega) Hc.out).mono ?_
  rintro e w1 ⟨q, hq, rfl, hc1, ho1⟩
  have hq8 : q ≤ 8 := by have := hq hm0; omega
  clear hq
  have O1 : Hid (Out d (d + 1) w w1) := (Out.of_below ((Below.refl _ _).alloc (Nat.le_refl _) _)).trans ho1
  have W00 : OTD (w.alloc (.cells #[] 199)) w.heap.size w.heap.size 0 [] (fun _ => .slice none 0 0) [] := by
    refine ⟨World.ownsRow_lit w #[] 0 (Nat.le_refl _) (by decide) rfl, ?_, ?_⟩
    · intro j hj; exact absurd hj (by simp)
    · intro i j hi; exact absurd hi (by simp)
  have W0 : Hid (OTD w1 w.heap.size w.heap.size 0 [] (fun _ => .slice none 0 0) []) := OTD.out W00 ho1 Hd.out
  clear W00
  clear ho1 Hc
  go_wp2_with fail
  go_loopw [5, 6] (fun v i wr => ∃ (ts : List TD) (g c k : Nat) (xs : List Value) (V : Nat → Value), v = .slice (some ⟨g, 0, none⟩) ts.length c ∧ i = .int .i64 k ∧ Hid (ts.length + k ≤ 8 ∧ goodTs ts) ∧
      Hid (OTD wr w.heap.size g c xs V ts) ∧ Hid (CurIn wr d a n cap) ∧ Hid (Out d (d + 1) w wr)) (fun _ i _ => (intOf i).toNat)
  case atStart => exact ⟨[], _, _, q, [], _, rfl, rfl, ⟨by simpa using hq8, fun p hp => by cases hp⟩, W0, hc1, O1⟩
  case round =>
    clear W0 O1 hc1 hq8
    obtain ⟨ts, g, c, k, xs, V, rfl, rfl, Hs, Hw, Hc, Ho⟩ := hrel
    by_cases hk : 0 < k
    · have hk' : (0 : Int) < (k : Int) := by omega
      have hk8 : k ≤ 8 := by have := Hs.out.1; omega
      have hl8 : ts.length ≤ 8 := by have := Hs.out.1; omega
      have Hk : Hid (0 < k ∧ k ≤ 8) := ⟨hk, hk8⟩
      go_wp2_with fail
      refine (l2DrawTerm_any d n cap a _ hn Hc.out).mono ?_
      rintro e w2 ⟨kd, K, vs, v, rfl, Hg, Hv, Hc2, Ho2⟩
      obtain ⟨av, cv, rfl, _, _, _⟩ := strOf_own Hv.out rfl
      have Hw2 := hide (Hw.out.out Ho2.out Hd.out)
      have O2 := hide (Ho.out.trans Ho2.out)
      have Hsz := hide (show w.heap.size ≤ w2.heap.size from O2.out.size)
      have Hwz := hide (show w.heap.size ≤ wr.heap.size from Ho.out.size)
      clear Ho Hc
      go_wp2_with (at_builtin; refine wpList_append_lies _ rfl _ _ 38 rfl w.heap.size 199 i0 _ 3 48 Try.underlying38 hi hz0 hz1 hz2 rfl (by decide) _ _ _ rfl (Hw2.out.1.alloc _) ⟨w2.heap.size, 0, none⟩ 1 1 [.int .i64 kd, .string K, .slice av vs.length cv] rfl rfl (cell_three_new _ _ _ _ _) (fun x hx => by simp at hx; rcases hx with rfl | rfl | rfl <;> rfl) (by decide) (by unfold maxLen; omega) (by omega) (by have := Hsz.out; simp; omega) _ rfl ?_; intro g5 c5 w5 hown5 hgrow5 hat5 hlt5)
      have P5 := OTD_push (t := (kd, K, vs)) Hw.out Ho2.out Hd.out Hv.out Hwz.out hown5 hgrow5 hat5
      have al : Below w2.heap.size w2 (w2.alloc (.cells #[.int .i64 kd, .string K, .slice av vs.length cv] 199)) := (Below.refl _ _).alloc (Nat.le_refl _) _
      have hgb : ∀ b, (Value.slice (some ⟨g, 0, none⟩) ts.length c).ownBlock = some b → w.heap.size ≤ b := fun b hb => (owns_blk Hw.out.1 hb).1
      have O5 := hide (Out.grown (O2.out.trans (Out.of_below al)) hgrow5 hgb)
      have C5 := hide (CurIn.grown (B := w.heap.size) (Hc2.out.later al) hgrow5 hgb Hd.out Hall.out)
      have hln : ts.length + 1 = (ts ++ [(kd, K, vs)]).length := by rw [List.length_append, List.length_singleton]
      have S5 : Hid ((ts ++ [(kd, K, vs)]).length + (k - 1) ≤ 8 ∧ goodTs (ts ++ [(kd, K, vs)])) := ⟨by rw [← hln]; have := Hs.out.1; omega, fun t ht => by
        rcases List.mem_append.1 ht with h | h
        · exact Hs.out.2 t h
        · rw [List.mem_singleton.1 h]; exact Hg.out⟩
      rw [hln]
      have HP5 := hide P5
      clear P5 hown5 hgrow5 hat5 hlt5 al hgb hln Hw Hw2 O2 Ho2 Hc2 Hv Hg Hs Hsz Hwz hl8
      go_wp2
      go_roundw
      case rel => exact ⟨ts ++ [(kd, K, vs)], g5, c5, k - 1, _, _, rfl, by go_num, S5, HP5, C5, O5⟩
      case measure => have := Hk.out; simp [intOf]; omega
    · have hk' : ¬ (0 : Int) < (k : Int) := by omega
      go_wp2
      go_ret
      exact ⟨ts, g, c, rfl, ⟨by have := Hs.out.1; omega, Hs.out.2⟩, Hw.out.own, Hc, Ho⟩
end Go.Proofs.Ytdnodaoeflbfkaa
namespace Go.Proofs.Ytdnodaoeflbfkaa
open Go.RowKit Go.BigFrame
set_option linter.unusedVariables false
/-! a store into one term of a row -/
theorem OTD.put {w : World} {lo g cap : Nat} {xs : List Value} {V V' : Nat → Value} {ts : List TD} (h : OTD w lo g cap xs V ts) {j o : Nat} (hj : j < ts.length) (ho : o < 3) (u : Value) (t' : TD)
    (c0 : (xs.set (j * 3 + o) u)[j * 3]? = some (.int .i64 t'.1)) (c1 : (xs.set (j * 3 + o) u)[j * 3 + 1]? = some (.string t'.2.1)) (c2 : (xs.set (j * 3 + o) u)[j * 3 + 2]? = some (V' j))
    (hv : w.ownsRow lo 9 1 (V' j) t'.2.2.length (strVs t'.2.2)) (hg : (V' j).ownBlock ≠ some g) (hV : ∀ i, i ≠ j → V' i = V i) (hap : apart V' ts.length) :
    OTD (w.setCell ⟨g, j * 3 + o, none⟩ u) lo g cap (xs.set (j * 3 + o) u) V' (ts.set j t') := by
  obtain ⟨h1, h2, h3⟩ := h
  have so : Out g (g + 1) w (w.setCell ⟨g, j * 3 + o, none⟩ u) := (Out.refl _ _ _).setCell (p := ⟨g, j * 3 + o, none⟩) (Nat.le_refl _) (Nat.lt_succ_self _) _
  have hb : ∀ (v : Value), v.ownBlock ≠ some g → ∀ b, v.ownBlock = some b → b < g ∨ g + 1 ≤ b := fun v hv b hb => by
    have : b ≠ g := by intro e; subst e; exact hv hb
    omega
  refine ⟨?_, fun i hi => ?_, ?_⟩
  · rw [List.length_set]
    exact (h1.stored (j * 3 + o) u).1
  · have hi' : i < ts.length := by rw [List.length_set] at hi; exact hi
    by_cases e : i = j
    · subst e
      have et : (ts.set i t')[i]'hi = t' := List.getElem_set_self _
      rw [et]
      exact ⟨c0, c1, c2, owns_out hv so (hb _ hg), hg⟩
    · obtain ⟨a0, a1, a2, a3, a4⟩ := h2 i hi'
      have et : (ts.set j t')[i]'hi = ts[i] := List.getElem_set_ne (fun q => e q.symm) _
      rw [et]
      refine ⟨?_, ?_, ?_, ?_, ?_⟩
      · rw [List.getElem?_set_ne (by omega)]; exact a0
      · rw [List.getElem?_set_ne (by omega)]; exact a1
      · rw [List.getElem?_set_ne (by omega), hV i e]; exact a2
      · rw [hV i e]; exact owns_out a3 so (hb _ a4)
      · rw [hV i e]; exact a4
  · rw [List.length_set]; exact hap
theorem OTD.kind {w : World} {lo g cap : Nat} {xs : List Value} {V : Nat → Value} {ts : List TD} (h : OTD w lo g cap xs V ts) {j : Nat} (hj : j < ts.length) (kd : Int) :
    OTD (w.setCell ⟨g, j * 3, none⟩ (.int .i64 kd)) lo g cap (xs.set (j * 3) (.int .i64 kd)) V (ts.set j (kd, (ts[j]'hj).2)) := by
  have hx : xs.length = ts.length * 3 := h.1.1
  obtain ⟨a0, a1, a2, a3, a4⟩ := h.2.1 j hj
  exact h.put (o := 0) hj (by decide) (.int .i64 kd) (kd, (ts[j]'hj).2) (List.getElem?_set_self (by omega)) (by rw [List.getElem?_set_ne (by omega)]; exact a1) (by rw [List.getElem?_set_ne (by omega)]; exact a2) a3 a4 (fun _ _ => rfl) h.2.2
theorem OTD.key {w : World} {lo g cap : Nat} {xs : List Value} {V : Nat → Value} {ts : List TD} (h : OTD w lo g cap xs V ts) {j : Nat} (hj : j < ts.length) (K : ByteArray) :
    OTD (w.setCell ⟨g, j * 3 + 1, none⟩ (.string K)) lo g cap (xs.set (j * 3 + 1) (.string K)) V (ts.set j ((ts[j]'hj).1, K, (ts[j]'hj).2.2)) := by
  have hx : xs.length = ts.length * 3 := h.1.1
  obtain ⟨a0, a1, a2, a3, a4⟩ := h.2.1 j hj
  exact h.put (o := 1) hj (by decide) (.string K) _ (by rw [List.getElem?_set_ne (by omega)]; exact a0) (List.getElem?_set_self (by omega)) (by rw [List.getElem?_set_ne (by omega)]; exact a2) a3 a4 (fun _ _ => rfl) h.2.2
/-- new values for one term, in a block that none of the others has -/
theorem OTD.vals {w : World} {lo g cap : Nat} {xs : List Value} {V : Nat → Value} {ts : List TD} (h : OTD w lo g cap xs V ts) {j : Nat} (hj : j < ts.length) (v : Value) (vs : List ByteArray)
    (hv : w.ownsRow lo 9 1 v vs.length (strVs vs)) (hg : v.ownBlock ≠ some g) (hn : ∀ i, i < ts.length → ∀ b, (V i).ownBlock = some b → v.ownBlock ≠ some b) :
    OTD (w.setCell ⟨g, j * 3 + 2, none⟩ v) lo g cap (xs.set (j * 3 + 2) v) (fun i => if i = j then v else V i) (ts.set j ((ts[j]'hj).1, (ts[j]'hj).2.1, vs)) := by
  have hx : xs.length = ts.length * 3 := h.1.1
  obtain ⟨a0, a1, a2, a3, a4⟩ := h.2.1 j hj
  refine h.put (V' := fun i => if i = j then v else V i) (o := 2) hj (by decide) v _ (by rw [List.getElem?_set_ne (by omega)]; exact a0) (by rw [List.getElem?_set_ne (by omega)]; exact a1) (by simp only [if_true]; exact List.getElem?_set_self (by omega)) (by simp only [if_true]; exact hv) (by simp only [if_true]; exact hg) (fun i hi => by simp only [hi, if_false]) ?_
  intro i k hi hk hik b hb
  by_cases e : i = j
  · subst e
    have ek : ¬ k = i := fun q => hik q.symm
    simp only [if_true] at hb
    simp only [ek, if_false]
    intro q
    exact hn k hk b q hb
  · simp only [e, if_false] at hb
    by_cases e' : k = j
    · simp only [e', if_true]
      exact hn i hi b hb
    · simp only [e', if_false]
      exact h.2.2 i k hi hk hik b hb
end Go.Proofs.Ytdnodaoeflbfkaa
namespace Go.Proofs.Ytdnodaoeflbfkaa
open Go.RowKit Go.BigFrame
set_option linter.unusedVariables false
/-! terms that are drawn, right or not -/
def lenV : Value → Nat
  | .slice _ n _ => n
  | _ => 0
def goodA (t : TD) : Prop := 0 ≤ t.1 ∧ t.1 ≤ 7 ∧ t.2.1.size ≤ 25 ∧ t.2.2.length ≤ 9 ∧ ∀ s ∈ t.2.2, s.size ≤ 25
def goodAs (ts : List TD) : Prop := ∀ t ∈ ts, goodA t
theorem goodA_of {t : TD} (h : goodT t.1 t.2.1 t.2.2) : goodA t := ⟨by have := h.1; omega, by have := h.2.1; omega, h.2.2.1, by have := h.2.2.2.1; omega, h.2.2.2.2⟩
theorem goodAs_set {ts : List TD} (h : goodAs ts) (j : Nat) {t : TD} (ht : goodA t) : goodAs (ts.set j t) := fun x hx => by
  rcases List.mem_or_eq_of_mem_set hx with h' | h'
  · exact h x h'
  · rw [h']; exact ht
theorem OTD.grown {w w' : World} {o : Obj} {row : Option Nat} {lo g cap : Nat} {xs : List Value} {V : Nat → Value} {ts : List TD} (h : OTD w lo g cap xs V ts) (hg : (w.alloc o).grownBy w' row) (h0 : row ≠ some g) (hV : ∀ i, i < ts.length → ∀ b, (V i).ownBlock = some b → row ≠ some b) : OTD w' lo g cap xs V ts := by
  obtain ⟨h1, h2, h3⟩ := h
  refine ⟨owns_grownD (h1.alloc o) hg (fun b hb => by cases hb; exact h0), fun j hj => ?_, h3⟩
  obtain ⟨a0, a1, a2, a3, a4⟩ := h2 j hj
  exact ⟨a0, a1, a2, owns_grownD (a3.alloc o) hg (hV j hj), a4⟩
theorem strVs_app (a b : List ByteArray) : strVs (a ++ b) = strVs a ++ strVs b := by unfold strVs; rw [List.map_append]
theorem vals_news {w : World} {p : Addr} {vs : List ByteArray} (h : strOf w (some p) vs) (o : Obj) (j : Nat) (u : Value) (hj : (strVs vs)[j]? = some u) : (w.alloc o).cell? (p.add j) = some u := by
  have hl : j < vs.length := by
    have := (List.getElem?_eq_some_iff.1 hj).1
    unfold strVs at this
    rwa [List.length_map] at this
  obtain ⟨b, off, e, hat⟩ := h (by omega)
  cases e
  have hc := hat j hl
  have hu : u = .string vs[j] := by
    unfold strVs at hj
    rw [List.getElem?_map, List.getElem?_eq_getElem hl] at hj
    exact (Option.some.inj hj).symm
  rw [Go.WideShapes.add_plain, hu]
  exact (((Below.refl _ w).alloc (Nat.le_refl _) o).cell (p := ⟨b, off + j, none⟩) (World.block_lt_of_cell? _ _ hc)).trans hc
def drawnAs (w : World) (d n cap : Nat) (a : Option Addr) (e : Ending) (w' : World) : Prop := ∃ (ts : List TD) (g c : Nat), e = .returned (.slice (some ⟨g, 0, none⟩) ts.length c) ∧ Hid (ts.length ≤ 9 ∧ goodAs ts) ∧
  Hid (ownTs w' w.heap.size g c ts) ∧ Hid (CurIn w' d a n cap) ∧ Hid (Out d (d + 1) w w')
set_option maxRecDepth 100000 in
set_option maxHeartbeats 3200000 in
theorem l2DrawAny_any (d n cap : Nat) (a : Option Addr) (w : World) (hn : n ≤ 1048576) (hc : CurIn w d a n cap) :
    Calls Try.prog 176 #[.pointer (some ⟨d, 0, none⟩)] w (drawnAs w d n cap a) := by
  obtain ⟨i0, hi, hz0, hz1, hz2⟩ := info_parts Try.infoTerm
  have HJ : Hid (∃ i, Try.prog.info? 9 = some i ∧ i.zero = some (.string ByteArray.empty) ∧ i.size = 1 ∧ i.bytes = 16) := info_parts Try.infoStr
  have Hc := hide hc
  have Hd := hide hc.lt
  have Hall := hide hc.lt_all'
  clear hc
  go_enter Try.func176, Try.ntmps176
  go_wp2_with fail
  refine (l2Draw_any d n cap 5 a _ hn (by decide) (by decide) Hc.out).mono ?_
  rintro e w1 ⟨ts, g, c, rfl, Hs1, Hw1, HC, HO⟩
  obtain ⟨xs, V, Hw1'⟩ := Hw1.out
  have HP : Hid (OTD w1 w.heap.size g c xs V ts) := Hw1'
  have HS : Hid (ts.length ≤ 9 ∧ goodAs ts) := ⟨by have := Hs1.out.1; omega, fun t ht => goodA_of (Hs1.out.2 t ht)⟩
  have Hg1 : Hid (goodTs ts) := Hs1.out.2
  clear Hs1 Hw1 Hw1' Hc
  by_cases hz : 0 < ts.length
  · have hz' : (0 : Int) < (ts.length : Int) := by omega
    have hl9 := HS.out.1
    go_wp2_with fail
    refine (l1Once_any d n cap 5 a _ hn (by decide) HC.out).mono ?_
    rintro e w2 ⟨o, rfl, HC2, ho2⟩
    have HP2 := hide (HP.out.out ho2 Hd.out)
    have HO2 := hide (HO.out.trans ho2)
    clear HP HC HO ho2
    cases o
    · have HP := HP2
      have HO := HO2
      have HC := HC2
      clear HP2 HO2 HC2 hz hz' hl9
      generalize ts = tz at *
      go_wp2_with fail
      refine (l1Once_any d n cap 40 a _ hn (by decide) HC.out).mono ?_
      rintro e w7 ⟨o2, rfl, Hc7, ho7⟩
      have P7 := hide (HP.out.out ho7 Hd.out)
      have O7 := hide (HO.out.trans ho7)
      clear HP HC HO ho7
      cases o2
      · go_wp2
        go_ret
        exact ⟨tz, g, c, rfl, HS, P7.out.own, Hc7, O7⟩
      · go_wp2_with fail
        go_loopw [3] (fun v wr => ∃ (ts : List TD) (g c : Nat) (xs : List Value) (V : Nat → Value), v = .slice (some ⟨g, 0, none⟩) ts.length c ∧ Hid (ts.length ≤ 9 ∧ goodAs ts) ∧ Hid (OTD wr w.heap.size g c xs V ts) ∧ Hid (CurIn wr d a n cap) ∧ Hid (Out d (d + 1) w wr)) (fun v _ => 9 - lenV v)
        case atStart => exact ⟨tz, g, c, _, _, rfl, HS, P7, Hc7, O7⟩
        case round =>
          clear P7 Hc7 O7 HS
          obtain ⟨ts, g, c, xs, V, rfl, Hs, Hw, Hc, Ho⟩ := hrel
          have hl9 := Hs.out.1
          go_wp2_with fail
          refine (l1Below_any d n cap 2 a _ hn (by decide) Hc.out).mono ?_
          rintro e w2 ⟨q, hq, rfl, Hc2, ho2⟩
          have hq2 := hq (by decide)
          have Hw2 := hide (Hw.out.out ho2 Hd.out)
          have O2 := hide (Ho.out.trans ho2)
          have Ho2 := hide ho2
          have Hsz := hide (show w.heap.size ≤ w2.heap.size from O2.out.size)
          clear Ho Hc ho2 hq
          have hwq : wrap64 (8 + (q : Int)) = 8 + (q : Int) := by simp only [wrap64]; omega
          by_cases hlt : (ts.length : Int) < 8 + (q : Int)
          · have hl8 : ts.length ≤ 8 := by omega
            go_wp2_with (at_builtin; refine wpList_append_lies _ rfl _ _ 38 rfl w.heap.size 199 i0 _ 3 48 Try.underlying38 hi hz0 hz1 hz2 rfl (by decide) _ _ _ rfl (Hw2.out.1.alloc _) ⟨w2.heap.size, 0, none⟩ 1 1 [.int .i64 4, .string ⟨#[97]⟩, .slice none 0 0] rfl rfl (cell_three_new _ _ _ _ _) (fun x hx => by simp at hx; rcases hx with rfl | rfl | rfl <;> rfl) (by decide) (by unfold maxLen; omega) (by omega) (by have := Hsz.out; simp; omega) _ rfl ?_; intro g5 c5 w5 hown5 hgrow5 hat5 hlt5)
            have P5 := OTD_push (t := (4, ⟨#[97]⟩, [])) Hw2.out (Out.refl _ _ _) Hd.out (owns_none _ _ _ _) Hsz.out hown5 hgrow5 hat5
            have al : Below w2.heap.size w2 (w2.alloc (.cells #[.int .i64 4, .string ⟨#[97]⟩, .slice none 0 0] 199)) := (Below.refl _ _).alloc (Nat.le_refl _) _
            have hgb : ∀ b, (Value.slice (some ⟨g, 0, none⟩) ts.length c).ownBlock = some b → w.heap.size ≤ b := fun b hb => (owns_blk Hw2.out.1 hb).1
            have O5 := hide (Out.grown (O2.out.trans (Out.of_below al)) hgrow5 hgb)
            have C5 := hide (CurIn.grown (B := w.heap.size) (Hc2.out.later al) hgrow5 hgb Hd.out Hall.out)
            have hln : ts.length + 1 = (ts ++ [((4 : Int), (⟨#[97]⟩ : ByteArray), ([] : List ByteArray))]).length := by rw [List.length_append, List.length_singleton]
            have S5 : Hid ((ts ++ [((4 : Int), (⟨#[97]⟩ : ByteArray), ([] : List ByteArray))]).length ≤ 9 ∧ goodAs (ts ++ [(4, ⟨#[97]⟩, [])])) := ⟨by rw [← hln]; omega, fun t ht => by
              rcases List.mem_append.1 ht with h | h
              · exact Hs.out.2 t h
              · rw [List.mem_singleton.1 h]; exact ⟨by decide, by decide, by decide, by decide, fun s h => by cases h⟩⟩
            have HP5 := hide P5
            have hln' := hide hln
            clear P5 hown5 hgrow5 hat5 hlt5 al hgb hln Hw Hw2 O2 Ho2 Hc2 Hs Hsz
            go_wp2
            go_roundw
            case rel => exact ⟨ts ++ [(4, ⟨#[97]⟩, [])], g5, c5, _, _, by rw [← hln'.out], S5, HP5, C5, O5⟩
            case measure => simp [lenV]; omega
          · go_wp2
            go_ret
            exact ⟨ts, g, c, rfl, Hs, Hw2.out.own, Hc2, O2⟩
    · go_wp2_with fail
      refine (l1Below_any d n cap ts.length a _ hn (by omega) HC2.out).mono ?_
      rintro e w3 ⟨x, hx, rfl, HC3, ho3⟩
      have hxl := hx hz
      have HP3 := hide (HP2.out.out ho3 Hd.out)
      have HO3 := hide (HO2.out.trans ho3)
      clear HP2 HC2 HO2 ho3 hx
      go_wp2_with fail
      refine (l1Below_any d n cap 3 a _ hn (by decide) HC3.out).mono ?_
      rintro e w4 ⟨y, hy, rfl, HC4, ho4⟩
      have hy3 := hy (by decide)
      have HP4 := hide (HP3.out.out ho4 Hd.out)
      have HO4 := hide (HO3.out.trans ho4)
      clear HP3 HC3 HO3 ho4 hy
      have hxi : (x : Int) < (ts.length : Int) := by omega
      rcases (show y = 0 ∨ y = 1 ∨ y = 2 by omega) with rfl | rfl | rfl
      · go_wp2_with fail
        refine (l1Below_any d n cap 7 a _ hn (by decide) HC4.out).mono ?_
        rintro e w5 ⟨kd, hkd, rfl, HC5, ho5⟩
        have hk7 := hkd (by decide)
        have HP5 := hide (HP4.out.out ho5 Hd.out)
        have HO5 := hide (HO4.out.trans ho5)
        clear HP4 HC4 HO4 ho5 hkd
        obtain ⟨r0, r1, r2, r3, r4⟩ := HP5.out.2.1 x hxl
        have q0 := (HP5.out.1.cellAt (x * 3) (by omega)).trans r0
        have f0 := HP5.out.1.frozenAt (x * 3)
        clear r0 r1 r2 r3 r4
        have hlen : (ts.set x ((kd : Int), (ts[x]'hxl).2)).length = ts.length := List.length_set
        have so : Out g (g + 1) w5 (w5.setCell ⟨g, x * 3, none⟩ (.int .i64 kd)) := (Out.refl _ _ _).setCell (p := ⟨g, x * 3, none⟩) (Nat.le_refl _) (Nat.lt_succ_self _) _
        have hgb := (owns_blk HP5.out.1 (g := g) rfl)
        have HP := hide (HP5.out.kind hxl (kd : Int))
        have HO := hide (HO5.out.past so hgb.1)
        have HC := hide (HC5.out.frame (so.below (B := w.heap.size) hgb.1 (by omega)) Hd.out Hall.out)
        have HS5 : Hid ((ts.set x ((kd : Int), (ts[x]'hxl).2)).length ≤ 9 ∧ goodAs (ts.set x ((kd : Int), (ts[x]'hxl).2))) := ⟨by rw [hlen]; exact hl9, goodAs_set HS.out.2 x (by
          have h := HS.out.2 _ (List.getElem_mem hxl)
          exact ⟨by show (0 : Int) ≤ (kd : Int); omega, by show (kd : Int) ≤ 7; omega, h.2.2.1, h.2.2.2.1, h.2.2.2.2⟩)⟩
        clear so hgb HP5 HO5 HC5 HS
        have HS := HS5
        clear HS5
        have hxi' : (x : Int) < ((ts.set x ((kd : Int), (ts[x]'hxl).2)).length : Int) := by rw [hlen]; omega
        clear hxi hz hz' hl9
        rw [← hlen]
        clear hlen
        generalize ts.set x ((kd : Int), (ts[x]'hxl).2) = tz at *
        generalize (ts[x]'hxl).1 = kz at *
        go_wp2_with fail
        refine (l1Once_any d n cap 40 a _ hn (by decide) HC.out).mono ?_
        rintro e w7 ⟨o2, rfl, Hc7, ho7⟩
        have P7 := hide (HP.out.out ho7 Hd.out)
        have O7 := hide (HO.out.trans ho7)
        clear HP HC HO ho7
        cases o2
        · go_wp2
          go_ret
          exact ⟨tz, g, c, rfl, HS, P7.out.own, Hc7, O7⟩
        · go_wp2_with fail
          go_loopw [3] (fun v wr => ∃ (ts : List TD) (g c : Nat) (xs : List Value) (V : Nat → Value), v = .slice (some ⟨g, 0, none⟩) ts.length c ∧ Hid (ts.length ≤ 9 ∧ goodAs ts) ∧ Hid (OTD wr w.heap.size g c xs V ts) ∧ Hid (CurIn wr d a n cap) ∧ Hid (Out d (d + 1) w wr)) (fun v _ => 9 - lenV v)
          case atStart => exact ⟨tz, g, c, _, _, rfl, HS, P7, Hc7, O7⟩
          case round =>
            clear P7 Hc7 O7 HS
            obtain ⟨ts, g, c, xs, V, rfl, Hs, Hw, Hc, Ho⟩ := hrel
            have hl9 := Hs.out.1
            go_wp2_with fail
            refine (l1Below_any d n cap 2 a _ hn (by decide) Hc.out).mono ?_
            rintro e w2 ⟨q, hq, rfl, Hc2, ho2⟩
            have hq2 := hq (by decide)
            have Hw2 := hide (Hw.out.out ho2 Hd.out)
            have O2 := hide (Ho.out.trans ho2)
            have Ho2 := hide ho2
            have Hsz := hide (show w.heap.size ≤ w2.heap.size from O2.out.size)
            clear Ho Hc ho2 hq
            have hwq : wrap64 (8 + (q : Int)) = 8 + (q : Int) := by simp only [wrap64]; omega
            by_cases hlt : (ts.length : Int) < 8 + (q : Int)
            · have hl8 : ts.length ≤ 8 := by omega
              go_wp2_with (at_builtin; refine wpList_append_lies _ rfl _ _ 38 rfl w.heap.size 199 i0 _ 3 48 Try.underlying38 hi hz0 hz1 hz2 rfl (by decide) _ _ _ rfl (Hw2.out.1.alloc _) ⟨w2.heap.size, 0, none⟩ 1 1 [.int .i64 4, .string ⟨#[97]⟩, .slice none 0 0] rfl rfl (cell_three_new _ _ _ _ _) (fun x hx => by simp at hx; rcases hx with rfl | rfl | rfl <;> rfl) (by decide) (by unfold maxLen; omega) (by omega) (by have := Hsz.out; simp; omega) _ rfl ?_; intro g5 c5 w5 hown5 hgrow5 hat5 hlt5)
              have P5 := OTD_push (t := (4, ⟨#[97]⟩, [])) Hw2.out (Out.refl _ _ _) Hd.out (owns_none _ _ _ _) Hsz.out hown5 hgrow5 hat5
              have al : Below w2.heap.size w2 (w2.alloc (.cells #[.int .i64 4, .string ⟨#[97]⟩, .slice none 0 0] 199)) := (Below.refl _ _).alloc (Nat.le_refl _) _
              have hgb : ∀ b, (Value.slice (some ⟨g, 0, none⟩) ts.length c).ownBlock = some b → w.heap.size ≤ b := fun b hb => (owns_blk Hw2.out.1 hb).1
              have O5 := hide (Out.grown (O2.out.trans (Out.of_below al)) hgrow5 hgb)
              have C5 := hide (CurIn.grown (B := w.heap.size) (Hc2.out.later al) hgrow5 hgb Hd.out Hall.out)
              have hln : ts.length + 1 = (ts ++ [((4 : Int), (⟨#[97]⟩ : ByteArray), ([] : List ByteArray))]).length := by rw [List.length_append, List.length_singleton]
              have S5 : Hid ((ts ++ [((4 : Int), (⟨#[97]⟩ : ByteArray), ([] : List ByteArray))]).length ≤ 9 ∧ goodAs (ts ++ [(4, ⟨#[97]⟩, [])])) := ⟨by rw [← hln]; omega, fun t ht => by
                rcases List.mem_append.1 ht with h | h
                · exact Hs.out.2 t h
                · rw [List.mem_singleton.1 h]; exact ⟨by decide, by decide, by decide, by decide, fun s h => by cases h⟩⟩
              have HP5 := hide P5
              have hln' := hide hln
              clear P5 hown5 hgrow5 hat5 hlt5 al hgb hln Hw Hw2 O2 Ho2 Hc2 Hs Hsz
              go_wp2
              go_roundw
              case rel => exact ⟨ts ++ [(4, ⟨#[97]⟩, [])], g5, c5, _, _, by rw [← hln'.out], S5, HP5, C5, O5⟩
              case measure => simp [lenV]; omega
            · go_wp2
              go_ret
              exact ⟨ts, g, c, rfl, Hs, Hw2.out.own, Hc2, O2⟩
      · go_wp2_with fail
        refine (l1NameAny_any d n cap a _ hn HC4.out).mono ?_
        rintro e w5 ⟨K, hK, rfl, HC5, ho5⟩
        have hKs := names_small K hK
        have HP5 := hide (HP4.out.out ho5 Hd.out)
        have HO5 := hide (HO4.out.trans ho5)
        clear HP4 HC4 HO4 ho5 hK
        obtain ⟨r0, r1, r2, r3, r4⟩ := HP5.out.2.1 x hxl
        have q0 := (HP5.out.1.cellAt (x * 3 + 1) (by omega)).trans r1
        have f0 := HP5.out.1.frozenAt (x * 3 + 1)
        clear r0 r1 r2 r3 r4
        have hlen : (ts.set x ((ts[x]'hxl).1, K, (ts[x]'hxl).2.2)).length = ts.length := List.length_set
        have so : Out g (g + 1) w5 (w5.setCell ⟨g, x * 3 + 1, none⟩ (.string K)) := (Out.refl _ _ _).setCell (p := ⟨g, x * 3 + 1, none⟩) (Nat.le_refl _) (Nat.lt_succ_self _) _
        have hgb := (owns_blk HP5.out.1 (g := g) rfl)
        have HP := hide (HP5.out.key hxl K)
        have HO := hide (HO5.out.past so hgb.1)
        have HC := hide (HC5.out.frame (so.below (B := w.heap.size) hgb.1 (by omega)) Hd.out Hall.out)
        have HS5 : Hid ((ts.set x ((ts[x]'hxl).1, K, (ts[x]'hxl).2.2)).length ≤ 9 ∧ goodAs (ts.set x ((ts[x]'hxl).1, K, (ts[x]'hxl).2.2))) := ⟨by rw [hlen]; exact hl9, goodAs_set HS.out.2 x (by
          have h := HS.out.2 _ (List.getElem_mem hxl)
          exact ⟨h.1, h.2.1, hKs, h.2.2.2.1, h.2.2.2.2⟩)⟩
        clear so hgb HP5 HO5 HC5 HS
        have HS := HS5
        clear HS5
        have hxi' : (x : Int) < ((ts.set x ((ts[x]'hxl).1, K, (ts[x]'hxl).2.2)).length : Int) := by rw [hlen]; omega
        clear hxi hz hz' hl9
        rw [← hlen]
        clear hlen
        generalize ts.set x ((ts[x]'hxl).1, K, (ts[x]'hxl).2.2) = tz at *
        generalize (ts[x]'hxl).2.1 = kz at *
        go_wp2_with fail
        refine (l1Once_any d n cap 40 a _ hn (by decide) HC.out).mono ?_
        rintro e w7 ⟨o2, rfl, Hc7, ho7⟩
        have P7 := hide (HP.out.out ho7 Hd.out)
        have O7 := hide (HO.out.trans ho7)
        clear HP HC HO ho7
        cases o2
        · go_wp2
          go_ret
          exact ⟨tz, g, c, rfl, HS, P7.out.own, Hc7, O7⟩
        · go_wp2_with fail
          go_loopw [3] (fun v wr => ∃ (ts : List TD) (g c : Nat) (xs : List Value) (V : Nat → Value), v = .slice (some ⟨g, 0, none⟩) ts.length c ∧ Hid (ts.length ≤ 9 ∧ goodAs ts) ∧ Hid (OTD wr w.heap.size g c xs V ts) ∧ Hid (CurIn wr d a n cap) ∧ Hid (Out d (d + 1) w wr)) (fun v _ => 9 - lenV v)
          case atStart => exact ⟨tz, g, c, _, _, rfl, HS, P7, Hc7, O7⟩
          case round =>
            clear P7 Hc7 O7 HS
            obtain ⟨ts, g, c, xs, V, rfl, Hs, Hw, Hc, Ho⟩ := hrel
            have hl9 := Hs.out.1
            go_wp2_with fail
            refine (l1Below_any d n cap 2 a _ hn (by decide) Hc.out).mono ?_
            rintro e w2 ⟨q, hq, rfl, Hc2, ho2⟩
            have hq2 := hq (by decide)
            have Hw2 := hide (Hw.out.out ho2 Hd.out)
            have O2 := hide (Ho.out.trans ho2)
            have Ho2 := hide ho2
            have Hsz := hide (show w.heap.size ≤ w2.heap.size from O2.out.size)
            clear Ho Hc ho2 hq
            have hwq : wrap64 (8 + (q : Int)) = 8 + (q : Int) := by simp only [wrap64]; omega
            by_cases hlt : (ts.length : Int) < 8 + (q : Int)
            · have hl8 : ts.length ≤ 8 := by omega
              go_wp2_with (at_builtin; refine wpList_append_lies _ rfl _ _ 38 rfl w.heap.size 199 i0 _ 3 48 Try.underlying38 hi hz0 hz1 hz2 rfl (by decide) _ _ _ rfl (Hw2.out.1.alloc _) ⟨w2.heap.size, 0, none⟩ 1 1 [.int .i64 4, .string ⟨#[97]⟩, .slice none 0 0] rfl rfl (cell_three_new _ _ _ _ _) (fun x hx => by simp at hx; rcases hx with rfl | rfl | rfl <;> rfl) (by decide) (by unfold maxLen; omega) (by omega) (by have := Hsz.out; simp; omega) _ rfl ?_; intro g5 c5 w5 hown5 hgrow5 hat5 hlt5)
              have P5 := OTD_push (t := (4, ⟨#[97]⟩, [])) Hw2.out (Out.refl _ _ _) Hd.out (owns_none _ _ _ _) Hsz.out hown5 hgrow5 hat5
              have al : Below w2.heap.size w2 (w2.alloc (.cells #[.int .i64 4, .string ⟨#[97]⟩, .slice none 0 0] 199)) := (Below.refl _ _).alloc (Nat.le_refl _) _
              have hgb : ∀ b, (Value.slice (some ⟨g, 0, none⟩) ts.length c).ownBlock = some b → w.heap.size ≤ b := fun b hb => (owns_blk Hw2.out.1 hb).1
              have O5 := hide (Out.grown (O2.out.trans (Out.of_below al)) hgrow5 hgb)
              have C5 := hide (CurIn.grown (B := w.heap.size) (Hc2.out.later al) hgrow5 hgb Hd.out Hall.out)
              have hln : ts.length + 1 = (ts ++ [((4 : Int), (⟨#[97]⟩ : ByteArray), ([] : List ByteArray))]).length := by rw [List.length_append, List.length_singleton]
              have S5 : Hid ((ts ++ [((4 : Int), (⟨#[97]⟩ : ByteArray), ([] : List ByteArray))]).length ≤ 9 ∧ goodAs (ts ++ [(4, ⟨#[97]⟩, [])])) := ⟨by rw [← hln]; omega, fun t ht => by
                rcases List.mem_append.1 ht with h | h
                · exact Hs.out.2 t h
                · rw [List.mem_singleton.1 h]; exact ⟨by decide, by decide, by decide, by decide, fun s h => by cases h⟩⟩
              have HP5 := hide P5
              have hln' := hide hln
              clear P5 hown5 hgrow5 hat5 hlt5 al hgb hln Hw Hw2 O2 Ho2 Hc2 Hs Hsz
              go_wp2
              go_roundw
              case rel => exact ⟨ts ++ [(4, ⟨#[97]⟩, [])], g5, c5, _, _, by rw [← hln'.out], S5, HP5, C5, O5⟩
              case measure => simp [lenV]; omega
            · go_wp2
              go_ret
              exact ⟨ts, g, c, rfl, Hs, Hw2.out.own, Hc2, O2⟩
      · have hgl : g < w4.heap.size := (owns_blk HP4.out.1 (g := g) rfl).2
        have Hd4 : Hid (d < w4.heap.size) := HC4.out.lt
        have Hg4 : Hid (w.heap.size ≤ g ∧ g < w4.heap.size) := owns_blk HP4.out.1 (g := g) rfl
        have HVb : Hid (∀ i, i < ts.length → ∀ b, (V i).ownBlock = some b → b < w4.heap.size) := fun i hi b hb => (owns_blk (HP4.out.2.1 i hi).2.2.2.1 hb).2
        obtain ⟨r0, r1, r2, r3, r4⟩ := HP4.out.2.1 x hxl
        have hvg := Hg1.out _ (List.getElem_mem hxl)
        obtain ⟨av, cv, eV, hso, hcv, hnv⟩ := strOf_own r3 rfl
        have q2 := (HP4.out.1.cellAt (x * 3 + 2) (by omega)).trans r2
        have R2 := hide r2
        clear r0 r1 r2 r3 r4
        have E0 : Hid ((w4.alloc (.cells #[] 9)).ownsRow w4.heap.size 9 1 (.slice (some ⟨w4.heap.size, 0, none⟩) 0 0) 0 []) := World.ownsRow_lit w4 #[] 0 (Nat.le_refl _) (by decide) rfl
        have hvs : ((ts[x]'hxl).2.2).length ≤ 8 ∧ ∀ s ∈ (ts[x]'hxl).2.2, s.size ≤ 25 := ⟨hvg.2.2.2.1, hvg.2.2.2.2⟩
        clear hvg
        rw [eV] at q2 R2
        generalize (ts[x]'hxl).2.2 = vs at *
        have Hvs := hide hvs
        have Hso := hide hso
        have hv8 := hvs.1
        clear hvs hso eV
        cases av with
        | none =>
          have hc0 := hnv rfl
          subst hc0
          have hv0 : vs = [] := List.eq_nil_of_length_eq_zero (by omega)
          subst hv0
          have q3 : w4.cell? ⟨g, x * 3 + 2, none⟩ = some (.slice none 0 0) := q2
          clear q2 hcv hnv hv8 Hso
          go_wp2_with (at_builtin; obtain ⟨j0, hj, hj0, hj1, hj2⟩ := HJ.out; refine wpList_append_own_none rfl _ _ 25 rfl w4.heap.size 9 j0 1 Try.underlying25 hj _ _ _ rfl E0.out rfl ?_; clear hj hj0 hj1 hj2)
          have HV1 : Hid ((w4.alloc (.cells #[] 9)).ownsRow w4.heap.size 9 1 (.slice (some ⟨w4.heap.size, 0, none⟩) 0 0) ([] : List ByteArray).length (strVs [])) := E0.out
          have B5 : Hid (Below w4.heap.size w4 (w4.alloc (.cells #[] 9))) := (Below.refl _ _).alloc (Nat.le_refl _) _
          have HP5 := hide (HP4.out.out (Out.of_below B5.out) Hd.out)
          have HO5 := hide (HO4.out.trans (Out.of_below B5.out))
          have HC5 := hide (HC4.out.later B5.out)
          clear HP4 HO4 HC4
          go_wp2_with fail
          refine (l1NameAny_any d n cap a _ hn HC5.out).mono ?_
          rintro e w6 ⟨K, hK, rfl, HC6, ho6⟩
          have hKs := names_small K hK
          have HP6 := hide (HP5.out.out ho6 Hd.out)
          have HO6 := hide (HO5.out.trans ho6)
          have HV6 := hide (owns_out HV1.out ho6 (fun b hb => Or.inr (by have := (owns_blk HV1.out hb).1; have := Hd4.out; omega)))
          have Hz6 := hide (Nat.le_trans B5.out.size ho6.size)
          have Hrow : Hid (∀ b, Value.ownBlock (Value.slice (some ⟨w4.heap.size, 0, none⟩) 0 0) = some b → w4.heap.size ≤ b) := fun b hb => (owns_blk HV1.out hb).1
          clear HP5 HC5 HO5 ho6 hK HV1 B5
          go_wp2_with (at_builtin; obtain ⟨j0, hj, hj0, hj1, hj2⟩ := HJ.out; refine wpList_append_lies _ rfl _ _ 25 rfl w4.heap.size 9 j0 _ 1 16 Try.underlying25 hj hj0 hj1 hj2 rfl (by decide) _ _ _ rfl (HV6.out.alloc _) ⟨w6.heap.size, 0, none⟩ 1 1 [.string K] rfl rfl (cell_one_new w6 K _) (fun x hx => by simp at hx; rcases hx with rfl; rfl) (by decide) (by unfold maxLen; simp) (by simp) (by have := Hz6.out; simp; omega) _ rfl ?_; intro g7 c7 w7 hown7 hgrow7 hat7 hlt7; clear hj hj0 hj1 hj2 hat7 hlt7; have Hown7 := hide hown7; have Hgrow7 := hide hgrow7; clear hown7; have P7 := OTD.grown HP6.out hgrow7 (fun e => by have := Hrow.out _ e; have := Hg4.out; omega) (fun i hi b hb e => by have := Hrow.out _ e; have := HVb.out i hi b hb; omega); have q7 := (P7.1.cellAt (x * 3 + 2) (by omega)).trans R2.out; have f7 := P7.1.frozenAt (x * 3 + 2); have HP7 := hide P7; clear P7 hgrow7)
          have P7 := HP7.out
          have hown7 := Hown7.out
          have hgrow7 := Hgrow7.out
          have hlen : (ts.set x ((ts[x]'hxl).1, (ts[x]'hxl).2.1, ([] : List ByteArray) ++ [K])).length = ts.length := List.length_set
          have hgb := (owns_blk P7.1 (g := g) rfl)
          have so : Out g (g + 1) w7 (w7.setCell ⟨g, x * 3 + 2, none⟩ (Value.slice (some ⟨g7, 0, none⟩) (([] : List ByteArray).length + 1) c7)) := (Out.refl _ _ _).setCell (p := ⟨g, x * 3 + 2, none⟩) (Nat.le_refl _) (Nat.lt_succ_self _) _
          have hv2 : ∀ b, Value.ownBlock (Value.slice (some ⟨g7, 0, none⟩) (([] : List ByteArray).length + 1) c7) = some b → w4.heap.size ≤ b := fun b hb => (owns_blk hown7 hb).1
          have al : Below w6.heap.size w6 (w6.alloc (.cells #[.string K] 9)) := (Below.refl _ _).alloc (Nat.le_refl _) _
          have hrw : ∀ b, Value.ownBlock (Value.slice (some ⟨w4.heap.size, 0, none⟩) 0 0) = some b → w.heap.size ≤ b := fun b hb => by have := Hrow.out b hb; have := Hg4.out; omega
          have hown8 : w7.ownsRow w.heap.size 9 1 (Value.slice (some ⟨g7, 0, none⟩) (([] : List ByteArray).length + 1) c7) (([] : List ByteArray) ++ [K]).length (strVs (([] : List ByteArray) ++ [K])) := by
            rw [strVs_app, List.length_append, List.length_singleton]
            exact owns_mono hown7 (by have := Hg4.out; omega)
          have HP := hide (P7.vals hxl (Value.slice (some ⟨g7, 0, none⟩) (([] : List ByteArray).length + 1) c7) (([] : List ByteArray) ++ [K]) hown8 (fun e => by have := hv2 _ e; have := Hg4.out; omega) (fun i hi b hb e => by have := hv2 _ e; have := HVb.out i hi b hb; omega))
          have HO := hide ((Out.grown (HO6.out.trans (Out.of_below al)) hgrow7 hrw).past so hgb.1)
          have HC := hide ((CurIn.grown (B := w.heap.size) (HC6.out.later al) hgrow7 hrw Hd.out Hall.out).frame (so.below (B := w.heap.size) hgb.1 (by omega)) Hd.out Hall.out)
          have HS5 : Hid ((ts.set x ((ts[x]'hxl).1, (ts[x]'hxl).2.1, ([] : List ByteArray) ++ [K])).length ≤ 9 ∧ goodAs (ts.set x ((ts[x]'hxl).1, (ts[x]'hxl).2.1, ([] : List ByteArray) ++ [K]))) := ⟨by rw [hlen]; exact hl9, goodAs_set HS.out.2 x (by
            have h := HS.out.2 _ (List.getElem_mem hxl)
            have hb : ∀ s ∈ ([] : List ByteArray), s.size ≤ 25 := fun s h => by cases h
            exact ⟨h.1, h.2.1, h.2.2.1, by show ([K] : List ByteArray).length ≤ 9; simp, fun s hs => by
              rcases List.mem_append.1 hs with h' | h'
              · exact hb s h'
              · rw [List.mem_singleton.1 h']; exact hKs⟩)⟩
          clear so hgb HP6 HO6 HC6 HS P7 hown7 hown8 hgrow7 HP7 Hown7 Hgrow7 hv2 al hrw HV6 q7 f7
          have HS := HS5
          clear HS5
          clear hxi hz hz' hl9
          rw [← hlen]
          clear hlen
          try clear hgl
          try clear hcv
          try clear hv8
          try clear hKs
          try clear hown7
          try clear hgrow7
          try clear P7
          clear R2 Hz6 Hrow HVb Hg4 Hd4 Hg1 HJ
          generalize ts.set x ((ts[x]'hxl).1, (ts[x]'hxl).2.1, ([] : List ByteArray) ++ [K]) = tz at *
          go_wp2_with fail
          refine (l1Once_any d n cap 40 a _ hn (by decide) HC.out).mono ?_
          rintro e w7 ⟨o2, rfl, Hc7, ho7⟩
          have P7 := hide (HP.out.out ho7 Hd.out)
          have O7 := hide (HO.out.trans ho7)
          clear HP HC HO ho7
          cases o2
          · go_wp2
            go_ret
            exact ⟨tz, g, c, rfl, HS, P7.out.own, Hc7, O7⟩
          · go_wp2_with fail
            go_loopw [3] (fun v wr => ∃ (ts : List TD) (g c : Nat) (xs : List Value) (V : Nat → Value), v = .slice (some ⟨g, 0, none⟩) ts.length c ∧ Hid (ts.length ≤ 9 ∧ goodAs ts) ∧ Hid (OTD wr w.heap.size g c xs V ts) ∧ Hid (CurIn wr d a n cap) ∧ Hid (Out d (d + 1) w wr)) (fun v _ => 9 - lenV v)
            case atStart => exact ⟨tz, g, c, _, _, rfl, HS, P7, Hc7, O7⟩
            case round =>
              clear P7 Hc7 O7 HS
              obtain ⟨ts, g, c, xs, V, rfl, Hs, Hw, Hc, Ho⟩ := hrel
              have hl9 := Hs.out.1
              go_wp2_with fail
              refine (l1Below_any d n cap 2 a _ hn (by decide) Hc.out).mono ?_
              rintro e w2 ⟨q, hq, rfl, Hc2, ho2⟩
              have hq2 := hq (by decide)
              have Hw2 := hide (Hw.out.out ho2 Hd.out)
              have O2 := hide (Ho.out.trans ho2)
              have Ho2 := hide ho2
              have Hsz := hide (show w.heap.size ≤ w2.heap.size from O2.out.size)
              clear Ho Hc ho2 hq
              have hwq : wrap64 (8 + (q : Int)) = 8 + (q : Int) := by simp only [wrap64]; omega
              by_cases hlt : (ts.length : Int) < 8 + (q : Int)
              · have hl8 : ts.length ≤ 8 := by omega
                go_wp2_with (at_builtin; refine wpList_append_lies _ rfl _ _ 38 rfl w.heap.size 199 i0 _ 3 48 Try.underlying38 hi hz0 hz1 hz2 rfl (by decide) _ _ _ rfl (Hw2.out.1.alloc _) ⟨w2.heap.size, 0, none⟩ 1 1 [.int .i64 4, .string ⟨#[97]⟩, .slice none 0 0] rfl rfl (cell_three_new _ _ _ _ _) (fun x hx => by simp at hx; rcases hx with rfl | rfl | rfl <;> rfl) (by decide) (by unfold maxLen; omega) (by omega) (by have := Hsz.out; simp; omega) _ rfl ?_; intro g5 c5 w5 hown5 hgrow5 hat5 hlt5)
                have P5 := OTD_push (t := (4, ⟨#[97]⟩, [])) Hw2.out (Out.refl _ _ _) Hd.out (owns_none _ _ _ _) Hsz.out hown5 hgrow5 hat5
                have al : Below w2.heap.size w2 (w2.alloc (.cells #[.int .i64 4, .string ⟨#[97]⟩, .slice none 0 0] 199)) := (Below.refl _ _).alloc (Nat.le_refl _) _
                have hgb : ∀ b, (Value.slice (some ⟨g, 0, none⟩) ts.length c).ownBlock = some b → w.heap.size ≤ b := fun b hb => (owns_blk Hw2.out.1 hb).1
                have O5 := hide (Out.grown (O2.out.trans (Out.of_below al)) hgrow5 hgb)
                have C5 := hide (CurIn.grown (B := w.heap.size) (Hc2.out.later al) hgrow5 hgb Hd.out Hall.out)
                have hln : ts.length + 1 = (ts ++ [((4 : Int), (⟨#[97]⟩ : ByteArray), ([] : List ByteArray))]).length := by rw [List.length_append, List.length_singleton]
                have S5 : Hid ((ts ++ [((4 : Int), (⟨#[97]⟩ : ByteArray), ([] : List ByteArray))]).length ≤ 9 ∧ goodAs (ts ++ [(4, ⟨#[97]⟩, [])])) := ⟨by rw [← hln]; omega, fun t ht => by
                  rcases List.mem_append.1 ht with h | h
                  · exact Hs.out.2 t h
                  · rw [List.mem_singleton.1 h]; exact ⟨by decide, by decide, by decide, by decide, fun s h => by cases h⟩⟩
                have HP5 := hide P5
                have hln' := hide hln
                clear P5 hown5 hgrow5 hat5 hlt5 al hgb hln Hw Hw2 O2 Ho2 Hc2 Hs Hsz
                go_wp2
                go_roundw
                case rel => exact ⟨ts ++ [(4, ⟨#[97]⟩, [])], g5, c5, _, _, by rw [← hln'.out], S5, HP5, C5, O5⟩
                case measure => simp [lenV]; omega
              · go_wp2
                go_ret
                exact ⟨ts, g, c, rfl, Hs, Hw2.out.own, Hc2, O2⟩
        | some p =>
          clear hnv
          go_wp2_with (at_builtin; obtain ⟨j0, hj, hj0, hj1, hj2⟩ := HJ.out; refine wpList_append_own _ rfl _ _ 25 rfl w4.heap.size 9 j0 _ 1 16 Try.underlying25 hj hj0 hj1 hj2 rfl (by decide) _ _ _ rfl E0.out p vs.length cv (strVs vs) rfl (by unfold strVs; rw [List.length_map, Nat.mul_one]) (vals_news Hso.out _) (fun x hx => by unfold strVs at hx; obtain ⟨s, _, rfl⟩ := List.mem_map.1 hx; rfl) (by unfold maxLen; omega) (by omega) (by simp) ?_; intro v1 w5 hown5 hgrow5 hnil5; clear hj hj0 hj1 hj2)
          have HV1 : Hid (w5.ownsRow w4.heap.size 9 1 v1 vs.length (strVs vs)) := by
            have h := hown5
            rw [Nat.zero_add, List.nil_append] at h
            exact h
          have B5 : Hid (Below w4.heap.size w4 w5) := Below.grown ((Below.refl _ _).alloc (Nat.le_refl _) _) hgrow5 (by simp) (fun k hk => by cases hk; exact Nat.le_refl _)
          clear hown5 hgrow5 hnil5 E0 q2
          have HP5 := hide (HP4.out.out (Out.of_below B5.out) Hd.out)
          have HO5 := hide (HO4.out.trans (Out.of_below B5.out))
          have HC5 := hide (HC4.out.later B5.out)
          clear HP4 HO4 HC4
          go_wp2_with fail
          refine (l1NameAny_any d n cap a _ hn HC5.out).mono ?_
          rintro e w6 ⟨K, hK, rfl, HC6, ho6⟩
          have hKs := names_small K hK
          have HP6 := hide (HP5.out.out ho6 Hd.out)
          have HO6 := hide (HO5.out.trans ho6)
          have HV6 := hide (owns_out HV1.out ho6 (fun b hb => Or.inr (by have := (owns_blk HV1.out hb).1; have := Hd4.out; omega)))
          have Hz6 := hide (Nat.le_trans B5.out.size ho6.size)
          have Hrow : Hid (∀ b, Value.ownBlock v1 = some b → w4.heap.size ≤ b) := fun b hb => (owns_blk HV1.out hb).1
          clear HP5 HC5 HO5 ho6 hK HV1 B5
          go_wp2_with (at_builtin; obtain ⟨j0, hj, hj0, hj1, hj2⟩ := HJ.out; refine wpList_append_lies _ rfl _ _ 25 rfl w4.heap.size 9 j0 _ 1 16 Try.underlying25 hj hj0 hj1 hj2 rfl (by decide) _ _ _ rfl (HV6.out.alloc _) ⟨w6.heap.size, 0, none⟩ 1 1 [.string K] rfl rfl (cell_one_new w6 K _) (fun x hx => by simp at hx; rcases hx with rfl; rfl) (by decide) (by have hv9 := Hvs.out.1; unfold maxLen; omega) (by have hv9 := Hvs.out.1; omega) (by have := Hz6.out; simp; omega) _ rfl ?_; intro g7 c7 w7 hown7 hgrow7 hat7 hlt7; clear hj hj0 hj1 hj2 hat7 hlt7; have Hown7 := hide hown7; have Hgrow7 := hide hgrow7; clear hown7; have P7 := OTD.grown HP6.out hgrow7 (fun e => by have := Hrow.out _ e; have := Hg4.out; omega) (fun i hi b hb e => by have := Hrow.out _ e; have := HVb.out i hi b hb; omega); have q7 := (P7.1.cellAt (x * 3 + 2) (by omega)).trans R2.out; have f7 := P7.1.frozenAt (x * 3 + 2); have HP7 := hide P7; clear P7 hgrow7)
          have P7 := HP7.out
          have hown7 := Hown7.out
          have hgrow7 := Hgrow7.out
          have hlen : (ts.set x ((ts[x]'hxl).1, (ts[x]'hxl).2.1, vs ++ [K])).length = ts.length := List.length_set
          have hgb := (owns_blk P7.1 (g := g) rfl)
          have so : Out g (g + 1) w7 (w7.setCell ⟨g, x * 3 + 2, none⟩ (Value.slice (some ⟨g7, 0, none⟩) (vs.length + 1) c7)) := (Out.refl _ _ _).setCell (p := ⟨g, x * 3 + 2, none⟩) (Nat.le_refl _) (Nat.lt_succ_self _) _
          have hv2 : ∀ b, Value.ownBlock (Value.slice (some ⟨g7, 0, none⟩) (vs.length + 1) c7) = some b → w4.heap.size ≤ b := fun b hb => (owns_blk hown7 hb).1
          have al : Below w6.heap.size w6 (w6.alloc (.cells #[.string K] 9)) := (Below.refl _ _).alloc (Nat.le_refl _) _
          have hrw : ∀ b, Value.ownBlock v1 = some b → w.heap.size ≤ b := fun b hb => by have := Hrow.out b hb; have := Hg4.out; omega
          have hown8 : w7.ownsRow w.heap.size 9 1 (Value.slice (some ⟨g7, 0, none⟩) (vs.length + 1) c7) (vs ++ [K]).length (strVs (vs ++ [K])) := by
            rw [strVs_app, List.length_append, List.length_singleton]
            exact owns_mono hown7 (by have := Hg4.out; omega)
          have HP := hide (P7.vals hxl (Value.slice (some ⟨g7, 0, none⟩) (vs.length + 1) c7) (vs ++ [K]) hown8 (fun e => by have := hv2 _ e; have := Hg4.out; omega) (fun i hi b hb e => by have := hv2 _ e; have := HVb.out i hi b hb; omega))
          have HO := hide ((Out.grown (HO6.out.trans (Out.of_below al)) hgrow7 hrw).past so hgb.1)
          have HC := hide ((CurIn.grown (B := w.heap.size) (HC6.out.later al) hgrow7 hrw Hd.out Hall.out).frame (so.below (B := w.heap.size) hgb.1 (by omega)) Hd.out Hall.out)
          have HS5 : Hid ((ts.set x ((ts[x]'hxl).1, (ts[x]'hxl).2.1, vs ++ [K])).length ≤ 9 ∧ goodAs (ts.set x ((ts[x]'hxl).1, (ts[x]'hxl).2.1, vs ++ [K]))) := ⟨by rw [hlen]; exact hl9, goodAs_set HS.out.2 x (by
            have h := HS.out.2 _ (List.getElem_mem hxl)
            have hb := Hvs.out
            exact ⟨h.1, h.2.1, h.2.2.1, by show (vs ++ [K]).length ≤ 9; rw [List.length_append, List.length_singleton]; omega, fun s hs => by
              rcases List.mem_append.1 hs with h' | h'
              · exact hb.2 s h'
              · rw [List.mem_singleton.1 h']; exact hKs⟩)⟩
          clear so hgb HP6 HO6 HC6 HS P7 hown7 hown8 hgrow7 HP7 Hown7 Hgrow7 hv2 al hrw HV6 q7 f7
          have HS := HS5
          clear HS5
          clear hxi hz hz' hl9
          rw [← hlen]
          clear hlen
          try clear hgl
          try clear hcv
          try clear hv8
          try clear hKs
          try clear hown7
          try clear hgrow7
          try clear P7
          clear R2 Hz6 Hrow HVb Hg4 Hd4 Hg1 HJ
          generalize ts.set x ((ts[x]'hxl).1, (ts[x]'hxl).2.1, vs ++ [K]) = tz at *
          go_wp2_with fail
          refine (l1Once_any d n cap 40 a _ hn (by decide) HC.out).mono ?_
          rintro e w7 ⟨o2, rfl, Hc7, ho7⟩
          have P7 := hide (HP.out.out ho7 Hd.out)
          have O7 := hide (HO.out.trans ho7)
          clear HP HC HO ho7
          cases o2
          · go_wp2
            go_ret
            exact ⟨tz, g, c, rfl, HS, P7.out.own, Hc7, O7⟩
          · go_wp2_with fail
            go_loopw [3] (fun v wr => ∃ (ts : List TD) (g c : Nat) (xs : List Value) (V : Nat → Value), v = .slice (some ⟨g, 0, none⟩) ts.length c ∧ Hid (ts.length ≤ 9 ∧ goodAs ts) ∧ Hid (OTD wr w.heap.size g c xs V ts) ∧ Hid (CurIn wr d a n cap) ∧ Hid (Out d (d + 1) w wr)) (fun v _ => 9 - lenV v)
            case atStart => exact ⟨tz, g, c, _, _, rfl, HS, P7, Hc7, O7⟩
            case round =>
              clear P7 Hc7 O7 HS
              obtain ⟨ts, g, c, xs, V, rfl, Hs, Hw, Hc, Ho⟩ := hrel
              have hl9 := Hs.out.1
              go_wp2_with fail
              refine (l1Below_any d n cap 2 a _ hn (by decide) Hc.out).mono ?_
              rintro e w2 ⟨q, hq, rfl, Hc2, ho2⟩
              have hq2 := hq (by decide)
              have Hw2 := hide (Hw.out.out ho2 Hd.out)
              have O2 := hide (Ho.out.trans ho2)
              have Ho2 := hide ho2
              have Hsz := hide (show w.heap.size ≤ w2.heap.size from O2.out.size)
              clear Ho Hc ho2 hq
              have hwq : wrap64 (8 + (q : Int)) = 8 + (q : Int) := by simp only [wrap64]; omega
              by_cases hlt : (ts.length : Int) < 8 + (q : Int)
              · have hl8 : ts.length ≤ 8 := by omega
                go_wp2_with (at_builtin; refine wpList_append_lies _ rfl _ _ 38 rfl w.heap.size 199 i0 _ 3 48 Try.underlying38 hi hz0 hz1 hz2 rfl (by decide) _ _ _ rfl (Hw2.out.1.alloc _) ⟨w2.heap.size, 0, none⟩ 1 1 [.int .i64 4, .string ⟨#[97]⟩, .slice none 0 0] rfl rfl (cell_three_new _ _ _ _ _) (fun x hx => by simp at hx; rcases hx with rfl | rfl | rfl <;> rfl) (by decide) (by unfold maxLen; omega) (by omega) (by have := Hsz.out; simp; omega) _ rfl ?_; intro g5 c5 w5 hown5 hgrow5 hat5 hlt5)
                have P5 := OTD_push (t := (4, ⟨#[97]⟩, [])) Hw2.out (Out.refl _ _ _) Hd.out (owns_none _ _ _ _) Hsz.out hown5 hgrow5 hat5
                have al : Below w2.heap.size w2 (w2.alloc (.cells #[.int .i64 4, .string ⟨#[97]⟩, .slice none 0 0] 199)) := (Below.refl _ _).alloc (Nat.le_refl _) _
                have hgb : ∀ b, (Value.slice (some ⟨g, 0, none⟩) ts.length c).ownBlock = some b → w.heap.size ≤ b := fun b hb => (owns_blk Hw2.out.1 hb).1
                have O5 := hide (Out.grown (O2.out.trans (Out.of_below al)) hgrow5 hgb)
                have C5 := hide (CurIn.grown (B := w.heap.size) (Hc2.out.later al) hgrow5 hgb Hd.out Hall.out)
                have hln : ts.length + 1 = (ts ++ [((4 : Int), (⟨#[97]⟩ : ByteArray), ([] : List ByteArray))]).length := by rw [List.length_append, List.length_singleton]
                have S5 : Hid ((ts ++ [((4 : Int), (⟨#[97]⟩ : ByteArray), ([] : List ByteArray))]).length ≤ 9 ∧ goodAs (ts ++ [(4, ⟨#[97]⟩, [])])) := ⟨by rw [← hln]; omega, fun t ht => by
                  rcases List.mem_append.1 ht with h | h
                  · exact Hs.out.2 t h
                  · rw [List.mem_singleton.1 h]; exact ⟨by decide, by decide, by decide, by decide, fun s h => by cases h⟩⟩
                have HP5 := hide P5
                have hln' := hide hln
                clear P5 hown5 hgrow5 hat5 hlt5 al hgb hln Hw Hw2 O2 Ho2 Hc2 Hs Hsz
                go_wp2
                go_roundw
                case rel => exact ⟨ts ++ [(4, ⟨#[97]⟩, [])], g5, c5, _, _, by rw [← hln'.out], S5, HP5, C5, O5⟩
                case measure => simp [lenV]; omega
              · go_wp2
                go_ret
                exact ⟨ts, g, c, rfl, Hs, Hw2.out.own, Hc2, O2⟩
  · have hz' : ¬ (0 : Int) < (ts.length : Int) := by omega
    clear hz
    generalize ts = tz at *
    go_wp2_with fail
    refine (l1Once_any d n cap 40 a _ hn (by decide) HC.out).mono ?_
    rintro e w7 ⟨o2, rfl, Hc7, ho7⟩
    have P7 := hide (HP.out.out ho7 Hd.out)
    have O7 := hide (HO.out.trans ho7)
    clear HP HC HO ho7
    cases o2
    · go_wp2
      go_ret
      exact ⟨tz, g, c, rfl, HS, P7.out.own, Hc7, O7⟩
    · go_wp2_with fail
      go_loopw [3] (fun v wr => ∃ (ts : List TD) (g c : Nat) (xs : List Value) (V : Nat → Value), v = .slice (some ⟨g, 0, none⟩) ts.length c ∧ Hid (ts.length ≤ 9 ∧ goodAs ts) ∧ Hid (OTD wr w.heap.size g c xs V ts) ∧ Hid (CurIn wr d a n cap) ∧ Hid (Out d (d + 1) w wr)) (fun v _ => 9 - lenV v)
      case atStart => exact ⟨tz, g, c, _, _, rfl, HS, P7, Hc7, O7⟩
      case round =>
        clear P7 Hc7 O7 HS
        obtain ⟨ts, g, c, xs, V, rfl, Hs, Hw, Hc, Ho⟩ := hrel
        have hl9 := Hs.out.1
        go_wp2_with fail
        refine (l1Below_any d n cap 2 a _ hn (by decide) Hc.out).mono ?_
        rintro e w2 ⟨q, hq, rfl, Hc2, ho2⟩
        have hq2 := hq (by decide)
        have Hw2 := hide (Hw.out.out ho2 Hd.out)
        have O2 := hide (Ho.out.trans ho2)
        have Ho2 := hide ho2
        have Hsz := hide (show w.heap.size ≤ w2.heap.size from O2.out.size)
        clear Ho Hc ho2 hq
        have hwq : wrap64 (8 + (q : Int)) = 8 + (q : Int) := by simp only [wrap64]; omega
        by_cases hlt : (ts.length : Int) < 8 + (q : Int)
        · have hl8 : ts.length ≤ 8 := by omega
          go_wp2_with (at_builtin; refine wpList_append_lies _ rfl _ _ 38 rfl w.heap.size 199 i0 _ 3 48 Try.underlying38 hi hz0 hz1 hz2 rfl (by decide) _ _ _ rfl (Hw2.out.1.alloc _) ⟨w2.heap.size, 0, none⟩ 1 1 [.int .i64 4, .string ⟨#[97]⟩, .slice none 0 0] rfl rfl (cell_three_new _ _ _ _ _) (fun x hx => by simp at hx; rcases hx with rfl | rfl | rfl <;> rfl) (by decide) (by unfold maxLen; omega) (by omega) (by have := Hsz.out; simp; omega) _ rfl ?_; intro g5 c5 w5 hown5 hgrow5 hat5 hlt5)
          have P5 := OTD_push (t := (4, ⟨#[97]⟩, [])) Hw2.out (Out.refl _ _ _) Hd.out (owns_none _ _ _ _) Hsz.out hown5 hgrow5 hat5
          have al : Below w2.heap.size w2 (w2.alloc (.cells #[.int .i64 4, .string ⟨#[97]⟩, .slice none 0 0] 199)) := (Below.refl _ _).alloc (Nat.le_refl _) _
          have hgb : ∀ b, (Value.slice (some ⟨g, 0, none⟩) ts.length c).ownBlock = some b → w.heap.size ≤ b := fun b hb => (owns_blk Hw2.out.1 hb).1
          have O5 := hide (Out.grown (O2.out.trans (Out.of_below al)) hgrow5 hgb)
          have C5 := hide (CurIn.grown (B := w.heap.size) (Hc2.out.later al) hgrow5 hgb Hd.out Hall.out)
          have hln : ts.length + 1 = (ts ++ [((4 : Int), (⟨#[97]⟩ : ByteArray), ([] : List ByteArray))]).length := by rw [List.length_append, List.length_singleton]
          have S5 : Hid ((ts ++ [((4 : Int), (⟨#[97]⟩ : ByteArray), ([] : List ByteArray))]).length ≤ 9 ∧ goodAs (ts ++ [(4, ⟨#[97]⟩, [])])) := ⟨by rw [← hln]; omega, fun t ht => by
            rcases List.mem_append.1 ht with h | h
            · exact Hs.out.2 t h
            · rw [List.mem_singleton.1 h]; exact ⟨by decide, by decide, by decide, by decide, fun s h => by cases h⟩⟩
          have HP5 := hide P5
          have hln' := hide hln
          clear P5 hown5 hgrow5 hat5 hlt5 al hgb hln Hw Hw2 O2 Ho2 Hc2 Hs Hsz
          go_wp2
          go_roundw
          case rel => exact ⟨ts ++ [(4, ⟨#[97]⟩, [])], g5, c5, _, _, by rw [← hln'.out], S5, HP5, C5, O5⟩
          case measure => simp [lenV]; omega
        · go_wp2
          go_ret
          exact ⟨ts, g, c, rfl, Hs, Hw2.out.own, Hc2, O2⟩
end Go.Proofs.Ytdnodaoeflbfkaa
namespace Go.Proofs.Ytdnodaoeflbfkaa
open Go.RowKit Go.BigFrame
set_option linter.unusedVariables false
/-! numbers that are drawn -/
def numAt (w : World) (b n : Nat) : Prop := ∀ j, j < n → ∃ x : Int, w.cell? ⟨b, j, none⟩ = some (.int .i64 x)
set_option maxHeartbeats 800000 in
theorem l1Int_any (d n cap b k sc : Nat) (a : Option Addr) (w : World) (hn : n ≤ 1048576) (hl : k ≤ 1048576) (h0 : 0 < k) (hc : CurIn w d a n cap) (hs : numAt w b k) (hbd : b ≠ d) :
    Calls Try.prog 173 #[.pointer (some ⟨d, 0, none⟩), .slice (some ⟨b, 0, none⟩) k sc] w fun e w' => ∃ x : Int, e = .returned (.int .i64 x) ∧ Hid (CurIn w' d a n cap) ∧ Out d (d + 1) w w' := by
  have Hc := hide hc
  have Hs := hide hs
  clear hc hs
  go_enter Try.func173, Try.ntmps173
  go_wp2_with (go_at_call 97; refine (l1Below_any d n cap k a _ hn hl (by first | exact Hc.out | exact Hc.out.drew)).mono ?_; rintro e w2 ⟨x, hx, rfl, hc2, ho2⟩; have hx' := hx h0; obtain ⟨v, hv⟩ := Hs.out x hx'; have hq := (ho2.cell (p := ⟨b, x, none⟩) (World.block_lt_of_cell? _ _ hv) (by show b < d ∨ d + 1 ≤ b; omega)).trans hv)
  go_wp2
  go_ret
  exact ⟨_, rfl, hc2, ho2⟩
theorem numNew (w : World) (cs : Array Value) (t : TypeId) (h : ∀ v ∈ cs.toList, ∃ x : Int, v = .int .i64 x) : numAt (w.alloc (.cells cs t)) w.heap.size cs.size := by
  intro j hj
  have h' : j < cs.toList.length := by simpa using hj
  obtain ⟨x, hx⟩ := h (cs.toList[j]'h') (List.getElem_mem h')
  refine ⟨x, (World.cell?_alloc_at _ _ _ _ rfl).trans ?_⟩
  rw [Array.getElem?_eq_getElem hj]
  exact congrArg some hx
theorem l1Int_new (d n cap : Nat) (a : Option Addr) (cs : Array Value) (t : TypeId) (w : World) (hn : n ≤ 1048576) (hl : cs.size ≤ 1048576) (h0 : 0 < cs.size) (h : ∀ v ∈ cs.toList, ∃ x : Int, v = .int .i64 x) (hc : CurIn w d a n cap) :
    Calls Try.prog 173 #[.pointer (some ⟨d, 0, none⟩), .slice (some ⟨w.heap.size, 0, none⟩) cs.size cs.size] (w.alloc (.cells cs t)) fun e w' => ∃ x : Int, e = .returned (.int .i64 x) ∧ Hid (CurIn w' d a n cap) ∧ Out d (d + 1) w w' :=
  (l1Int_any d n cap w.heap.size cs.size cs.size a _ hn hl h0 (hc.later ((Below.refl _ _).alloc (Nat.le_refl _) _)) (numNew w cs t h) (by have := hc.lt; omega)).mono fun e w' ⟨x, h1, h2, h3⟩ => ⟨x, h1, h2, (Out.of_below ((Below.refl _ _).alloc (Nat.le_refl _) _)).trans h3⟩
end Go.Proofs.Ytdnodaoeflbfkaa
/- Rows of numbers that a call builds by append. -/
namespace Go.Proofs.Ytdnodaoeflbfkaa
open Go.RowKit Go.BigFrame
set_option linter.unusedVariables false
/-- a row of numbers of the call's own, from base on -/
def IR (w : World) (base : Nat) (v : Value) (l : List Int) : Prop := w.ownsRow base 3 1 v l.length (l.map (Value.int .i64)) ∧ ∃ g, v.ownBlock = some g ∧ base ≤ g ∧ g < w.heap.size
theorem IR.frame {w w' : World} {base : Nat} {v : Value} {l : List Int} (h : IR w base v l) (hs : w.heap.size ≤ w'.heap.size) (hf : ∀ g, v.ownBlock = some g → w'.heap[g]? = w.heap[g]?) : IR w' base v l := by
  obtain ⟨h1, g, h2, h3, h4⟩ := h
  refine ⟨uowns_frame h1 (fun x hx => ?_), g, h2, h3, by omega⟩
  unfold blkOf at hx
  rw [h2] at hx
  have : x = g := by simpa using hx
  subst this
  exact hf x h2
theorem IR.below {w w' : World} {base : Nat} {v : Value} {l : List Int} (h : IR w base v l) (hb : Below w.heap.size w w') : IR w' base v l :=
  h.frame hb.size (fun g hg => hb.block g (by obtain ⟨g', h2, h3, h4⟩ := h.2; rw [h2] at hg; cases hg; exact h4))
theorem IR.grown {w w' : World} {base : Nat} {v u : Value} {l : List Int} (h : IR w base v l) (hg : w.grownBy w' u.ownBlock) (hne : v.ownBlock ≠ u.ownBlock) : IR w' base v l :=
  h.frame hg.size (fun g hv => by
    obtain ⟨g', h2, h3, h4⟩ := h.2
    rw [h2] at hv; cases hv
    exact hg.block g h4 (by rw [← h2]; exact hne))
theorem IR.lit (w : World) (base : Nat) (hb : base ≤ w.heap.size) : IR (w.alloc (.cells #[] 3)) base (.slice (some ⟨w.heap.size, 0, none⟩) 0 0) [] :=
  ⟨World.ownsRow_lit w #[] 0 hb (by decide) rfl, w.heap.size, rfl, hb, by simp⟩
theorem IR.snoc {w w' : World} {base : Nat} {v v' : Value} {l : List Int} {x : Int} (h : IR w base v l) (hown : w'.ownsRow base 3 1 v' (l.length + 1) (l.map (Value.int .i64) ++ [.int .i64 x])) (hat : v'.ownBlock = v.ownBlock ∨ v'.ownBlock = some w.heap.size) : IR w' base v' (l ++ [x]) := by
  refine ⟨by rw [List.length_append, List.map_append]; exact hown, ?_⟩
  obtain ⟨g, h2, h3, h4⟩ := h.2
  rcases hat with e | e
  · rw [h2] at e; exact ⟨g, e, uowns_blk hown e⟩
  · exact ⟨_, e, uowns_blk hown e⟩
theorem IR.row {w : World} {base : Nat} {v : Value} {l : List Int} (h : IR w base v l) : ∀ k, v.ownBlock = some k → base ≤ k := fun k e => by
  obtain ⟨g, h2, h3, h4⟩ := h.2
  rw [h2] at e; cases e; exact h3
theorem IR.apart {w : World} {base : Nat} {u v v' : Value} {l : List Int} (hu : IR w base u l) (hne : v.ownBlock ≠ u.ownBlock) (hat : v'.ownBlock = v.ownBlock ∨ v'.ownBlock = some w.heap.size) : v'.ownBlock ≠ u.ownBlock := by
  rcases hat with e | e
  · rw [e]; exact hne
  · obtain ⟨g, h2, h3, h4⟩ := hu.2
    rw [e, h2]
    intro hh; cases hh; omega
/-- numbers in range, not more than so many -/
def goodI (l : List Int) (k : Nat) : Prop := l.length ≤ k ∧ ∀ x ∈ l, -9223372036854775808 ≤ x ∧ x ≤ 9223372036854775807
theorem goodI.snoc {l : List Int} {k : Nat} {x : Int} (h : goodI l k) (hx : -9223372036854775808 ≤ x ∧ x ≤ 9223372036854775807) : goodI (l ++ [x]) (k + 1) :=
  ⟨by rw [List.length_append, List.length_singleton]; have := h.1; omega, fun y hy => by
    rcases List.mem_append.1 hy with hy | hy
    · exact h.2 y hy
    · simp at hy; rw [hy]; exact hx⟩
theorem goodI.mono {l : List Int} {k k' : Nat} (h : goodI l k) (hk : k ≤ k') : goodI l k' := ⟨by have := h.1; omega, h.2⟩
end Go.Proofs.Ytdnodaoeflbfkaa
/- Drawn numbers; rows of numbers that a call builds by append. -/
namespace Go.Proofs.Ytdnodaoeflbfkaa
open Go.RowKit Go.BigFrame
set_option linter.unusedVariables false
set_option maxHeartbeats 800000 in
theorem l1Int_in (d n cap : Nat) (a : Option Addr) (zs : List Int) (t : TypeId) (w : World) (hn : n ≤ 1048576) (hl : zs.length ≤ 1048576) (h0 : 0 < zs.length) (hz : ∀ x ∈ zs, -9223372036854775808 ≤ x ∧ x ≤ 9223372036854775807) (hc : CurIn w d a n cap) :
    Calls Try.prog 173 #[.pointer (some ⟨d, 0, none⟩), .slice (some ⟨w.heap.size, 0, none⟩) zs.length zs.length] (w.alloc (.cells (zs.map (Value.int .i64)).toArray t)) fun e w' => ∃ x : Int, (-9223372036854775808 ≤ x ∧ x ≤ 9223372036854775807) ∧ e = .returned (.int .i64 x) ∧ Hid (CurIn w' d a n cap) ∧ Hid (Out d (d + 1) w w') := by
  have Hs : Hid (∀ j (h : j < zs.length), (w.alloc (.cells (zs.map (Value.int .i64)).toArray t)).cell? ⟨w.heap.size, j, none⟩ = some (.int .i64 (zs[j]'h))) := fun j h => by
    refine (World.cell?_alloc_at _ _ _ _ rfl).trans ?_
    simp [h]
  have Hlt := hide hc.lt
  have Hc : Hid (CurIn (w.alloc (.cells (zs.map (Value.int .i64)).toArray t)) d a n cap) := hc.later ((Below.refl _ _).alloc (Nat.le_refl _) _)
  have Hz := hide hz
  have HO : Hid (Out d (d + 1) w (w.alloc (.cells (zs.map (Value.int .i64)).toArray t))) := Out.of_below ((Below.refl _ _).alloc (Nat.le_refl _) _)
  clear hc hz
  generalize hW : w.alloc (.cells (zs.map (Value.int .i64)).toArray t) = W at *
  go_enter Try.func173, Try.ntmps173
  go_wp2_with (go_at_call 97; refine (l1Below_any d n cap zs.length a _ hn hl (by first | exact Hc.out | exact Hc.out.drew)).mono ?_; rintro e w2 ⟨x, hx, rfl, hc2, ho2⟩; have hx' := hx h0; have hv := Hs.out x hx'; have hq := (ho2.cell (p := ⟨w.heap.size, x, none⟩) (World.block_lt_of_cell? _ _ hv) (by have := Hlt.out; show w.heap.size < d ∨ d + 1 ≤ w.heap.size; omega)).trans hv)
  go_wp2
  go_ret
  exact ⟨_, Hz.out _ (List.getElem_mem hx'), rfl, hc2, HO.out.trans ho2⟩
theorem IR.out {w w' : World} {base d : Nat} {v : Value} {l : List Int} (h : IR w base v l) (ho : Out d (d + 1) w w') (hd : d < base) : IR w' base v l :=
  h.frame ho.size (fun g hg => by obtain ⟨g', h2, h3, h4⟩ := h.2; rw [h2] at hg; cases hg; exact ho.block g h4 (by omega))
theorem Out.grownI {lo hi : Nat} {a w w' : World} {row : Option Nat} (h : Out lo hi a w) (hg : w.grownBy w' row) (hr : ∀ k, row = some k → a.heap.size ≤ k) : Out lo hi a w' :=
  ⟨hg.os.trans h.os, hg.tape.trans h.tape, hg.output.trans h.output, Nat.le_trans h.size hg.size, fun k hk hr' => (hg.block k (Nat.lt_of_lt_of_le hk h.size) (fun e => by have := hr k e.symm; omega)).trans (h.block k hk hr')⟩
theorem CurIn.grownI {w w' : World} {row : Option Nat} {d : Nat} {a : Option Addr} {n cap B : Nat} (c : CurIn w d a n cap) (hg : w.grownBy w' row) (hr : ∀ k, row = some k → B ≤ k) (hd : d < B) (hall : ∀ j, j < n → ∀ b off, a = some ⟨b, off, none⟩ → b < B) : CurIn w' d a n cap := by
  have hlt := c.lt
  have hb : ∀ k, k < w.heap.size → k < B → w'.heap[k]? = w.heap[k]? := fun k hk hkB => hg.block k hk (fun e => by have := hr k e.symm; omega)
  obtain ⟨i, h, c⟩ := c
  refine ⟨i, h, c.le, ?_, ?_, ?_, ?_, ?_, ?_⟩
  · exact (World.cell?_of_block (w := w) (a := ⟨d, 0, none⟩) (hb d hlt hd)).trans c.c0
  · exact (World.cell?_of_block (w := w) (a := ⟨d, 1, none⟩) (hb d hlt hd)).trans c.c1
  · exact (World.cell?_of_block (w := w) (a := ⟨d, 2, none⟩) (hb d hlt hd)).trans c.c2
  · exact (World.frozen?_of_block (w := w) (a := ⟨d, 1, none⟩) (hb d hlt hd)).trans c.f1
  · exact (World.frozen?_of_block (w := w) (a := ⟨d, 2, none⟩) (hb d hlt hd)).trans c.f2
  · intro j hj
    obtain ⟨b, off, x, h1, h2, h3, h4⟩ := c.code j hj
    exact ⟨b, off, x, h1, h2, (World.cell?_of_block (w := w) (a := ⟨b, off + j, none⟩) (hb b (World.block_lt_of_cell? _ _ h3) (hall j hj b off h1))).trans h3, h4⟩
theorem CurIn.lt_allI {w : World} {d : Nat} {a : Option Addr} {n cap : Nat} (c : CurIn w d a n cap) : ∀ j, j < n → ∀ b off, a = some ⟨b, off, none⟩ → b < w.heap.size := by
  obtain ⟨i, h, c⟩ := c
  intro j hj b off e
  obtain ⟨b', off', x, h1, h2, h3, h4⟩ := c.code j hj
  rw [h1] at e
  cases e
  exact World.block_lt_of_cell? _ _ h3
end Go.Proofs.Ytdnodaoeflbfkaa
/- Islands that are drawn. -/
namespace Go.Proofs.Ytdnodaoeflbfkaa
open Go.RowKit Go.BigFrame
set_option linter.unusedVariables false

theorem ownsL_out {w w' : World} {B d n : Nat} {v : Value} {e : TypeId} {size : Nat} {xs : List Value} (h : w.ownsRow B e size v n xs) (ho : Out d (d + 1) w w') (hd : d < B) : w'.ownsRow B e size v n xs := owns_out h ho (fun b hb => .inr (by have := (owns_blk h hb).1; omega))
theorem objU_out {w w' : World} {b d : Nat} {t : TypeId} {xs : List Value} (h : objU w b t xs) (ho : Out d (d + 1) w w') (hb : d < b) : objU w' b t xs := (ho.block b h.lt (.inr (by omega))).trans h
set_option maxRecDepth 20000 in
set_option maxHeartbeats 1600000 in
theorem l10Island_any (d n cap : Nat) (a : Option Addr) (s : ByteArray) (w : World) (hn : n ≤ 1048576) (hc : CurIn w d a n cap) :
    Calls Try.prog 106 #[.pointer (some ⟨d, 0, none⟩), .string s] w fun e w' => ∃ (ls : List (ByteArray × ByteArray)) (ss : List ByteArray) (z : Int) (g c : Nat) (a2 : Option Addr) (p2 : Nat),
      e = .returned (.agg #[.string s, .slice (some ⟨g, 0, none⟩) ls.length c, .slice a2 ss.length p2, .int .i64 z]) ∧ Hid ((ls.length ≤ 8 ∧ smallL ls) ∧ (ss.length ≤ 1 ∧ ∀ x ∈ ss, x.size ≤ 25) ∧ inK .i64 z) ∧
      Hid (w'.ownsRow w.heap.size 212 2 (.slice (some ⟨g, 0, none⟩) ls.length c) ls.length (flat ls)) ∧ Hid (w'.ownsRow w.heap.size 9 1 (.slice a2 ss.length p2) ss.length (strVs ss)) ∧ Hid (CurIn w' d a n cap) ∧ Hid (Out d (d + 1) w w') := by
  have Hd := hide hc.lt
  have Hall := hide hc.lt_all'
  have B0 : Hid (Below w.heap.size w (w.alloc (.cells #[.string ByteArray.empty, .slice none 0 0, .slice none 0 0, .int .i64 0] 54))) := (Below.refl _ _).alloc (Nat.le_refl _) _
  have OR0 : Hid (objU (w.alloc (.cells #[.string ByteArray.empty, .slice none 0 0, .slice none 0 0, .int .i64 0] 54)) w.heap.size 54 [.string ByteArray.empty, .slice none 0 0, .slice none 0 0, .int .i64 0]) := objU.new _ _ _
  have HC0 := hide (hc.later B0.out)
  clear hc
  go_enter Try.func106, Try.ntmps106
  go_wp2_with fail
  refine (l1Draw_any d n cap 4 a _ hn (by decide) (by decide) HC0.out).mono ?_
  rintro e w1 ⟨ls, g, c, rfl, HS, HL, HC1, HO1⟩
  have HO1' : Hid (Out d (d + 1) w w1) := (Out.of_below B0.out).trans HO1.out
  have HI := hide (l1Int_in d n cap a [0, 1, 3, 5, 8, 20, 100] 3 w1 hn (by decide) (by decide) (fun x hx => by simp at hx; omega) HC1.out)
  go_wp2_with fail
  refine HI.out.mono ?_
  rintro e w2 ⟨z, hz, rfl, HC2, HO2⟩
  have OR2 := hide (objU_out (objU_out OR0.out HO1.out Hd.out) HO2.out Hd.out)
  have HO02 := hide (HO1'.out.trans HO2.out)
  have HLb : Hid (w1.ownsRow (w.heap.size + 1) 212 2 (.slice (some ⟨g, 0, none⟩) ls.length c) ls.length (flat ls)) := by
    show w1.ownsRow _ _ _ _ _ _
    simpa using HL.out
  have HL2 := hide (ownsL_out HLb.out HO2.out (by have := Hd.out; omega))
  clear OR0 HI HC1 HO1 HO1' HL HC0 HO2 B0
  have B2 : Hid (Below w2.heap.size w2 (w2.alloc (.cells #[.string s, .slice (some ⟨g, 0, none⟩) ls.length c, .slice none 0 0, .int .i64 z] 54))) := (Below.refl _ _).alloc (Nat.le_refl _) _
  have O5 : Hid (objU (w2.alloc (.cells #[.string s, .slice (some ⟨g, 0, none⟩) ls.length c, .slice none 0 0, .int .i64 z] 54)) w2.heap.size 54 [.string s, .slice (some ⟨g, 0, none⟩) ls.length c, .slice none 0 0, .int .i64 z]) := objU.new _ _ _
  have HC3 := hide (HC2.out.later B2.out)
  have hw2 : w.heap.size < w2.heap.size := OR2.out.lt
  go_wp2_with fail
  refine (l1Once_any d n cap 4 a _ hn (by decide) HC3.out).mono ?_
  rintro e w3 ⟨o, rfl, HC4, ho3⟩
  have hdw := Hd.out
  have O53 := hide (objU_out O5.out ho3 (by omega))
  have OR3 := hide (objU_out (OR2.out.below B2.out) ho3 Hd.out)
  have HO03 := hide ((HO02.out.trans (Out.of_below B2.out)).trans ho3)
  have HL3 := hide (ownsL_out (owns_below_any HL2.out B2.out) ho3 (by omega))
  have hw3 : w2.heap.size < w3.heap.size := O53.out.lt
  have HLt := hide (fun x hx => (ublk_lt HL2.out x hx).2)
  clear O5 OR2 HO02 HL2 HC3 HC2 B2 ho3
  have r0 := OR3.out.cell 0 _ rfl
  have r1 := OR3.out.cell 1 _ rfl
  have r2 := OR3.out.cell 2 _ rfl
  have r3 := OR3.out.cell 3 _ rfl
  have f0 := OR3.out.fz 0
  have f1 := OR3.out.fz 1
  have f2 := OR3.out.fz 2
  have f3 := OR3.out.fz 3
  have b0 := O53.out.cell 0 _ rfl
  have b1 := O53.out.cell 1 _ rfl
  have b2 := O53.out.cell 2 _ rfl
  have b3 := O53.out.cell 3 _ rfl
  cases o
  · go_wp2
    have ORf := hide ((((OR3.out.set 0 (.string s)).set 1 (.slice (some ⟨g, 0, none⟩) ls.length c)).set 2 (.slice none 0 0)).set 3 (.int .i64 z))
    have hos : OutS [w.heap.size] w3 ((((w3.setCell ⟨w.heap.size, 0, none⟩ (.string s)).setCell ⟨w.heap.size, 1, none⟩ (.slice (some ⟨g, 0, none⟩) ls.length c)).setCell ⟨w.heap.size, 2, none⟩ (.slice none 0 0)).setCell ⟨w.heap.size, 3, none⟩ (.int .i64 z)) := ((((OutS.refl _ _).setCell (p := ⟨w.heap.size, 0, none⟩) (by simp) _).setCell (p := ⟨w.heap.size, 1, none⟩) (by simp) _).setCell (p := ⟨w.heap.size, 2, none⟩) (by simp) _).setCell (p := ⟨w.heap.size, 3, none⟩) (by simp) _
    have hog : Out w.heap.size (w.heap.size + 1) w3 ((((w3.setCell ⟨w.heap.size, 0, none⟩ (.string s)).setCell ⟨w.heap.size, 1, none⟩ (.slice (some ⟨g, 0, none⟩) ls.length c)).setCell ⟨w.heap.size, 2, none⟩ (.slice none 0 0)).setCell ⟨w.heap.size, 3, none⟩ (.int .i64 z)) := ((((Out.refl _ _ _).setCell (p := ⟨w.heap.size, 0, none⟩) (Nat.le_refl _) (Nat.lt_succ_self _) _).setCell (p := ⟨w.heap.size, 1, none⟩) (Nat.le_refl _) (Nat.lt_succ_self _) _).setCell (p := ⟨w.heap.size, 2, none⟩) (Nat.le_refl _) (Nat.lt_succ_self _) _).setCell (p := ⟨w.heap.size, 3, none⟩) (Nat.le_refl _) (Nat.lt_succ_self _) _
    have hof := hog.below (B := w.heap.size) (Nat.le_refl _) (by omega)
    generalize ((((w3.setCell ⟨w.heap.size, 0, none⟩ (.string s)).setCell ⟨w.heap.size, 1, none⟩ (.slice (some ⟨g, 0, none⟩) ls.length c)).setCell ⟨w.heap.size, 2, none⟩ (.slice none 0 0)).setCell ⟨w.heap.size, 3, none⟩ (.int .i64 z)) = wf at *
    have c0 : wf.cell? ⟨w.heap.size, 0, none⟩ = some (.string s) := ORf.out.cell 0 _ rfl
    have c1 : wf.cell? ⟨w.heap.size, 1, none⟩ = some (.slice (some ⟨g, 0, none⟩) ls.length c) := ORf.out.cell 1 _ rfl
    have c2 : wf.cell? ⟨w.heap.size, 2, none⟩ = some (.slice none 0 0) := ORf.out.cell 2 _ rfl
    have c3 : wf.cell? ⟨w.heap.size, 3, none⟩ = some (.int .i64 z) := ORf.out.cell 3 _ rfl
    have HOf : Hid (Out d (d + 1) w wf) := HO03.out.past hog (Nat.le_refl _)
    exact bodyPost_ret (v := .agg #[.string s, (.slice (some ⟨g, 0, none⟩) ls.length c), .slice none 0 0, .int .i64 z]) (by simp [results, Try.results106, go_sem, c0, c1, c2, c3]) rfl
      ⟨ls, [], z, g, c, none, 0, rfl, ⟨HS.out, ⟨by decide, fun x hx => by cases hx⟩, hz⟩, owns_mono (uowns_frame HL3.out (fun x hx => hos.block x (ublk_lt HL3.out x hx).2 (by have := (ublk_lt HL3.out x hx).1; simp; omega))) (by omega), World.ownsRow_nil wf _ _ _, HC4.out.frame hof Hd.out Hall.out, HOf⟩
  · clear b0 b1 b2 b3 r0 r1 r2 r3 f0 f1 f2 f3
    have HStr := hide (l1Str_lit d n cap a [⟨#[103, 111, 108, 100]⟩, ⟨#[116, 105, 101, 114]⟩] w3 hn (by decide) (by decide) (by omega) HC4.out)
    go_wp2_with fail
    refine HStr.out.mono ?_
    rintro e w4 ⟨S, hS, rfl, HC5, ho4⟩
    have hSs : S.size ≤ 25 := by simp at hS; rcases hS with rfl | rfl <;> decide
    have B4 : Hid (Below w4.heap.size w4 (w4.alloc (.cells #[.string S] 9))) := (Below.refl _ _).alloc (Nat.le_refl _) _
    have hw4 : w3.heap.size ≤ w4.heap.size := ho4.size
    have O54 := hide ((objU_out O53.out ho4 (by omega)).below B4.out)
    have OR4 := hide ((objU_out OR3.out ho4 Hd.out).below B4.out)
    have HO4 := hide ((HO03.out.trans ho4).trans (Out.of_below B4.out))
    have HL4 := hide (owns_below_any (ownsL_out HL3.out ho4 (by omega)) B4.out)
    have HC4' := hide (HC5.out.later B4.out)
    have HV4 : Hid ((w4.alloc (.cells #[.string S] 9)).ownsRow w4.heap.size 9 1 (.slice (some ⟨w4.heap.size, 0, none⟩) 1 1) [S].length (strVs [S])) := World.ownsRow_lit w4 #[.string S] 1 (Nat.le_refl _) (by decide) rfl
    have b0 := O54.out.cell 0 _ rfl
    have b1 := O54.out.cell 1 _ rfl
    have b2 := O54.out.cell 2 _ rfl
    have b3 := O54.out.cell 3 _ rfl
    have g2 := O54.out.fz 2
    have r0 := OR4.out.cell 0 _ rfl
    have r1 := OR4.out.cell 1 _ rfl
    have r2 := OR4.out.cell 2 _ rfl
    have r3 := OR4.out.cell 3 _ rfl
    have f0 := OR4.out.fz 0
    have f1 := OR4.out.fz 1
    have f2 := OR4.out.fz 2
    have f3 := OR4.out.fz 3
    clear HStr hS ho4 O53 OR3 HO03 HL3 HC4 HC5 B4
    go_wp2
    have hog5 : Out w2.heap.size (w2.heap.size + 1) (w4.alloc (.cells #[.string S] 9)) ((w4.alloc (.cells #[.string S] 9)).setCell ⟨w2.heap.size, 2, none⟩ (.slice (some ⟨w4.heap.size, 0, none⟩) 1 1)) := (Out.refl _ _ _).setCell (p := ⟨w2.heap.size, 2, none⟩) (Nat.le_refl _) (Nat.lt_succ_self _) _
    have hof5 := hog5.below (B := w.heap.size) (by omega) (by simp; omega)
    have OR5 := hide (OR4.out.other ⟨w2.heap.size, 2, none⟩ (by show w.heap.size ≠ w2.heap.size; omega) (.slice (some ⟨w4.heap.size, 0, none⟩) 1 1))
    have HO5 := hide (HO4.out.past hog5 (by omega))
    have HL5 := hide (uowns_frame HL4.out (fun x hx => hog5.block x (ublk_lt HL4.out x hx).2 (by have := HLt.out x hx; omega)))
    have HV5 := hide (uowns_frame HV4.out (fun x hx => hog5.block x (ublk_lt HV4.out x hx).2 (by have := (ublk_lt HV4.out x hx).1; omega)))
    have HC6 := hide (HC4'.out.frame hof5 Hd.out Hall.out)
    have hw5 : w.heap.size < (((w4.alloc (.cells #[.string S] 9)).setCell ⟨w2.heap.size, 2, none⟩ (.slice (some ⟨w4.heap.size, 0, none⟩) 1 1))).heap.size := OR5.out.lt
    clear hog5 hof5 OR4 HO4 HL4 HV4 HC4' b0 b1 b2 b3 g2 r0 r1 r2 r3 f0 f1 f2 f3 O54
    generalize ((w4.alloc (.cells #[.string S] 9)).setCell ⟨w2.heap.size, 2, none⟩ (.slice (some ⟨w4.heap.size, 0, none⟩) 1 1)) = w5 at *
    have ORf := hide ((((OR5.out.set 0 (.string s)).set 1 (.slice (some ⟨g, 0, none⟩) ls.length c)).set 2 (.slice (some ⟨w4.heap.size, 0, none⟩) 1 1)).set 3 (.int .i64 z))
    have hos : OutS [w.heap.size] w5 ((((w5.setCell ⟨w.heap.size, 0, none⟩ (.string s)).setCell ⟨w.heap.size, 1, none⟩ (.slice (some ⟨g, 0, none⟩) ls.length c)).setCell ⟨w.heap.size, 2, none⟩ (.slice (some ⟨w4.heap.size, 0, none⟩) 1 1)).setCell ⟨w.heap.size, 3, none⟩ (.int .i64 z)) := ((((OutS.refl _ _).setCell (p := ⟨w.heap.size, 0, none⟩) (by simp) _).setCell (p := ⟨w.heap.size, 1, none⟩) (by simp) _).setCell (p := ⟨w.heap.size, 2, none⟩) (by simp) _).setCell (p := ⟨w.heap.size, 3, none⟩) (by simp) _
    have hog : Out w.heap.size (w.heap.size + 1) w5 ((((w5.setCell ⟨w.heap.size, 0, none⟩ (.string s)).setCell ⟨w.heap.size, 1, none⟩ (.slice (some ⟨g, 0, none⟩) ls.length c)).setCell ⟨w.heap.size, 2, none⟩ (.slice (some ⟨w4.heap.size, 0, none⟩) 1 1)).setCell ⟨w.heap.size, 3, none⟩ (.int .i64 z)) := ((((Out.refl _ _ _).setCell (p := ⟨w.heap.size, 0, none⟩) (Nat.le_refl _) (Nat.lt_succ_self _) _).setCell (p := ⟨w.heap.size, 1, none⟩) (Nat.le_refl _) (Nat.lt_succ_self _) _).setCell (p := ⟨w.heap.size, 2, none⟩) (Nat.le_refl _) (Nat.lt_succ_self _) _).setCell (p := ⟨w.heap.size, 3, none⟩) (Nat.le_refl _) (Nat.lt_succ_self _) _
    have hof := hog.below (B := w.heap.size) (Nat.le_refl _) (by omega)
    generalize ((((w5.setCell ⟨w.heap.size, 0, none⟩ (.string s)).setCell ⟨w.heap.size, 1, none⟩ (.slice (some ⟨g, 0, none⟩) ls.length c)).setCell ⟨w.heap.size, 2, none⟩ (.slice (some ⟨w4.heap.size, 0, none⟩) 1 1)).setCell ⟨w.heap.size, 3, none⟩ (.int .i64 z)) = wf at *
    have c0 : wf.cell? ⟨w.heap.size, 0, none⟩ = some (.string s) := ORf.out.cell 0 _ rfl
    have c1 : wf.cell? ⟨w.heap.size, 1, none⟩ = some (.slice (some ⟨g, 0, none⟩) ls.length c) := ORf.out.cell 1 _ rfl
    have c2 : wf.cell? ⟨w.heap.size, 2, none⟩ = some (.slice (some ⟨w4.heap.size, 0, none⟩) 1 1) := ORf.out.cell 2 _ rfl
    have c3 : wf.cell? ⟨w.heap.size, 3, none⟩ = some (.int .i64 z) := ORf.out.cell 3 _ rfl
    have HOf : Hid (Out d (d + 1) w wf) := HO5.out.past hog (Nat.le_refl _)
    exact bodyPost_ret (v := .agg #[.string s, (.slice (some ⟨g, 0, none⟩) ls.length c), (.slice (some ⟨w4.heap.size, 0, none⟩) 1 1), .int .i64 z]) (by simp [results, Try.results106, go_sem, c0, c1, c2, c3]) rfl
      ⟨ls, [S], z, g, c, some ⟨w4.heap.size, 0, none⟩, 1, rfl, ⟨HS.out, ⟨by simp, fun x hx => by rw [List.mem_singleton.1 hx]; exact hSs⟩, hz⟩, owns_mono (uowns_frame HL5.out (fun x hx => hos.block x (ublk_lt HL5.out x hx).2 (by have := (ublk_lt HL5.out x hx).1; simp; omega))) (by omega), owns_mono (uowns_frame HV5.out (fun x hx => hos.block x (ublk_lt HV5.out x hx).2 (by have := (ublk_lt HV5.out x hx).1; simp; omega))) (by omega), HC6.out.frame hof Hd.out Hall.out, HOf⟩
end Go.Proofs.Ytdnodaoeflbfkaa
/- Whether two slices of terms are the same. -/
namespace Go.Proofs.Ytdnodaoeflbfkaa
open Go.RowKit
set_option linter.unusedVariables false

theorem eqTerm_any (t t' : TD) (a a' : Option Addr) (cap cap' : Nat) (w : World) (hl : t.2.2.length ≤ maxLen) (hl' : t'.2.2.length ≤ maxLen) (hrow : strOf w a t.2.2) (hrow' : strOf w a' t'.2.2) :
    Calls Try.prog 149 #[.agg #[.int .i64 t.1, .string t.2.1, .slice a t.2.2.length cap], .agg #[.int .i64 t'.1, .string t'.2.1, .slice a' t'.2.2.length cap']] w fun e w' => e = .returned (.bool (decide (t = t'))) ∧ Below w.heap.size w w' := by
  obtain ⟨kd, key, ss⟩ := t
  obtain ⟨kd', key', ss'⟩ := t'
  simp only at hl hl' hrow hrow' ⊢
  have Hr := hide hrow
  have Hr' := hide hrow'
  clear hrow hrow'
  have hcon : ∀ wx, Below w.heap.size w wx → Calls Try.prog 52 #[.slice a ss.length cap, .slice a' ss'.length cap'] wx fun e w' => e = .returned (.bool (decide (ss = ss'))) ∧ Below w.heap.size w w' :=
      fun wx hx => (eqStringS_any a a' cap cap' ss ss' wx hl hl' (Hr.out.below hx) (Hr'.out.below hx)).mono fun e w' h => ⟨h.1, hx.trans (h.2.mono hx.size)⟩
  have Hcon := hide hcon
  clear hcon
  have he := beq_str key key'
  by_cases c1 : kd = kd'
  · have hb : (kd != kd') = false := by rw [bne_eq_false_iff_eq]; exact c1
    by_cases c2 : key = key'
    · rw [decide_eq_true c2] at he
      have E : Hid (decide ((kd, key, ss) = (kd', key', ss')) = decide (ss = ss')) := by simp [Hid, c1, c2]
      clear c1 c2
      generalize decide (ss = ss') = q at *
      go_enter Try.func149, Try.ntmps149
      go_wp2_with fail
      refine (Hcon.out _ (((Below.refl _ _).alloc (by simp) _).alloc (by simp) _)).mono ?_
      rintro e w1 ⟨rfl, hb1⟩
      cases q
      all_goals
        go_wp2
        go_ret
        exact ⟨ret_bool E.out.symm, hb1⟩
    · rw [decide_eq_false c2] at he
      have E : Hid (decide ((kd, key, ss) = (kd', key', ss')) = false) := by simp [Hid, c2]
      clear c1 c2
      go_enter Try.func149, Try.ntmps149
      go_wp2
      go_ret
      exact ⟨ret_bool E.out.symm, (((Below.refl _ _).alloc (by simp) _).alloc (by simp) _)⟩
  · have hb : (kd != kd') = true := by rw [bne_iff_ne]; exact c1
    have E : Hid (decide ((kd, key, ss) = (kd', key', ss')) = false) := by simp [Hid, c1]
    clear c1 he
    go_enter Try.func149, Try.ntmps149
    go_wp2
    go_ret
    exact ⟨ret_bool E.out.symm, (((Below.refl _ _).alloc (by simp) _).alloc (by simp) _)⟩

theorem eqTermS_any (a a' : Option Addr) (cap cap' : Nat) (ls ls' : List TD) (w : World) (hl : ls.length ≤ maxLen) (hl' : ls'.length ≤ maxLen) (hz : ∀ t ∈ ls, t.2.2.length ≤ maxLen) (hz' : ∀ t ∈ ls', t.2.2.length ≤ maxLen) (hrow : termsOf w a ls) (hrow' : termsOf w a' ls') :
    Calls Try.prog 75 #[.slice a ls.length cap, .slice a' ls'.length cap'] w fun e w' => e = .returned (.bool (decide (ls = ls'))) ∧ Below w.heap.size w w' := by
  unfold maxLen at hl hl'
  have Hr := hide hrow
  have Hr' := hide hrow'
  have Hz := hide hz
  have Hz' := hide hz'
  clear hrow hrow' hz hz'
  by_cases hll : ls.length = ls'.length
  · have hb0 : ((ls.length : Int) != (ls'.length : Int)) = false := by rw [bne_eq_false_iff_eq]; omega
    have Hl := hide hll
    have hle : ls.length ≤ ls'.length := by omega
    have hge : ls'.length ≤ ls.length := by omega
    clear hll
    go_enter Try.func75, Try.ntmps75
    go_wp2
    go_loopw [5] (fun i wr => ∃ (k : Nat), k ≤ ls.length ∧ i = .int .i64 k ∧ Hid (∀ j, j < k → ls[j]? = ls'[j]?) ∧ Below w.heap.size w wr) (fun i _ => ls.length - (intOf i).toNat)
    case atStart => exact ⟨0, Nat.zero_le _, rfl, fun j hj => by omega, Below.refl _ _⟩
    case round =>
      obtain ⟨k, hk, rfl, Hx, hbw⟩ := hrel
      by_cases hlt : k < ls.length
      · have hlt' : k < ls'.length := by omega
        obtain ⟨b, off, rfl, hat⟩ := Hr.out (by omega)
        obtain ⟨b', off', rfl, hat'⟩ := Hr'.out (by omega)
        obtain ⟨h0c, h1c, av, capv, h2c, h3c⟩ := (hat k hlt).below hbw
        obtain ⟨h0c', h1c', av', capv', h2c', h3c'⟩ := (hat' k hlt').below hbw
        have Hg : Hid (ls[k]? = some ls[k] ∧ ls'[k]? = some ls'[k]) := ⟨List.getElem?_eq_getElem _, List.getElem?_eq_getElem _⟩
        have z := Hz.out _ (List.getElem_mem hlt)
        have z' := Hz'.out _ (List.getElem_mem hlt')
        have hcon : ∀ wx, Below wr.heap.size wr wx → Calls Try.prog 149 #[.agg #[.int .i64 (ls[k]'hlt).1, .string (ls[k]'hlt).2.1, .slice av (ls[k]'hlt).2.2.length capv], .agg #[.int .i64 (ls'[k]'hlt').1, .string (ls'[k]'hlt').2.1, .slice av' (ls'[k]'hlt').2.2.length capv']] wx fun e w' => e = .returned (.bool (decide ((ls[k]'hlt) = (ls'[k]'hlt')))) ∧ Hid (Below w.heap.size w w') :=
          fun wx hx => (eqTerm_any (ls[k]'hlt) (ls'[k]'hlt') av av' capv capv' wx z z' (h3c.1.below hx) (h3c'.1.below hx)).mono fun e w' h => ⟨h.1, hbw.trans ((hx.trans (h.2.mono hx.size)).mono hbw.size)⟩
        have Hcon := hide hcon
        generalize ls[k]'hlt = K at *
        generalize ls'[k]'hlt' = K' at *
        clear hat hat' hcon h3c h3c' z z'
        obtain ⟨kd, key, ss⟩ := K
        obtain ⟨kd', key', ss'⟩ := K'
        simp only at h0c h1c h2c h0c' h1c' h2c'
        by_cases hq : (kd, key, ss) = (kd', key', ss')
        · have Hn : Hid (∀ j, j < k + 1 → ls[j]? = ls'[j]?) := by
            intro j hj
            by_cases e : j = k
            · rw [e, Hg.out.1, Hg.out.2, hq]
            · exact Hx.out j (by omega)
          rw [decide_eq_true hq] at Hcon
          clear hq Hg Hx
          go_wp2
          go_region_with (go_at_call 149; refine (Hcon.out _ (by repeat (first | exact Below.refl _ _ | refine Below.drew ?_ | refine below_drewN ?_ _))).mono ?_; rintro e w2 ⟨rfl, hb2⟩)
          all_goals go_wp2
          all_goals (
            go_roundw
            case rel => exact ⟨k + 1, by omega, by go_num, Hn, by repeat (first | exact hb2.out | refine Below.drew ?_ | refine below_drewN ?_ _)⟩
            case measure => simp [intOf]; omega)
        · have Hn : Hid (decide (ls = ls') = false) := by
            show _ = _
            rw [decide_eq_false_iff_not]
            rintro rfl
            exact hq (by rw [Hg.out.1] at Hg; exact Option.some.inj Hg.out.2)
          rw [decide_eq_false hq] at Hcon
          clear hq Hg Hx
          go_wp2
          go_region_with (go_at_call 149; refine (Hcon.out _ (by repeat (first | exact Below.refl _ _ | refine Below.drew ?_ | refine below_drewN ?_ _))).mono ?_; rintro e w2 ⟨rfl, hb2⟩)
          all_goals go_wp2
          all_goals go_ret
          all_goals exact ⟨ret_bool Hn.out.symm, by repeat (first | exact hb2.out | refine Below.drew ?_ | refine below_drewN ?_ _)⟩
      · have Hn : Hid (decide (ls = ls') = true) := by
          show _ = _
          rw [decide_eq_true_eq]
          apply List.ext_getElem?
          intro j
          by_cases hj : j < k
          · exact Hx.out j hj
          · rw [List.getElem?_eq_none (by omega), List.getElem?_eq_none (by omega)]
        have e : k = ls.length := by omega
        subst e
        clear Hx
        go_wp2
        go_ret
        exact ⟨ret_bool Hn.out.symm, hbw⟩
  · have hb0 : ((ls.length : Int) != (ls'.length : Int)) = true := by rw [bne_iff_ne]; omega
    have Hn : Hid (decide (ls = ls') = false) := by
      show _ = _
      rw [decide_eq_false_iff_not]
      rintro rfl
      exact hll rfl
    clear hll
    go_enter Try.func75, Try.ntmps75
    go_wp2
    go_ret
    exact ⟨ret_bool Hn.out.symm, Below.refl _ _⟩
end Go.Proofs.Ytdnodaoeflbfkaa
/- Names in order: what is asked of a term's values and of a value's keys; impl.ascendingNames. -/
namespace Go.Proofs.Ytdnodaoeflbfkaa
open Go.RowKit Go.BigFrame
set_option linter.unusedVariables false

def ssAt (ss : List ByteArray) (i : Nat) : ByteArray := ss[i]?.getD ByteArray.empty
def okV (ss : List ByteArray) (i : Nat) : Prop := nameB (ssAt ss i) = true ∧ (0 < i → ltS (ssAt ss (i - 1)) (ssAt ss i) = true)
def valsB (ss : List ByteArray) : Bool := decide (∀ i, i < ss.length → nameB (ssAt ss i) = true ∧ (0 < i → ltS (ssAt ss (i - 1)) (ssAt ss i) = true))
theorem valsB_bad {ss : List ByteArray} {k : Nat} (hk : k < ss.length) (h : ¬ okV ss k) : valsB ss = false := by
  unfold valsB; rw [decide_eq_false_iff_not]; exact fun g => h (g k hk)
theorem valsB_end {ss : List ByteArray} (h : ∀ i, i < ss.length → okV ss i) : valsB ss = true := by
  unfold valsB; rw [decide_eq_true_eq]; exact h
theorem okV_succ {ss : List ByteArray} {k : Nat} (h : ∀ i, i < k → okV ss i) (hk : okV ss k) : ∀ i, i < k + 1 → okV ss i := by
  intro i hi
  by_cases e : i = k
  · rw [e]; exact hk
  · exact h i (by omega)
theorem ssAt_get {ss : List ByteArray} {k : Nat} (h : k < ss.length) : ssAt ss k = ss[k] := by unfold ssAt; rw [List.getElem?_eq_getElem h]; rfl
theorem strAt_cells {w : World} {b off : Nat} {ss : List ByteArray} (h : strAt w b off ss) : ∀ i, i < ss.length → w.cell? ⟨b, off + i, none⟩ = some (.string (ssAt ss i)) := fun i hi => by rw [ssAt_get hi]; exact h i hi
theorem okV_cases (ss : List ByteArray) (k : Nat) :
    (nameB (ssAt ss k) = false ∧ Hid (¬ okV ss k)) ∨ (nameB (ssAt ss k) = true ∧ Hid (k = 0) ∧ Hid (okV ss k)) ∨
    (nameB (ssAt ss k) = true ∧ 0 < k ∧ Op.bytesLess (ssAt ss (k - 1)).toList (ssAt ss k).toList = true ∧ Hid (okV ss k)) ∨
    (nameB (ssAt ss k) = true ∧ 0 < k ∧ Op.bytesLess (ssAt ss (k - 1)).toList (ssAt ss k).toList = false ∧ Hid (¬ okV ss k)) := by
  have hd : okV ss k ↔ nameB (ssAt ss k) = true ∧ (0 < k → Op.bytesLess (ssAt ss (k - 1)).toList (ssAt ss k).toList = true) := Iff.rfl
  unfold Hid
  rw [hd]
  rcases Bool.eq_false_or_eq_true (nameB (ssAt ss k)) with h1 | h1
  · by_cases h3 : 0 < k
    · rcases Bool.eq_false_or_eq_true (Op.bytesLess (ssAt ss (k - 1)).toList (ssAt ss k).toList) with h4 | h4
      · exact .inr (.inr (.inl ⟨h1, h3, h4, h1, fun _ => h4⟩))
      · refine .inr (.inr (.inr ⟨h1, h3, h4, fun g => ?_⟩))
        have := g.2 h3
        rw [h4] at this; cases this
    · exact .inr (.inl ⟨h1, by omega, h1, fun h => absurd h h3⟩)
  · refine .inl ⟨h1, fun g => ?_⟩
    rw [h1] at g; cases g.1

set_option maxHeartbeats 800000 in
theorem iasc_any (a : Option Addr) (cap : Nat) (ss : List ByteArray) (w : World) (hl : ss.length ≤ maxLen) (hrow : strOf w a ss) :
    Calls Try.prog 74 #[.slice a ss.length cap] w fun e w' => e = .returned (.bool (valsB ss)) ∧ Below w.heap.size w w' := by
  unfold maxLen at hl
  have Hr := hide hrow
  clear hrow
  go_enter Try.func74, Try.ntmps74
  go_wp2
  go_loopw [7] (fun i wr => ∃ (k : Nat), k ≤ ss.length ∧ i = .int .i64 k ∧ Hid (∀ j, j < k → okV ss j) ∧ Below w.heap.size w wr) (fun i _ => ss.length - (intOf i).toNat)
  case atStart => exact ⟨0, Nat.zero_le _, rfl, fun j hj => by omega, Below.refl _ _⟩
  case round =>
    obtain ⟨k, hk, rfl, Hx, hbw⟩ := hrel
    by_cases hlt : k < ss.length
    · obtain ⟨b, off, rfl, hat⟩ := Hr.out (by omega)
      have hc := strAt_cells hat
      have hbb : b < w.heap.size := World.block_lt_of_cell? _ _ (hat k hlt)
      have c0 := (hbw.cell (p := ⟨b, off + k, none⟩) hbb).trans (hc k hlt)
      have Hcp : Hid (0 < k → ∀ wx, Below w.heap.size w wx → wx.cell? ⟨b, off + (k - 1), none⟩ = some (.string (ssAt ss (k - 1)))) := fun h wx hx => (hx.cell (p := ⟨b, off + (k - 1), none⟩) hbb).trans (hc (k - 1) (by omega))
      have Hs : Hid (okV ss k → ∀ j, j < k + 1 → okV ss j) := fun h => okV_succ Hx.out h
      have Hb : Hid (¬ okV ss k → valsB ss = false) := fun h => valsB_bad hlt h
      have hcs := okV_cases ss k
      clear hat hc Hx
      generalize ssAt ss k = K at *
      generalize ssAt ss (k - 1) = P at *
      have hK := (iname_any K wr)
      rcases hcs with ⟨h1, hok⟩ | ⟨h1, h3, hok⟩ | ⟨h1, h3, h4, hok⟩ | ⟨h1, h3, h4, hok⟩
      · rw [h1] at hK
        have HK := hide hK
        have Hn := hide (Hb.out hok.out)
        clear hK h1 Hcp Hs Hb Hr
        go_wp2_with fail
        refine (HK.out).mono ?_
        rintro e w1 ⟨rfl, hb1⟩
        go_wp2
        go_ret
        exact ⟨ret_bool (Hn.out.symm), hbw.trans (hb1.mono hbw.size)⟩
      · rw [h1] at hK
        have HK := hide hK
        have hk0 : k = 0 := h3.out
        have h3' : decide ((0 : Int) < (k : Int)) = false := by rw [decide_eq_false_iff_not]; omega
        have h3'' : decide (0 < k) = false := by rw [decide_eq_false_iff_not]; omega
        have h3a : (k : Int) ≤ 0 := by omega
        have Hn := hide (Hs.out hok.out)
        clear hK h1 Hcp h3 hk0 Hs Hb Hr
        go_wp2_with fail
        refine (HK.out).mono ?_
        rintro e w1 ⟨rfl, hb1⟩
        go_wp2
        go_roundw
        case rel => exact ⟨k + 1, by omega, by go_num, Hn, hbw.trans (hb1.mono hbw.size)⟩
        case measure => simp [intOf]; omega
      · rw [h1] at hK
        have HK := hide hK
        have h3' : (0 : Int) < (k : Int) := by omega
        have Hn := hide (Hs.out hok.out)
        clear hK h1 Hs Hb Hr
        go_wp2_with fail
        refine (HK.out).mono ?_
        rintro e w1 ⟨rfl, hb1⟩
        have cp := Hcp.out h3 w1 (hbw.trans (hb1.mono hbw.size))
        go_wp2
        go_roundw
        case rel => exact ⟨k + 1, by omega, by go_num, Hn, hbw.trans (hb1.mono hbw.size)⟩
        case measure => simp [intOf]; omega
      · rw [h1] at hK
        have HK := hide hK
        have h3' : (0 : Int) < (k : Int) := by omega
        have Hn := hide (Hb.out hok.out)
        clear hK h1 Hs Hb Hr
        go_wp2_with fail
        refine (HK.out).mono ?_
        rintro e w1 ⟨rfl, hb1⟩
        have cp := Hcp.out h3 w1 (hbw.trans (hb1.mono hbw.size))
        go_wp2
        go_ret
        exact ⟨ret_bool (Hn.out.symm), hbw.trans (hb1.mono hbw.size)⟩
    · have e : k = ss.length := by omega
      subst e
      have Hn : Hid (valsB ss = true) := valsB_end Hx.out
      clear Hx Hr
      go_wp2
      go_ret
      exact ⟨ret_bool (Hn.out.symm), hbw⟩

end Go.Proofs.Ytdnodaoeflbfkaa
/- Right terms: what spec and impl ask of a term's values and of a term. -/
namespace Go.Proofs.Ytdnodaoeflbfkaa
open Go.RowKit Go.BigFrame
set_option linter.unusedVariables false

def kindB (kd : Int) (n : Nat) : Bool := decide (((kd = 1 ∨ kd = 2) ∧ n = 1) ∨ (kd = 3 ∧ 1 ≤ n ∧ n ≤ 6) ∨ ((kd = 4 ∨ kd = 5) ∧ n = 0))
def termB (t : TD) : Bool := valsB t.2.2 && nameB t.2.1 && kindB t.1 t.2.2.length
def selB (ts : List TD) : Bool := decide (ts.length ≤ 8 ∧ ∀ t ∈ ts, termB t = true)
theorem kinds (kd : Int) : ((kd == 1) = true ∧ Hid (∀ n : Nat, kindB kd n = ((n : Int) == 1))) ∨ ((kd == 1) = false ∧ (kd == 2) = true ∧ Hid (∀ n : Nat, kindB kd n = ((n : Int) == 1))) ∨
    ((kd == 1) = false ∧ (kd == 2) = false ∧ (kd == 3) = true ∧ Hid (∀ n : Nat, kindB kd n = inB (n : Int) 1 6)) ∨
    ((kd == 1) = false ∧ (kd == 2) = false ∧ (kd == 3) = false ∧ (kd == 4) = true ∧ Hid (∀ n : Nat, kindB kd n = ((n : Int) == 0))) ∨
    ((kd == 1) = false ∧ (kd == 2) = false ∧ (kd == 3) = false ∧ (kd == 4) = false ∧ (kd == 5) = true ∧ Hid (∀ n : Nat, kindB kd n = ((n : Int) == 0))) ∨
    ((kd == 1) = false ∧ (kd == 2) = false ∧ (kd == 3) = false ∧ (kd == 4) = false ∧ (kd == 5) = false ∧ Hid (∀ n : Nat, kindB kd n = false)) := by
  have e : ∀ n : Nat, ∀ b : Bool, kindB kd n = b ↔ (b = true ↔ (((kd = 1 ∨ kd = 2) ∧ n = 1) ∨ (kd = 3 ∧ 1 ≤ n ∧ n ≤ 6) ∨ ((kd = 4 ∨ kd = 5) ∧ n = 0))) := fun n b => by
    unfold kindB; rw [Bool.eq_iff_iff, decide_eq_true_eq]; exact ⟨fun h => h.symm, fun h => h.symm⟩
  simp only [Hid, e, inB, beq_iff_eq, beq_eq_false_iff_ne, decide_eq_true_eq]
  by_cases h1 : kd = 1
  · left; exact ⟨h1, fun n => by omega⟩
  by_cases h2 : kd = 2
  · right; left; exact ⟨h1, h2, fun n => by omega⟩
  by_cases h3 : kd = 3
  · right; right; left; exact ⟨h1, h2, h3, fun n => by omega⟩
  by_cases h4 : kd = 4
  · right; right; right; left; exact ⟨h1, h2, h3, h4, fun n => by omega⟩
  by_cases h5 : kd = 5
  · right; right; right; right; left; exact ⟨h1, h2, h3, h4, h5, fun n => by omega⟩
  · right; right; right; right; right; exact ⟨h1, h2, h3, h4, h5, fun n => by simp; omega⟩

set_option maxHeartbeats 800000 in
theorem sterm_any (t : TD) (a : Option Addr) (cap : Nat) (w : World) (hl : t.2.2.length ≤ maxLen) (hk : t.2.1.size ≤ maxLen) (hz : okStrs t.2.2) (hrow : strOf w a t.2.2) :
    Calls Try.prog 142 #[.agg #[.int .i64 t.1, .string t.2.1, .slice a t.2.2.length cap]] w fun e w' => e = .returned (.bool (termB t)) ∧ Below w.heap.size w w' := by
  obtain ⟨kd, key, ss⟩ := t
  simp only at hl hk hz hrow ⊢
  unfold maxLen at hl
  have Hr := hide hrow
  have Hk := hide hk
  have Hz : Hid (∀ i, (ssAt ss i).size ≤ maxLen) := fun i => by
    unfold ssAt
    by_cases hi : i < ss.length
    · rw [List.getElem?_eq_getElem hi]; exact hz _ (List.getElem_mem hi)
    · rw [List.getElem?_eq_none (by omega)]; exact Nat.zero_le _
  clear hrow hz hk
  go_enter Try.func142, Try.ntmps142
  go_wp2
  go_loopw [4] (fun i wr => ∃ (k : Nat), k ≤ ss.length ∧ i = .int .i64 k ∧ Hid (∀ j, j < k → okV ss j) ∧ wr.cell? ⟨w.heap.size, 0, none⟩ = some (.int .i64 kd) ∧ wr.cell? ⟨w.heap.size, 1, none⟩ = some (.string key) ∧ wr.cell? ⟨w.heap.size, 2, none⟩ = some (.slice a ss.length cap) ∧ Below w.heap.size w wr) (fun i _ => ss.length - (intOf i).toNat)
  case atStart => exact ⟨0, Nat.zero_le _, rfl, fun j hj => by omega, by simp, by simp, by simp, (Below.refl _ _).alloc (by simp) _⟩
  case round =>
    obtain ⟨k, hk, rfl, Hx, b0, b1, b2, hbw⟩ := hrel
    by_cases hlt : k < ss.length
    · obtain ⟨b, off, rfl, hat⟩ := Hr.out (by omega)
      have hc := strAt_cells hat
      have hbb : b < w.heap.size := World.block_lt_of_cell? _ _ (hat k hlt)
      have c0 := (hbw.cell (p := ⟨b, off + k, none⟩) hbb).trans (hc k hlt)
      have cp : 0 < k → wr.cell? ⟨b, off + (k - 1), none⟩ = some (.string (ssAt ss (k - 1))) := fun h => (hbw.cell (p := ⟨b, off + (k - 1), none⟩) hbb).trans (hc (k - 1) (by omega))
      have hzK := Hz.out k
      have Hs : Hid (okV ss k → ∀ j, j < k + 1 → okV ss j) := fun h => okV_succ Hx.out h
      have Hb : Hid (¬ okV ss k → termB (kd, key, ss) = false) := fun h => by show (valsB ss && _ && _) = false; rw [valsB_bad hlt h]; rfl
      have hcs := okV_cases ss k
      clear hat hc Hx
      generalize ssAt ss k = K at *
      generalize ssAt ss (k - 1) = P at *
      have hK := fun wx => (sname_any K wx hzK)
      clear hzK
      rcases hcs with ⟨h1, hok⟩ | ⟨h1, h3, hok⟩ | ⟨h1, h3, h4, hok⟩ | ⟨h1, h3, h4, hok⟩
      · rw [h1] at hK
        have HK := hide hK
        have Hn := hide (Hb.out hok.out)
        clear hK h1 cp Hs Hb Hz Hr
        go_wp2
        go_quiet ((go_at_call 64; exact Calls.quiet_of_same (HK.out _)))
        go_wp2
        go_ret
        exact ⟨ret_bool Hn.out.symm, below_drewN hbw _⟩
      · rw [h1] at hK
        have HK := hide hK
        have hk0 : k = 0 := h3.out
        have h3' : decide ((0 : Int) < (k : Int)) = false := by rw [decide_eq_false_iff_not]; omega
        have h3'' : decide (0 < k) = false := by rw [decide_eq_false_iff_not]; omega
        have h3a : (k : Int) ≤ 0 := by omega
        have Hn := hide (Hs.out hok.out)
        clear hK h1 cp h3 hk0 Hs Hb Hz Hr
        go_wp2
        go_quiet ((go_at_call 64; exact Calls.quiet_of_same (HK.out _)))
        go_wp2
        go_roundw
        case rel => exact ⟨k + 1, by omega, by go_num, Hn, b0, b1, b2, below_drewN hbw _⟩
        case measure => simp [intOf]; omega
      · rw [h1] at hK
        have HK := hide hK
        have cp := cp h3
        have h3' : (0 : Int) < (k : Int) := by omega
        have Hn := hide (Hs.out hok.out)
        clear hK h1 Hs Hb Hz Hr
        go_wp2
        go_quiet ((go_at_call 64; exact Calls.quiet_of_same (HK.out _)))
        go_wp2
        go_roundw
        case rel => exact ⟨k + 1, by omega, by go_num, Hn, b0, b1, b2, below_drewN hbw _⟩
        case measure => simp [intOf]; omega
      · rw [h1] at hK
        have HK := hide hK
        have cp := cp h3
        have h3' : (0 : Int) < (k : Int) := by omega
        have Hn := hide (Hb.out hok.out)
        clear hK h1 Hs Hb Hz Hr
        go_wp2
        go_quiet ((go_at_call 64; exact Calls.quiet_of_same (HK.out _)))
        go_wp2
        go_ret
        exact ⟨ret_bool Hn.out.symm, below_drewN hbw _⟩
    · have e : k = ss.length := by omega
      subst e
      have Hv : Hid (termB (kd, key, ss) = (nameB key && kindB kd ss.length)) := by show (valsB ss && _ && _) = _; rw [valsB_end Hx.out]; rfl
      have hK := fun wx => (sname_any key wx Hk.out)
      clear Hx Hr Hz
      generalize hn : ss.length = n at *
      have Hn := hide hn
      clear hn
      cases hb : nameB key
      · rw [hb] at hK Hv
        have HK := hide hK
        clear hK hb
        go_wp2_with fail
        refine (HK.out _).mono ?_
        rintro e w1 ⟨rfl, rfl⟩
        go_wp2
        go_ret
        exact ⟨ret_bool Hv.out.symm, hbw⟩
      · rw [hb] at hK Hv
        have HK := hide hK
        clear hK hb
        go_wp2_with fail
        refine (HK.out _).mono ?_
        rintro e w1 ⟨rfl, rfl⟩
        rcases kinds kd with ⟨q1, hq⟩ | ⟨q1, q2, hq⟩ | ⟨q1, q2, q3, hq⟩ | ⟨q1, q2, q3, q4, hq⟩ | ⟨q1, q2, q3, q4, q5, hq⟩ | ⟨q1, q2, q3, q4, q5, hq⟩
        · go_wp2
          go_ret
          exact ⟨ret_bool (by rw [Hv.out, hq.out]; rfl), hbw⟩
        · go_wp2
          go_ret
          exact ⟨ret_bool (by rw [Hv.out, hq.out]; rfl), hbw⟩
        · go_wp2_with (go_at_call 65; refine (l1In_any _ _ _ _).mono ?_; rintro e w' ⟨rfl, rfl⟩)
          go_ret
          exact ⟨ret_bool (by rw [Hv.out, hq.out]; rfl), hbw⟩
        · go_wp2
          go_ret
          exact ⟨ret_bool (by rw [Hv.out, hq.out]; rfl), hbw⟩
        · go_wp2
          go_ret
          exact ⟨ret_bool (by rw [Hv.out, hq.out]; rfl), hbw⟩
        · go_wp2
          go_ret
          exact ⟨ret_bool (by rw [Hv.out, hq.out]; rfl), hbw⟩
end Go.Proofs.Ytdnodaoeflbfkaa
/- Right selectors: spec.SelectorOk; impl's values of a term. -/
namespace Go.Proofs.Ytdnodaoeflbfkaa
open Go.RowKit Go.BigFrame
set_option linter.unusedVariables false

theorem selB_bad {ts : List TD} {k : Nat} (hk : k < ts.length) (h : termB (ts[k]'hk) = false) : selB ts = false := by
  unfold selB; rw [decide_eq_false_iff_not]; intro g
  have := g.2 _ (List.getElem_mem hk)
  rw [h] at this; cases this
theorem selB_end {ts : List TD} (h : ∀ i (hi : i < ts.length), termB (ts[i]'hi) = true) : selB ts = decide (ts.length ≤ 8) := by
  unfold selB; rw [decide_eq_decide]
  refine ⟨fun g => g.1, fun g => ⟨g, fun t ht => ?_⟩⟩
  obtain ⟨i, hi, rfl⟩ := List.getElem_of_mem ht
  exact h i hi
theorem selB_long {ts : List TD} (h : 8 < ts.length) : selB ts = false := by unfold selB; rw [decide_eq_false_iff_not]; omega

theorem sselOk_any (a : Option Addr) (cap : Nat) (ts : List TD) (w : World) (hl : ts.length ≤ maxLen) (hz : okTerms ts) (hrow : termsOf w a ts) :
    Calls Try.prog 66 #[.slice a ts.length cap] w fun e w' => e = .returned (.bool (selB ts)) ∧ Below w.heap.size w w' := by
  unfold maxLen at hl
  have Hr := hide hrow
  have Hz := hide hz
  clear hrow hz
  go_enter Try.func66, Try.ntmps66
  go_wp2
  go_loopw [3] (fun i wr => ∃ (k : Nat), k ≤ ts.length ∧ i = .int .i64 k ∧ Hid (∀ j (hj : j < ts.length), j < k → termB (ts[j]'hj) = true) ∧ Below w.heap.size w wr) (fun i _ => ts.length - (intOf i).toNat)
  case atStart => exact ⟨0, Nat.zero_le _, rfl, fun j hj h => by omega, Below.refl _ _⟩
  case round =>
    obtain ⟨k, hk, rfl, Hx, hbw⟩ := hrel
    by_cases hlt : k < ts.length
    · obtain ⟨b, off, rfl, hat⟩ := Hr.out (by omega)
      obtain ⟨h0c, h1c, av, capv, h2c, h3c⟩ := (hat k hlt).below hbw
      have hz := (Hz.out _ (List.getElem_mem hlt))
      have Hb : Hid (termB (ts[k]'hlt) = false → selB ts = false) := fun h => selB_bad hlt h
      have Hs : Hid (termB (ts[k]'hlt) = true → ∀ j (hj : j < ts.length), j < k + 1 → termB (ts[j]'hj) = true) := fun h j hj hjk => by
        by_cases e : j = k
        · subst e; exact h
        · exact Hx.out j hj (by omega)
      have hcon := sterm_any (ts[k]'hlt) av capv wr hz.2.1 hz.1 hz.2.2 h3c.1
      clear hat Hx hz h3c
      generalize ts[k]'hlt = t at *
      obtain ⟨kd, key, ss⟩ := t
      simp only at h0c h1c h2c hcon
      cases hb : termB (kd, key, ss)
      · rw [hb] at hcon
        have Hcon := hide hcon
        have Hn := hide (Hb.out hb)
        clear Hb Hs hb hcon
        go_wp2_with fail
        refine (Hcon.out).mono ?_
        rintro e w1 ⟨rfl, hb1⟩
        go_wp2
        go_ret
        exact ⟨ret_bool Hn.out.symm, hbw.trans (hb1.mono hbw.size)⟩
      · rw [hb] at hcon
        have Hcon := hide hcon
        have Hn := hide (Hs.out hb)
        clear Hb Hs hb hcon
        go_wp2_with fail
        refine (Hcon.out).mono ?_
        rintro e w1 ⟨rfl, hb1⟩
        go_wp2
        go_roundw
        case rel => exact ⟨k + 1, by omega, by go_num, Hn, hbw.trans (hb1.mono hbw.size)⟩
        case measure => simp [intOf]; omega
    · have e : k = ts.length := by omega
      subst e
      have Hn : Hid (selB ts = decide (ts.length ≤ 8)) := selB_end fun i hi => Hx.out i hi hi
      clear Hx Hr Hz
      go_wp2
      go_ret
      exact ⟨ret_bool (by rw [Hn.out, Bool.eq_iff_iff]; simp; omega), hbw⟩

theorem ivals_any (a : Option Addr) (cap : Nat) (ss : List ByteArray) (w : World) (hl : ss.length ≤ maxLen) (hrow : strOf w a ss) :
    Calls Try.prog 224 #[.slice a ss.length cap] w fun e w' => e = .returned (.bool (decide (ss.length ≤ 6) && valsB ss)) ∧ Below w.heap.size w w' := by
  have Hcon := hide (fun (wx : World) (hx : Below w.heap.size w wx) => iasc_any a cap ss wx hl (hrow.below hx))
  unfold maxLen at hl
  clear hrow
  by_cases hbig : 6 < ss.length
  · have Hn : Hid ((decide (ss.length ≤ 6) && valsB ss) = false) := by show _ = _; rw [decide_eq_false (by omega)]; rfl
    have hbig' : (6 : Int) < (ss.length : Int) := by omega
    clear hbig Hcon
    go_enter Try.func224, Try.ntmps224
    go_wp2
    go_ret
    exact ⟨ret_bool Hn.out.symm, Below.refl _ _⟩
  have hbig' : (ss.length : Int) ≤ 6 := by omega
  have Hd : Hid ((decide (ss.length ≤ 6) && valsB ss) = valsB ss) := by show _ = _; rw [decide_eq_true (by omega)]; rfl
  generalize (decide (ss.length ≤ 6) && valsB ss) = R at *
  generalize valsB ss = V at *
  obtain rfl := Hd.out
  go_enter Try.func224, Try.ntmps224
  go_wp2_with fail
  refine (Hcon.out _ (Below.refl _ _)).mono ?_
  rintro e w1 ⟨rfl, hb1⟩
  go_wp2
  go_ret
  exact ⟨rfl, hb1⟩
end Go.Proofs.Ytdnodaoeflbfkaa
