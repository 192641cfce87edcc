import Derived.Test.YtdcknajakmjniaaLabs7
import Derived.Laws.BytesString
namespace Go.Proofs.Ytdcknajakmjniaa
open Go.RowKit Go.BigFrame
set_option linter.unusedVariables false

def mtStep (k : Nat) : ByteArray := ([48 + (k : Int) % 10]).foldl (fun r n => r.push (UInt8.ofNat n.toNat)) ByteArray.empty
def mtTo : Nat → Nat → ByteArray → ByteArray
  | 0, _, s => s
  | f + 1, k, s => if k = 0 then s else mtTo f (k / 10) (mtStep k ++ s)
def mtx (n : Nat) : ByteArray := ⟨#[109]⟩ ++ mtTo n n ⟨#[]⟩
theorem mtTo_zero (f : Nat) (s : ByteArray) : mtTo f 0 s = s := by cases f <;> simp [mtTo]
theorem mtStep_size (k : Nat) : (mtStep k).size = 1 := by simp [mtStep, List.foldl]
theorem conv_one (w : World) (x : Int) : (convert 56 9 (.slice (some ⟨w.heap.size, 0, none⟩) 1 1)).run Try.prog (w.alloc (.cells #[.int .u8 x] 5)) =
    .ok (.string ([x].foldl (fun r n => r.push (UInt8.ofNat n.toNat)) ByteArray.empty)) (w.alloc (.cells #[.int .u8 x] 5)) := by
  rw [run_convert_bytes_string _ _ _ _ _ _ _ Try.underlying56 Try.underlying5 Try.underlying9, run_bytesToString _ _ 1 1 [x]]
  simp [loadCells, go_sem]

set_option maxHeartbeats 400000 in
theorem markText_any (n : Nat) (w : World) (hn : n ≤ 1000000000) (h1 : 1 ≤ n) :
    Calls Try.prog 33 #[.int .i64 n] w fun e w' => e = .returned (.string (mtx n)) ∧ Below w.heap.size w w' := by
  have hpos : ¬ (n : Int) ≤ 0 := by omega
  have HT : Hid (mtx n = ⟨#[109]⟩ ++ mtTo n n ⟨#[]⟩) := rfl
  go_enter Try.func33, Try.ntmps33
  go_wp2
  go_loopw [0, 3] (fun i v wr => ∃ (k : Nat) (s : ByteArray), k ≤ n ∧ i = .int .i64 k ∧ v = .string s ∧ s.size ≤ n - k ∧ Hid (∃ f, k ≤ f ∧ mtTo f k s = mtTo n n ⟨#[]⟩) ∧ Below w.heap.size w wr) (fun i _ _ => (intOf i).toNat)
  case atStart => exact ⟨n, _, by omega, rfl, rfl, Nat.zero_le _, ⟨n, Nat.le_refl _, rfl⟩, Below.refl _ _⟩
  case round =>
    obtain ⟨k, s, hk, rfl, rfl, hs, Hx, hbw⟩ := hrel
    by_cases hlt : 0 < k
    · have hlt' : (0 : Int) < (k : Int) := by omega
      have hcv := conv_one wr (48 + (k : Int) % 10)
      have hd : ([48 + (k : Int) % 10]).foldl (fun r n => r.push (UInt8.ofNat n.toNat)) ByteArray.empty = mtStep k := rfl
      rw [hd] at hcv
      have hds := mtStep_size k
      have Hn : Hid (∃ f, k / 10 ≤ f ∧ mtTo f (k / 10) (mtStep k ++ s) = mtTo n n ⟨#[]⟩) := by
        obtain ⟨f, hf, he⟩ := Hx.out
        cases f with
        | zero => omega
        | succ f => exact ⟨f, by omega, by rw [← he, mtTo, if_neg (by omega)]⟩
      clear hd Hx
      generalize mtStep k = D at *
      have hsz : (D ++ s).size ≤ n - k / 10 := by rw [ByteArray.size_append, hds]; omega
      have hds' : D.size ≤ 1 := by omega
      clear hds
      go_wp2
      go_roundw
      case rel => exact ⟨k / 10, _, by omega, by go_num, rfl, hsz, Hn, hbw.alloc hbw.size _⟩
      case measure => simp [intOf]; omega
    · have e : k = 0 := by omega
      subst e
      have Hs : Hid (mtTo n n ⟨#[]⟩ = s) := by obtain ⟨f, _, he⟩ := Hx.out; show _ = _; rw [← he, mtTo_zero]
      clear Hx
      go_wp2
      go_ret
      exact ⟨by rw [HT.out, Hs.out]; rfl, hbw⟩

/-- all but one block is as it was, below a mark -/
structure ExB (B g : Nat) (w w' : World) : Prop where
  os : w'.os = w.os
  tape : w'.tape = w.tape
  output : w'.output = w.output
  size : w.heap.size ≤ w'.heap.size
  block : ∀ k, k < B → k ≠ g → w'.heap[k]? = w.heap[k]?
theorem ExB.refl (B g : Nat) (w : World) : ExB B g w w := ⟨rfl, rfl, rfl, Nat.le_refl _, fun _ _ _ => rfl⟩
theorem ExB.of_below {B g : Nat} {w w' : World} (h : Below B w w') : ExB B g w w' := ⟨h.os, h.tape, h.output, h.size, fun k hk _ => h.block k hk⟩
theorem ExB.trans {B g : Nat} {a b c : World} (h : ExB B g a b) (k : ExB B g b c) : ExB B g a c :=
  ⟨k.os.trans h.os, k.tape.trans h.tape, k.output.trans h.output, Nat.le_trans h.size k.size, fun i hi hg => (k.block i hi hg).trans (h.block i hi hg)⟩
theorem ExB.mono {B B' g : Nat} {w w' : World} (h : ExB B g w w') (hB : B' ≤ B) : ExB B' g w w' := ⟨h.os, h.tape, h.output, h.size, fun k hk => h.block k (Nat.lt_of_lt_of_le hk hB)⟩
theorem ExB.setCell {B g : Nat} {a w : World} (h : ExB B g a w) (o : Nat) (u : Value) : ExB B g a (w.setCell ⟨g, o, none⟩ u) :=
  h.trans (by
    have hb := (Below.refl (w.heap.size) w)
    refine ⟨?_, ?_, ?_, ?_, fun k hk hg => Below.heap_setCell _ _ _ _ hg⟩
    all_goals first | rfl | skip
    simp)
/-- what a block below the mark, another one, says is as it was -/
theorem ExB.below {B g : Nat} {w w' : World} (h : ExB B g w w') (hg : B ≤ g) : Below B w w' := ⟨h.os, h.tape, h.output, h.size, fun k hk => h.block k hk (by omega)⟩
theorem labsAt.ex {B g : Nat} {w w' : World} {b off : Nat} {ls : List (ByteArray × ByteArray)} (h : labsAt w b off ls) (hb : ExB B g w w') (h1 : b < B) (h2 : b ≠ g) : labsAt w' b off ls := by
  intro i hi
  have e := hb.block b h1 h2
  exact ⟨(World.cell?_of_block (w := w) (a := ⟨b, off + i * 2, none⟩) e).trans (h i hi).1, (World.cell?_of_block (w := w) (a := ⟨b, off + i * 2 + 1, none⟩) e).trans (h i hi).2⟩
def marks (n k : Nat) : List (ByteArray × ByteArray) := (List.range n).map fun i => (mtx (k + i * 2), mtx (k + i * 2 + 1))
theorem marks_length (n k : Nat) : (marks n k).length = n := by simp [marks]
theorem marks_get (n k i : Nat) (h : i < (marks n k).length) : (marks n k)[i] = (mtx (k + i * 2), mtx (k + i * 2 + 1)) := by simp [marks]

theorem markLabelS_any (B g cap n k0 : Nat) (xs : List Value) (w : World) (hn : n ≤ 1048576) (hk0 : 1 ≤ k0) (hk1 : k0 ≤ 1048576)
    (hown : w.ownsRow B 44 2 (.slice (some ⟨g, 0, none⟩) n cap) n xs) :
    Calls Try.prog 20 #[.slice (some ⟨g, 0, none⟩) n cap, .int .i64 k0] w fun e w' => e = .returned (.int .i64 (k0 + n * 2 : Nat)) ∧
      w'.ownsRow B 44 2 (.slice (some ⟨g, 0, none⟩) n cap) n (flat (marks n k0)) ∧ ExB w.heap.size g w w' := by
  have hgw : g < w.heap.size := by
    rcases hown.2 with ⟨h, _⟩ | ⟨g', cap', cur, h, _, hh, _⟩
    · cases h
    · cases h; exact (Array.getElem?_eq_some_iff.1 hh).1
  go_enter Try.func20, Try.ntmps20
  go_wp2
  go_loopw [1, 5] (fun q i wr => ∃ (k : Nat) (xs : List Value), k ≤ n ∧ i = .int .i64 k ∧ q = .int .i64 (k0 + k * 2 : Nat) ∧ wr.ownsRow B 44 2 (.slice (some ⟨g, 0, none⟩) n cap) n xs ∧
      Hid (∀ j, j < k * 2 → xs[j]? = (flat (marks n k0))[j]?) ∧ ExB w.heap.size g w wr) (fun _ i _ => n - (intOf i).toNat)
  case atStart => exact ⟨0, _, Nat.zero_le _, rfl, rfl, hown, fun j hj => by omega, ExB.refl _ _ _⟩
  case round =>
    obtain ⟨k, xs, hk, rfl, rfl, how, Hx, hbw⟩ := hrel
    clear hown
    by_cases hlt : k < n
    · have hf := flat_get (marks n k0) k (by rw [marks_length]; exact hlt)
      rw [marks_get] at hf
      have Hf : Hid ((flat (marks n k0))[k * 2]? = some (.string (mtx (k0 + k * 2))) ∧ (flat (marks n k0))[k * 2 + 1]? = some (.string (mtx (k0 + k * 2 + 1)))) := hf
      have hxl : xs.length = n * 2 := how.1
      have g0 : xs[k * 2]? = some (xs[k * 2]'(by omega)) := List.getElem?_eq_getElem _
      have g1 : xs[k * 2 + 1]? = some (xs[k * 2 + 1]'(by omega)) := List.getElem?_eq_getElem _
      obtain ⟨o0, ho0⟩ : ∃ o, o = (xs[k * 2]'(by omega)) := ⟨_, rfl⟩
      obtain ⟨o1, ho1⟩ : ∃ o, o = (xs[k * 2 + 1]'(by omega)) := ⟨_, rfl⟩
      rw [← ho0] at g0
      rw [← ho1] at g1
      have G0 : Hid (xs[k * 2]? = some o0) := g0
      have G1 : Hid (xs[k * 2 + 1]? = some o1) := g1
      have Hxl : Hid (xs.length = n * 2) := hxl
      have hgr : g < wr.heap.size := Nat.lt_of_lt_of_le hgw hbw.size
      have How := hide how
      have hm0 : ∀ (wx : World) (x : Int), x = ((k0 + k * 2 : Nat) : Int) → Calls Try.prog 33 #[.int .i64 x] wx fun e w' => e = .returned (.string (mtx (k0 + k * 2))) ∧ Below wx.heap.size wx w' := fun wx x hx => by rw [hx]; exact markText_any (k0 + k * 2) wx (by omega) (by omega)
      have hm1 : ∀ (wx : World) (x : Int), x = ((k0 + k * 2 + 1 : Nat) : Int) → Calls Try.prog 33 #[.int .i64 x] wx fun e w' => e = .returned (.string (mtx (k0 + k * 2 + 1))) ∧ Below wx.heap.size wx w' := fun wx x hx => by rw [hx]; exact markText_any (k0 + k * 2 + 1) wx (by omega) (by omega)
      have Hm0 := hide hm0
      have Hm1 := hide hm1
      clear hf how g0 g1 ho0 ho1 hxl hm0 hm1
      generalize mtx (k0 + k * 2) = M0 at *
      generalize mtx (k0 + k * 2 + 1) = M1 at *
      go_wp2_with fail
      refine (Hm0.out _ _ (by omega)).mono ?_
      rintro e w2 ⟨rfl, hb2⟩
      have how2 := owns_below How.out hb2
      have q0 : w2.cell? ⟨g, k * 2, none⟩ = some o0 := (how2.cellAt _ (by omega)).trans G0.out
      have f0 := how2.frozenAt (k * 2)
      have S1 := hide (how2.stored (k * 2) (.string M0)).1
      have Hb2 := hide hb2
      clear how2 hb2
      go_wp2_with fail
      refine (Hm1.out _ _ (by omega)).mono ?_
      rintro e w3 ⟨rfl, hb3⟩
      have how3 := owns_below S1.out hb3
      have q1 : w3.cell? ⟨g, k * 2 + 1, none⟩ = some o1 := (how3.cellAt _ (by omega)).trans (by rw [List.getElem?_set_ne (by omega)]; exact G1.out)
      have f1 := how3.frozenAt (k * 2 + 1)
      have S2 := hide (how3.stored (k * 2 + 1) (.string M1)).1
      have Hb3 := hide hb3
      clear how3 hb3
      go_wp2
      go_roundw
      case rel => exact ⟨k + 1, _, by omega, by go_num, by go_num, S2.out, (by
          intro j hj
          have hl := Hxl.out
          by_cases e1 : j = k * 2 + 1
          · subst e1; rw [List.getElem?_set_self (by simp; omega)]; exact Hf.out.2.symm
          by_cases e0 : j = k * 2
          · subst e0; rw [List.getElem?_set_ne (by omega), List.getElem?_set_self (by omega)]; exact Hf.out.1.symm
          · rw [List.getElem?_set_ne (by omega), List.getElem?_set_ne (by omega)]; exact Hx.out j (by omega)),
        (((hbw.trans (ExB.of_below (Hb2.out.mono hbw.size))).setCell _ _).trans (ExB.of_below (Hb3.out.mono (by have := Hb2.out.size; have := hbw.size; simp; omega)))).setCell _ _⟩
      case measure => simp [intOf]; omega
    · have e : k = n := by omega
      subst e
      have hx : xs = flat (marks k k0) := by
        apply List.ext_getElem?
        intro j
        by_cases hj : j < k * 2
        · exact Hx.out j hj
        · rw [List.getElem?_eq_none (by have := how.1; omega), List.getElem?_eq_none (by rw [flat_length, marks_length]; omega)]
      subst hx
      go_wp2
      go_ret
      exact ⟨ret_int (by omega), how, hbw⟩
end Go.Proofs.Ytdcknajakmjniaa
