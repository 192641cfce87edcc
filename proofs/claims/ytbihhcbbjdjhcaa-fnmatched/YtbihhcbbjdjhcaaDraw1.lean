import Derived.Test.YtbihhcbbjdjhcaaOwnB
import Derived.Laws.BitsLemmas
import Derived.Laws.Pointers
namespace Go.Proofs.Ytbihhcbbjdjhcaa
open Go.RowKit Go.BigFrame
set_option linter.unusedVariables false
/-! the draws: a cursor -/
theorem i64_and255 (n : Int) : bits .and .i64 n 255 = n % 256 := by
  have h255 : (BitVec.ofInt 64 255).toNat = 2 ^ 8 - 1 := by decide
  have key : (BitVec.ofInt 64 n &&& BitVec.ofInt 64 255).toNat = (n % ((2 ^ 64 : Nat) : Int)).toNat % 2 ^ 8 := by
    rw [BitVec.toNat_and, BitVec.toNat_ofInt, h255, Nat.and_two_pow_sub_one_eq_mod]
  show IntKind.i64.wrap ((BitVec.ofInt 64 n &&& BitVec.ofInt 64 255).toNat : Nat) = n % 256
  rw [key, IntKind.wrap_i64]
  omega
/-- the bytes of a code -/
def codeAt (w : World) (a : Option Addr) (n d : Nat) : Prop := ∀ j, j < n → ∃ b off x, a = some ⟨b, off, none⟩ ∧ b ≠ d ∧ w.cell? ⟨b, off + j, none⟩ = some (.int .u8 x) ∧ 0 ≤ x ∧ x < 256
/-- a cursor in the block d -/
structure CurAt (w : World) (d : Nat) (a : Option Addr) (n cap : Nat) (i : Nat) (h : Int) : Prop where
  le : i ≤ n
  c0 : w.cell? ⟨d, 0, none⟩ = some (.slice a n cap)
  c1 : w.cell? ⟨d, 1, none⟩ = some (.int .i64 i)
  c2 : w.cell? ⟨d, 2, none⟩ = some (.int .i64 h)
  f1 : w.frozen? ⟨d, 1, none⟩ = false
  f2 : w.frozen? ⟨d, 2, none⟩ = false
  code : codeAt w a n d
theorem CurAt.put2 {w : World} {d : Nat} {a : Option Addr} {n cap i : Nat} {h : Int} (c : CurAt w d a n cap i h) (H : Int) : CurAt (w.setCell ⟨d, 2, none⟩ (.int .i64 H)) d a n cap i H := by
  refine ⟨c.le, ?_, ?_, World.cell?_setCell_same _ _ _ c.c2, ?_, ?_, ?_⟩
  · rw [World.cell?_setCell_other _ _ _ _ (by simp)]; exact c.c0
  · rw [World.cell?_setCell_other _ _ _ _ (by simp)]; exact c.c1
  · rw [World.frozen?_setCell _ _ _ _]; exact c.f1
  · rw [World.frozen?_setCell _ _ _ _]; exact c.f2
  · intro j hj
    obtain ⟨b, off, x, h1, h2, h3, h4⟩ := c.code j hj
    exact ⟨b, off, x, h1, h2, by rw [World.cell?_setCell_other _ _ _ _ (by intro e; injection e with e1; exact h2 e1.symm)]; exact h3, h4⟩
theorem CurAt.put1 {w : World} {d : Nat} {a : Option Addr} {n cap i : Nat} {h : Int} (c : CurAt w d a n cap i h) (k : Nat) (hk : k ≤ n) : CurAt (w.setCell ⟨d, 1, none⟩ (.int .i64 k)) d a n cap k h := by
  refine ⟨hk, ?_, World.cell?_setCell_same _ _ _ c.c1, ?_, ?_, ?_, ?_⟩
  · rw [World.cell?_setCell_other _ _ _ _ (by simp)]; exact c.c0
  · rw [World.cell?_setCell_other _ _ _ _ (by simp)]; exact c.c2
  · rw [World.frozen?_setCell _ _ _ _]; exact c.f1
  · rw [World.frozen?_setCell _ _ _ _]; exact c.f2
  · intro j hj
    obtain ⟨b, off, x, h1, h2, h3, h4⟩ := c.code j hj
    exact ⟨b, off, x, h1, h2, by rw [World.cell?_setCell_other _ _ _ _ (by intro e; injection e with e1; exact h2 e1.symm)]; exact h3, h4⟩
theorem CurAt.drew {w : World} {d : Nat} {a : Option Addr} {n cap i : Nat} {h : Int} (c : CurAt w d a n cap i h) : CurAt w.drew d a n cap i h := ⟨c.le, c.c0, c.c1, c.c2, c.f1, c.f2, c.code⟩
theorem CurAt.lt {w : World} {d : Nat} {a : Option Addr} {n cap i : Nat} {h : Int} (c : CurAt w d a n cap i h) : d < w.heap.size := World.block_lt_of_cell? _ _ c.c0
/-- in a later world whose block d is as it was -/
theorem CurAt.later {w w' : World} {d : Nat} {a : Option Addr} {n cap i : Nat} {h : Int} (c : CurAt w d a n cap i h) (hb : Below w.heap.size w w') : CurAt w' d a n cap i h :=
  ⟨c.le, (hb.cell (p := ⟨d, 0, none⟩) c.lt).trans c.c0, (hb.cell (p := ⟨d, 1, none⟩) c.lt).trans c.c1, (hb.cell (p := ⟨d, 2, none⟩) c.lt).trans c.c2,
    (World.frozen?_of_block (w := w) (a := ⟨d, 1, none⟩) (hb.block d c.lt)).trans c.f1, (World.frozen?_of_block (w := w) (a := ⟨d, 2, none⟩) (hb.block d c.lt)).trans c.f2,
    fun j hj => by
      obtain ⟨b, off, x, h1, h2, h3, h4⟩ := c.code j hj
      exact ⟨b, off, x, h1, h2, (hb.cell (p := ⟨b, off + j, none⟩) (World.block_lt_of_cell? _ _ h3)).trans h3, h4⟩⟩
theorem Out.drew {lo hi : Nat} {a w : World} (h : Out lo hi a w) : Out lo hi a w.drew := h.trans ⟨rfl, rfl, rfl, Nat.le_refl _, fun _ _ _ => rfl⟩
set_option maxHeartbeats 800000 in
theorem l1Byte_any (d n cap i : Nat) (h : Int) (a : Option Addr) (w : World) (hn : n ≤ 1048576) (hc : CurAt w d a n cap i h) :
    Calls Try.prog 32 #[.pointer (some ⟨d, 0, none⟩)] w fun e w' => ∃ (x i' : Nat) (h' : Int), x < 256 ∧ e = .returned (.int .i64 x) ∧ CurAt w' d a n cap i' h' ∧ Out d (d + 1) w w' := by
  have Hcur := hide hc
  obtain ⟨hle, c0, c1, c2, f1, f2, hcode⟩ := hc
  have Hc := hide hcode
  clear hcode
  go_enter Try.func32, Try.ntmps32
  go_wp2
  go_region
  have hX : ∃ k : Nat, k < 256 ∧ bits BinOp.and IntKind.i64 (bits BinOp.xor IntKind.i64 (wrap64 (wrap64 (h * 6364136223846793005) + 1442695040888963407) / 8589934592) (wrap64 (wrap64 (h * 6364136223846793005) + 1442695040888963407) / 140737488355328)) 255 = (k : Int) := ⟨(bits BinOp.xor IntKind.i64 (wrap64 (wrap64 (h * 6364136223846793005) + 1442695040888963407) / 8589934592) (wrap64 (wrap64 (h * 6364136223846793005) + 1442695040888963407) / 140737488355328) % 256).toNat, by omega, by rw [i64_and255]; omega⟩
  obtain ⟨X, hX1, hX2⟩ := hX
  rw [hX2]
  clear hX2
  generalize wrap64 (wrap64 (h * 6364136223846793005) + 1442695040888963407) = H at *
  go_wp2
  go_region
  by_cases hlt : i < n
  · obtain ⟨b, off, x, rfl, hbd, hx, hx0, hx1⟩ := Hc.out i hlt
    go_wp2
    go_region
    go_wp2
    go_ret
    refine ⟨((X + x) % 256).toNat, i + 1, H, by omega, ?_, ((Hcur.out.put2 H).put1 (i + 1) (by omega)).drew.drew.drew, ((((Out.refl d (d + 1) w).setCell (p := ⟨d, 2, none⟩) (Nat.le_refl _) (Nat.lt_succ_self _) _).setCell (p := ⟨d, 1, none⟩) (Nat.le_refl _) (Nat.lt_succ_self _) _).drew.drew.drew)⟩
    show Ending.returned (Value.int .i64 (bits BinOp.and IntKind.i64 (X + x) 255)) = _
    rw [i64_and255]
    exact ret_int (by omega)
  · go_wp2
    go_ret
    exact ⟨X, i, H, hX1, rfl, (Hcur.out.put2 H).drew.drew, ((Out.refl d (d + 1) w).setCell (p := ⟨d, 2, none⟩) (Nat.le_refl _) (Nat.lt_succ_self _) _).drew.drew⟩
def CurIn (w : World) (d : Nat) (a : Option Addr) (n cap : Nat) : Prop := ∃ (i : Nat) (h : Int), CurAt w d a n cap i h
theorem CurIn.later {w w' : World} {d : Nat} {a : Option Addr} {n cap : Nat} (c : CurIn w d a n cap) (hb : Below w.heap.size w w') : CurIn w' d a n cap := by
  obtain ⟨i, h, c⟩ := c
  exact ⟨i, h, c.later hb⟩
theorem CurIn.drew {w : World} {d : Nat} {a : Option Addr} {n cap : Nat} (c : CurIn w d a n cap) : CurIn w.drew d a n cap := by
  obtain ⟨i, h, c⟩ := c
  exact ⟨i, h, c.drew⟩
theorem l1Byte_in (d n cap : Nat) (a : Option Addr) (w : World) (hn : n ≤ 1048576) (hc : CurIn w d a n cap) :
    Calls Try.prog 32 #[.pointer (some ⟨d, 0, none⟩)] w fun e w' => ∃ x : Nat, x < 256 ∧ e = .returned (.int .i64 x) ∧ Hid (CurIn w' d a n cap) ∧ Out d (d + 1) w w' := by
  obtain ⟨i, h, hc⟩ := hc
  exact (l1Byte_any d n cap i h a w hn hc).mono fun e w' ⟨x, i', h', h1, h2, h3, h4⟩ => ⟨x, h1, h2, hide ⟨i', h', h3⟩, h4⟩
set_option maxHeartbeats 800000 in
theorem l1Below_any (d n cap m : Nat) (a : Option Addr) (w : World) (hn : n ≤ 1048576) (hm : m ≤ 1048576) (hc : CurIn w d a n cap) :
    Calls Try.prog 23 #[.pointer (some ⟨d, 0, none⟩), .int .i64 m] w fun e w' => ∃ x : Nat, (0 < m → x < m) ∧ e = .returned (.int .i64 x) ∧ Hid (CurIn w' d a n cap) ∧ Out d (d + 1) w w' := by
  have Hc := hide hc
  clear hc
  go_enter Try.func23, Try.ntmps23
  by_cases h0 : m = 0
  · subst h0
    go_wp2
    go_ret
    exact ⟨0, by omega, rfl, Hc, Out.refl _ _ _⟩
  · by_cases h1 : m ≤ 256
    · go_wp2_with (go_at_call 32; refine (l1Byte_in d n cap a _ hn Hc.out).mono ?_; rintro e w2 ⟨x, hx, rfl, hc2, ho2⟩)
      go_wp2
      go_ret
      refine ⟨x % m, fun _ => Nat.mod_lt _ (by omega), ?_, hc2, ho2⟩
      exact ret_int (by omega)
    · go_wp2_with (go_at_call 32; refine (l1Byte_in d n cap a _ hn Hc.out).mono ?_; rintro e w2 ⟨x, hx, rfl, hc2, ho2⟩)
      go_wp2_with (go_at_call 32; refine (l1Byte_in d n cap a _ hn hc2.out).mono ?_; rintro e w3 ⟨y, hy, rfl, hc3, ho3⟩)
      go_wp2_with (go_at_call 32; refine (l1Byte_in d n cap a _ hn hc3.out).mono ?_; rintro e w4 ⟨z, hz, rfl, hc4, ho4⟩)
      go_wp2
      go_ret
      refine ⟨(x * 65536 + y * 256 + z) % m, fun _ => Nat.mod_lt _ (by omega), ?_, hc4, (ho2.trans ho3).trans ho4⟩
      exact ret_int (by simp only [Int.natCast_emod, Int.natCast_add, Int.natCast_mul]; rfl)
theorem l1Once_any (d n cap m : Nat) (a : Option Addr) (w : World) (hn : n ≤ 1048576) (hm : m ≤ 1048576) (hc : CurIn w d a n cap) :
    Calls Try.prog 12 #[.pointer (some ⟨d, 0, none⟩), .int .i64 m] w fun e w' => ∃ o : Bool, e = .returned (.bool o) ∧ Hid (CurIn w' d a n cap) ∧ Out d (d + 1) w w' := by
  have Hc := hide hc
  clear hc
  go_enter Try.func12, Try.ntmps12
  go_wp2_with (go_at_call 23; refine (l1Below_any d n cap m a _ hn hm Hc.out).mono ?_; rintro e w2 ⟨x, hx, rfl, hc2, ho2⟩)
  go_wp2
  go_ret
  exact ⟨_, rfl, hc2, ho2⟩
set_option maxHeartbeats 800000 in
theorem l1Str_any (d n cap b off sc : Nat) (a : Option Addr) (ss : List ByteArray) (w : World) (hn : n ≤ 1048576) (hl : ss.length ≤ 1048576) (h0 : 0 < ss.length) (hc : CurIn w d a n cap) (hs : strAt w b off ss) (hbd : b ≠ d) :
    Calls Try.prog 34 #[.pointer (some ⟨d, 0, none⟩), .slice (some ⟨b, off, none⟩) ss.length sc] w fun e w' => ∃ s, s ∈ ss ∧ e = .returned (.string s) ∧ Hid (CurIn w' d a n cap) ∧ Out d (d + 1) w w' := by
  have Hc := hide hc
  have Hs := hide hs
  clear hc hs
  go_enter Try.func34, Try.ntmps34
  go_wp2_with (go_at_call 23; refine (l1Below_any d n cap ss.length a _ hn hl (by first | exact Hc.out | exact Hc.out.drew)).mono ?_; rintro e w2 ⟨x, hx, rfl, hc2, ho2⟩; have hx' := hx h0; have hq := (ho2.cell (p := ⟨b, off + x, none⟩) (World.block_lt_of_cell? _ _ (Hs.out x hx')) (by show b < d ∨ d + 1 ≤ b; omega)).trans (Hs.out x hx'))
  go_wp2
  go_ret
  exact ⟨_, List.getElem_mem _, rfl, hc2, ho2⟩
end Go.Proofs.Ytbihhcbbjdjhcaa
