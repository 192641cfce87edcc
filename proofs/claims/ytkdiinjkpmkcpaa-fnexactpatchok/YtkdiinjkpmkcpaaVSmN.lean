/- spec.SameValue of values that are not the same but for their lists. -/
import Derived.Test.YtkdiinjkpmkcpaaVSm
import Derived.Test.YtkdiinjkpmkcpaaUTValue
namespace Go.Proofs.Ytkdiinjkpmkcpaa
open Go.RowKit Go.BigFrame
set_option linter.unusedVariables false

/-- a row of texts in memory -/
theorem txt_at {w : World} {lo hi n : Nat} {c : UD} {b off cap : Nat} (ht : tyS 1 n c 0) (h : uS w lo hi 1 n c (.slice (some ⟨b, off, none⟩) n cap)) (j : Nat) (hj : j < (strL c).length) : w.cell? ⟨b, off + j, none⟩ = some (.string ((strL c)[j]'hj)) := by
  have hl := strL_len ht
  obtain ⟨b', off', e, _, hm⟩ := h.cells (by omega)
  cases e
  obtain ⟨c', q1, q2⟩ := hm.get j _ ((strL_get c 0 ht.2.2.2.2).2 j hj).1
  rw [q1, show c' = _ from q2]
theorem beqS (a b : ByteArray) : (a.toList == b.toList) = decide (a = b) := by
  rw [ByteArray.toList_eq, ByteArray.toList_eq, Bool.eq_iff_iff, beq_iff_eq, decide_eq_true_iff]
  constructor
  · intro h; cases a; cases b; simpa using congrArg List.toArray h
  · rintro rfl; rfl
set_option maxRecDepth 20000 in
set_option maxHeartbeats 3200000 in
theorem sSame_no (z0 z2 y0 y2 : Int) (z1 y1 : ByteArray) (n3 n4 m3 m4 : Nat) (a3 a4 b3 b4 : Option Addr) (p3 p4 o3 o4 : Nat) (w : World) (h : ¬ (z0 = y0 ∧ z1 = y1 ∧ z2 = y2 ∧ n3 = m3 ∧ n4 = m4)) :
    Calls Try.prog 14 #[.agg #[.int .i64 z0, .string z1, .int .i64 z2, .slice a3 n3 p3, .slice a4 n4 p4], .agg #[.int .i64 y0, .string y1, .int .i64 y2, .slice b3 m3 o3, .slice b4 m4 o4]] w fun e w' => e = .returned (.bool false) ∧ Below w.heap.size w w' := by
  have HA : Hid (∀ o o', Below w.heap.size w ((w.alloc o).alloc o')) := fun o o' => ((Below.refl _ _).alloc (Nat.le_refl _) _).alloc (by simp) _
  by_cases h0 : z0 = y0
  rotate_left
  · have c0 : (z0 != y0) = true := by rw [bne_iff_ne]; exact h0
    clear h h0
    go_enter Try.func14, Try.ntmps14
    go_wp2
    go_ret
    exact ⟨rfl, HA.out _ _⟩
  subst h0
  have c0 : (z0 != z0) = false := by simp
  by_cases h1 : z1 = y1
  rotate_left
  · have c1 : (z1.toList == y1.toList) = false := by rw [beqS]; exact decide_eq_false h1
    clear h h1
    go_enter Try.func14, Try.ntmps14
    go_wp2
    go_ret
    exact ⟨rfl, HA.out _ _⟩
  subst h1
  have c1 : (z1.toList == z1.toList) = true := by simp
  by_cases h2 : z2 = y2
  rotate_left
  · have c2 : (z2 != y2) = true := by rw [bne_iff_ne]; exact h2
    clear h h2
    go_enter Try.func14, Try.ntmps14
    go_wp2
    go_ret
    exact ⟨rfl, HA.out _ _⟩
  subst h2
  have c2 : (z2 != z2) = false := by simp
  by_cases h3 : n3 = m3
  rotate_left
  · have c3' : ((n3 : Int) != (m3 : Int)) = true := by rw [bne_iff_ne]; omega
    clear h h3
    go_enter Try.func14, Try.ntmps14
    go_wp2
    go_ret
    exact ⟨rfl, HA.out _ _⟩
  subst h3
  have c3' : ((n3 : Int) != (n3 : Int)) = false := by simp
  have c4' : ((n4 : Int) != (m4 : Int)) = true := by rw [bne_iff_ne]; intro e; exact h ⟨rfl, rfl, rfl, rfl, by omega⟩
  clear h
  go_enter Try.func14, Try.ntmps14
  go_wp2
  go_ret
  exact ⟨rfl, HA.out _ _⟩
end Go.Proofs.Ytkdiinjkpmkcpaa
