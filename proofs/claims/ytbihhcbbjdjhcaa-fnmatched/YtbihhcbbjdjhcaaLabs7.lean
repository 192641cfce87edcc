import Derived.Test.YtbihhcbbjdjhcaaLabs6
namespace Go.Proofs.Ytbihhcbbjdjhcaa
open Go.RowKit Go.BigFrame
set_option linter.unusedVariables false

def dropL (ls : List (ByteArray × ByteArray)) (key : ByteArray) : List (ByteArray × ByteArray) := ls.filter fun p => decide (p.1 ≠ key)
theorem take_succ_at (ls : List (ByteArray × ByteArray)) (k : Nat) (h : k < ls.length) : ls.take (k + 1) = ls.take k ++ [(keyAt ls k, valAt ls k)] := by
  rw [List.take_succ_eq_append_getElem h]
  unfold keyAt valAt
  rw [List.getElem?_eq_getElem h]
  rfl
theorem dropL_keep {ls : List (ByteArray × ByteArray)} {key : ByteArray} {k : Nat} (h : k < ls.length) (hq : keyAt ls k ≠ key) : dropL (ls.take (k + 1)) key = dropL (ls.take k) key ++ [(keyAt ls k, valAt ls k)] := by
  rw [take_succ_at ls k h]
  unfold dropL
  rw [List.filter_append]
  simp [hq]
theorem dropL_skip {ls : List (ByteArray × ByteArray)} {key : ByteArray} {k : Nat} (h : k < ls.length) (hq : keyAt ls k = key) : dropL (ls.take (k + 1)) key = dropL (ls.take k) key := by
  rw [take_succ_at ls k h]
  unfold dropL
  rw [List.filter_append]
  simp [hq]
theorem dropL_len (ls : List (ByteArray × ByteArray)) (key : ByteArray) (k : Nat) : (dropL (ls.take k) key).length ≤ k := by
  unfold dropL
  exact Nat.le_trans (List.length_filter_le _ _) (List.length_take_le _ _)
theorem flat_append (a b : List (ByteArray × ByteArray)) : flat (a ++ b) = flat a ++ flat b := by unfold flat; rw [List.flatMap_append]
theorem flat_snoc (ls : List (ByteArray × ByteArray)) (x : ByteArray × ByteArray) : flat (ls ++ [x]) = flat ls ++ [.string x.1, .string x.2] := by rw [flat_append]; rfl

theorem cell_two_new (w : World) (a b : Value) (t : TypeId) : ∀ j u, [a, b][j]? = some u → (w.alloc (.cells #[a, b] t)).cell? ((⟨w.heap.size, 0, none⟩ : Addr).add j) = some u := by
  intro j u hj
  match j, hj with
  | 0, hj => simp at hj; subst hj; simp [Addr.add]
  | 1, hj => simp at hj; subst hj; simp [Addr.add]
  | j + 2, hj => simp at hj
theorem cell_two_at (w : World) (n : Nat) (h : w.heap.size = n) (a b : Value) (t : TypeId) : ∀ j u, [a, b][j]? = some u → (w.alloc (.cells #[a, b] t)).cell? ((⟨n, 0, none⟩ : Addr).add j) = some u := by
  subst h; exact cell_two_new w a b t
end Go.Proofs.Ytbihhcbbjdjhcaa
