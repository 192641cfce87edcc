/- slices.Insert of one label at the end, and at whatever place. -/
import Derived.Test.YtlbpfcchaobgjaaDoorIns
namespace Go.Proofs.YtlbpfcchaobgjaaDoor
open Go.RowKit Go.BigFrame
set_option linter.unusedVariables false
set_option maxHeartbeats 1600000 in
theorem insEnd_any (g h hc : Nat) (ls : List (ByteArray × ByteArray)) (K V : ByteArray) (sp : List Value) (w : World) (hn : ls.length ≤ 1048576) (hgh : h ≠ g) (hsp : sp.length = 2)
    (hg : w.heap[g]? = some (.cells (flat ls ++ sp).toArray 33 (0, 0))) (hv : w.heap[h]? = some (.cells #[.string K, .string V] 33 (0, 0))) :
    Calls Tryd.prog 70 #[.slice (some ⟨g, 0, none⟩) ls.length (ls.length + 1), .int .i64 ls.length, .slice (some ⟨h, 0, none⟩) 1 hc] w fun e w' =>
      e = .returned (.slice (some ⟨g, 0, none⟩) (ls.length + 1) (ls.length + 1)) ∧ w'.heap[g]? = some (.cells (flat (ls ++ [(K, V)])).toArray 33 (0, 0)) ∧ ExB w.heap.size g w w' := by
  obtain ⟨i0, hi, hz0, hz1, hz2⟩ := info_parts Tryd.info44
  have hown : w.ownsRow 0 33 2 (.slice (some ⟨g, 0, none⟩) ls.length (ls.length + 1)) ls.length (flat ls) := owns_row (flat ls) sp hg (flat_length ls) (by rw [List.length_append, flat_length, hsp]; omega) (by omega) (by unfold maxLen; omega) (Nat.zero_le _)
  have hnews := World.news_of_block hv
  have hb4 : ¬ (ls.length + 1 = ls.length) := by omega
  have Ho := hide hown
  have Hn := hide hnews
  clear hown hnews hg hv
  go_enter Tryd.func70, Tryd.ntmps70
  go_wp2_with (at_builtin; refine wpList_append_fits _ rfl (.tmp 23) (.tmp 24) 24 rfl 0 33 i0 2 Tryd.underlying24 hi hz1 g ls.length (ls.length + 1) (flat ls) rfl Ho.out ⟨h, 0, none⟩ 1 hc [.string K, .string V] rfl rfl Hn.out (fun x hx => by simp at hx; rcases hx with rfl | rfl <;> rfl) (by omega) ?_; intro w2 ho2 hg2)
  go_ret
  refine ⟨rfl, ?_, ⟨hg2.os, hg2.tape, hg2.output, hg2.size, fun k hk hkg => hg2.block k hk (by intro e; cases e; exact hkg rfl)⟩⟩
  rw [flat_snoc]
  rcases ho2.2 with ⟨hx, _⟩ | ⟨g', cap', cur, hx, _, hh, _, _, hcs, htake⟩
  · cases hx
  · cases hx
    rw [hh, ← htake, List.take_of_length_le (by simp; omega), Array.toArray_toList]

/-- the list behind it -/
def insL (ls : List (ByteArray × ByteArray)) (i : Nat) (x : ByteArray × ByteArray) : List (ByteArray × ByteArray) := ls.take i ++ x :: ls.drop i
theorem insert_any (g h hc i : Nat) (ls : List (ByteArray × ByteArray)) (K V : ByteArray) (sp : List Value) (w : World) (hn : ls.length ≤ 1048576) (hi : i ≤ ls.length) (hgh : h ≠ g) (hsp : sp.length = 2)
    (hg : w.heap[g]? = some (.cells (flat ls ++ sp).toArray 33 (0, 0))) (hv : w.heap[h]? = some (.cells #[.string K, .string V] 33 (0, 0))) :
    Calls Tryd.prog 70 #[.slice (some ⟨g, 0, none⟩) ls.length (ls.length + 1), .int .i64 i, .slice (some ⟨h, 0, none⟩) 1 hc] w fun e w' =>
      e = .returned (.slice (some ⟨g, 0, none⟩) (ls.length + 1) (ls.length + 1)) ∧ w'.heap[g]? = some (.cells (flat (insL ls i (K, V))).toArray 33 (0, 0)) ∧ ExB w.heap.size g w w' := by
  by_cases e : i = ls.length
  · subst e
    unfold insL
    rw [List.take_length, List.drop_length]
    exact insEnd_any g h hc ls K V sp w hn hgh hsp hg hv
  · exact insMid_any g h hc i ls K V sp w hn (by omega) hgh hsp hg hv
end Go.Proofs.YtlbpfcchaobgjaaDoor
