import Derived.Test.YtlbpfcchaobgjaaDoorLabs6
namespace Go.Proofs.YtlbpfcchaobgjaaDoor
open Go.RowKit Go.BigFrame
set_option linter.unusedVariables false

def dropL (ls : List (ByteArray × ByteArray)) (key : ByteArray) : List (ByteArray × ByteArray) := ls.filter fun p => decide (p.1 ≠ key)
theorem take_succ_at (ls : List (ByteArray × ByteArray)) (k : Nat) (h : k < ls.length) : ls.take (k + 1) = ls.take k ++ [(keyAt ls k, valAt ls k)] := by
  rw [List.take_succ_eq_append_getElem h]
  unfold keyAt valAt
  rw [List.getElem?_eq_getElem h]
  rfl
theorem dropL_keep {ls : List (ByteArray × ByteArray)} {key : ByteArray} {k : Nat} (h : k < ls.length) (hq : keyAt ls k ≠ key) : dropL (ls.take (k + 1)) key = dropL (ls.take k) key ++ [(keyAt ls k, valAt ls k)] := by
  rw [take_succ_at ls k h]
  unfold dropL
  rw [List.filter_append]
  simp [hq]
theorem dropL_skip {ls : List (ByteArray × ByteArray)} {key : ByteArray} {k : Nat} (h : k < ls.length) (hq : keyAt ls k = key) : dropL (ls.take (k + 1)) key = dropL (ls.take k) key := by
  rw [take_succ_at ls k h]
  unfold dropL
  rw [List.filter_append]
  simp [hq]
theorem dropL_len (ls : List (ByteArray × ByteArray)) (key : ByteArray) (k : Nat) : (dropL (ls.take k) key).length ≤ k := by
  unfold dropL
  exact Nat.le_trans (List.length_filter_le _ _) (List.length_take_le _ _)
theorem flat_append (a b : List (ByteArray × ByteArray)) : flat (a ++ b) = flat a ++ flat b := by unfold flat; rw [List.flatMap_append]
theorem flat_snoc (ls : List (ByteArray × ByteArray)) (x : ByteArray × ByteArray) : flat (ls ++ [x]) = flat ls ++ [.string x.1, .string x.2] := by rw [flat_append]; rfl

theorem cell_two_new (w : World) (a b : Value) (t : TypeId) : ∀ j u, [a, b][j]? = some u → (w.alloc (.cells #[a, b] t)).cell? ((⟨w.heap.size, 0, none⟩ : Addr).add j) = some u := by
  intro j u hj
  match j, hj with
  | 0, hj => simp at hj; subst hj; simp [Addr.add]
  | 1, hj => simp at hj; subst hj; simp [Addr.add]
  | j + 2, hj => simp at hj
theorem cell_two_at (w : World) (n : Nat) (h : w.heap.size = n) (a b : Value) (t : TypeId) : ∀ j u, [a, b][j]? = some u → (w.alloc (.cells #[a, b] t)).cell? ((⟨n, 0, none⟩ : Addr).add j) = some u := by
  subst h; exact cell_two_new w a b t
theorem ilabelDrop_any (a : Option Addr) (cap : Nat) (ls : List (ByteArray × ByteArray)) (key : ByteArray) (w : World) (hl : ls.length ≤ 1048576) (hrow : rowOf w a ls) :
    Calls Tryd.prog 13 #[.slice a ls.length cap, .string key] w fun e w' => ∃ g cap, e = .returned (.slice (some ⟨g, 0, none⟩) (dropL ls key).length cap) ∧ w'.ownsRow w.heap.size 33 2 (.slice (some ⟨g, 0, none⟩) (dropL ls key).length cap) (dropL ls key).length (flat (dropL ls key)) ∧ Below w.heap.size w w' := by
  obtain ⟨i0, hi, hz0, hz1, hz2⟩ := info_parts Tryd.info44
  have Hr : Hid (rowOf w a ls) := hrow
  clear hrow
  go_enter Tryd.func13, Tryd.ntmps13
  go_wp2_with fail
  go_loopw [5, 11] (fun v i wr => ∃ (k : Nat), k ≤ ls.length ∧ i = .int .i64 k ∧ Hid (wr.ownsRow w.heap.size 33 2 v (dropL (ls.take k) key).length (flat (dropL (ls.take k) key))) ∧ Hid (v ≠ .slice none 0 0) ∧ Below w.heap.size w wr) (fun _ i _ => ls.length - (intOf i).toNat)
  case atStart => exact ⟨0, Nat.zero_le _, rfl, World.ownsRow_lit w #[] 0 (Nat.le_refl _) (by decide) rfl, (fun h => by cases h), (Below.refl _ _).alloc (Nat.le_refl _) _⟩
  case round =>
    obtain ⟨k, hk, rfl, How, Hnn, hbw⟩ := hrel
    by_cases hlt : k < ls.length
    · obtain ⟨b, off, rfl, hat⟩ := Hr.out (by omega)
      have hc := cellsOf_of hat
      have hbb : b < w.heap.size := World.block_lt_of_cell? _ _ (hat k hlt).1
      have c0 := (hbw.cell (p := ⟨b, off + k * 2, none⟩) hbb).trans (hc k hlt).1
      have c2 := (hbw.cell (p := ⟨b, off + k * 2 + 1, none⟩) hbb).trans (hc k hlt).2
      have he := beq_str (keyAt ls k) key
      have hdl := dropL_len ls key k
      clear hat hc Hr
      by_cases hq : keyAt ls k = key
      · rw [decide_eq_true hq] at he
        have Hn := hide (dropL_skip hlt hq)
        clear hq
        generalize keyAt ls k = K at *
        generalize valAt ls k = V at *
        go_wp2
        go_roundw
        case rel => exact ⟨k + 1, by omega, by go_num, by rw [Hn.out]; exact How.out.alloc _, Hnn, hbw.alloc hbw.size _⟩
        case measure => simp [intOf]; omega
      · rw [decide_eq_false hq] at he
        have Hn := hide (dropL_keep hlt hq)
        clear hq
        generalize keyAt ls k = K at *
        generalize valAt ls k = V at *
        go_wp2_with (at_builtin; refine wpList_append_own _ rfl _ _ 24 rfl w.heap.size 33 i0 _ 2 32 Tryd.underlying24 hi hz0 hz1 hz2 rfl (by decide) _ _ _ rfl ((How.out.alloc _).alloc _) ⟨wr.heap.size + 1, 0, none⟩ 1 1 [.string K, .string V] rfl rfl (cell_two_at _ _ (by simp) _ _ _) (fun x hx => by simp at hx; rcases hx with rfl | rfl <;> rfl) (by unfold maxLen; omega) (by omega) (by have := hbw.size; simp; omega) ?_; intro v' w3 hown' hgrow3 hnil3)
        go_roundw
        case rel => exact ⟨k + 1, by omega, by go_num, (by rw [Hn.out, flat_append, List.length_append]; exact hown'), (fun h => Hnn.out (hnil3.1 h).1), Below.grown ((hbw.alloc hbw.size _).alloc (by have := hbw.size; simp; omega) _) hgrow3 (by have := hbw.size; simp; omega) (fun j hj => (How.out.lt _ hj).1)⟩
        case measure => simp [intOf]; omega
    · have e : k = ls.length := by omega
      subst e
      have Ho : Hid (wr.ownsRow w.heap.size 33 2 u5 (dropL ls key).length (flat (dropL ls key))) := by have := How.out; rw [List.take_length] at this; exact this
      clear How Hr
      have Hf : Hid (∃ g cap, u5 = Value.slice (some ⟨g, 0, none⟩) (dropL ls key).length cap) := by
        rcases Ho.out.2 with ⟨h, _⟩ | ⟨g, cap, cur, h, _⟩
        · exact absurd h Hnn.out
        · exact ⟨g, cap, h⟩
      go_wp2
      go_ret
      obtain ⟨g, cp, hv⟩ := Hf.out
      exact ⟨g, cp, congrArg Ending.returned hv, by rw [← hv]; exact Ho.out, hbw⟩

end Go.Proofs.YtlbpfcchaobgjaaDoor
