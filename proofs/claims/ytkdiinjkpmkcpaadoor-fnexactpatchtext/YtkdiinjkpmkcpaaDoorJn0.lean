/- Texts joined by a sign: plain. -/
import Derived.Test.YtkdiinjkpmkcpaaDoorStrs
import Derived.Lib.Join
namespace Go.Proofs.YtkdiinjkpmkcpaaDoor
open Go.RowKit
set_option linter.unusedVariables false

theorem ret_str {s t : ByteArray} (h : s = t) : Ending.returned (.string s) = .returned (.string t) := by rw [h]
theorem bs_app (a b : ByteArray) : (a ++ b).data.toList = a.data.toList ++ b.data.toList := by simp
theorem bs_ext' {a b : ByteArray} (h : a.data.toList = b.data.toList) : a = b := ByteArray.ext (Array.ext' h)
theorem bs_assoc (a b c : ByteArray) : (a ++ b) ++ c = a ++ (b ++ c) := bs_ext' (by simp only [bs_app, List.append_assoc])
theorem bs_none (a : ByteArray) : a ++ ⟨#[]⟩ = a := bs_ext' (by rw [bs_app]; simp)
def jn (c : UInt8) (ps : List ByteArray) : ByteArray := ⟨(Lib.join (ps.map (·.data.toList)) [c]).toArray⟩
theorem jn_nil (c : UInt8) : jn c [] = ⟨#[]⟩ := rfl
theorem jn_first (c : UInt8) (x : ByteArray) : jn c ([] ++ [x]) = x := bs_ext' (by show Lib.join [x.data.toList] [c] = _; rw [Lib.join_one])
theorem jTail_snoc (sep : List UInt8) (r : List (List UInt8)) (y : List UInt8) : Lib.joinTail sep (r ++ [y]) = Lib.joinTail sep r ++ (sep ++ y) := by
  unfold Lib.joinTail
  simp
theorem jn_snoc (c : UInt8) (p : ByteArray) (r : List ByteArray) (x : ByteArray) : jn c ((p :: r) ++ [x]) = (jn c (p :: r) ++ ⟨#[c]⟩) ++ x := by
  apply bs_ext'
  rw [bs_app, bs_app]
  show Lib.join _ _ = (Lib.join _ _ ++ [c]) ++ _
  rw [List.cons_append, List.map_cons, Lib.join_cons, List.map_append, List.map_cons, List.map_nil, jTail_snoc, List.map_cons, Lib.join_cons]
  simp [List.append_assoc]
theorem take_succ_get (ps : List ByteArray) (k : Nat) (h : k < ps.length) : ps.take (k + 1) = ps.take k ++ [ps[k]] := by
  rw [List.take_succ_eq_append_getElem h]
theorem jn_zero (c : UInt8) (ps : List ByteArray) (h : 0 < ps.length) : jn c (ps.take (0 + 1)) = ps[0] := by
  rw [take_succ_get ps 0 h]; exact jn_first c _
theorem jn_succ (c : UInt8) (ps : List ByteArray) (k : Nat) (h : k < ps.length) (hk : 0 < k) : jn c (ps.take (k + 1)) = (jn c (ps.take k) ++ ⟨#[c]⟩) ++ ps[k] := by
  rw [take_succ_get ps k h]
  have hne : ps.take k ≠ [] := by
    intro e
    have h' : (ps.take k).length = k := by rw [List.length_take]; omega
    rw [e, List.length_nil] at h'
    omega
  obtain ⟨x, r, hx⟩ := List.exists_cons_of_ne_nil hne
  rw [hx]
  exact jn_snoc c x r _
theorem one_size (c : UInt8) : (⟨#[c]⟩ : ByteArray).size = 1 := rfl
theorem jn_size (c : UInt8) (m : Nat) (ps : List ByteArray) (h : ∀ p ∈ ps, p.size ≤ m) : ∀ k, k ≤ ps.length → (jn c (ps.take k)).size ≤ (m + 1) * k
  | 0, _ => Nat.zero_le _
  | k + 1, hk => by
    have ih := jn_size c m ps h k (by omega)
    have hx := h _ (List.getElem_mem (show k < ps.length by omega))
    by_cases h0 : k = 0
    · subst h0; rw [jn_zero c ps (by omega)]; omega
    · rw [jn_succ c ps k (by omega) (by omega), ByteArray.size_append, ByteArray.size_append, one_size, Nat.mul_succ]; omega
theorem jn_size_all (c : UInt8) (m : Nat) (ps : List ByteArray) (h : ∀ p ∈ ps, p.size ≤ m) : (jn c ps).size ≤ (m + 1) * ps.length := by
  have := jn_size c m ps h ps.length (Nat.le_refl _)
  rwa [List.take_length] at this

end Go.Proofs.YtkdiinjkpmkcpaaDoor
