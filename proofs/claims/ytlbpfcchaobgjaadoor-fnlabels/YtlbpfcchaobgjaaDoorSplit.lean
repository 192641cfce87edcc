import Derived.Test.YtlbpfcchaobgjaaDoorPcs
import Derived.Test.YtlbpfcchaobgjaaDoorLabs7
import Derived.Deep.AppendLies
namespace Go.Proofs.YtlbpfcchaobgjaaDoor
open Go.RowKit Go.BigFrame
set_option linter.unusedVariables false

def strV (P : List (List UInt8)) : List Value := P.map fun p => .string (ba p)
theorem Tryd.infoS : (Tryd.prog.info? 9).map (fun i => (i.zero, i.size, i.bytes)) = some (some (.string ByteArray.empty), 1, 16) := by kernel_rfl
theorem cell_one_at' (w : World) (n : Nat) (h : w.heap.size = n) (a : Value) (t : TypeId) : ∀ j u, [a][j]? = some u → (w.alloc (.cells #[a] t)).cell? ((⟨n, 0, none⟩ : Addr).add j) = some u := by
  subst h
  intro j u hj
  match j, hj with
  | 0, hj => simp at hj; subst hj; simp [Addr.add]
  | j + 1, hj => simp at hj
theorem extract_ba (s : ByteArray) (f k : Nat) (h1 : f ≤ k) (h2 : k ≤ s.size) : s.extract f k = ba ((s.data.toList.drop f).take (k - f)) := by
  apply ByteArray.ext
  apply Array.ext'
  show (s.extract f k).data.toList = _
  rw [Lib.extract_data]
  rfl
/-- where the cutting stands: the pieces so far, the place of the next one, the place that is looked at -/
def cutAt (c : UInt8) (L : List UInt8) (D : List (List UInt8)) (f k : Nat) : Prop :=
  (k ≤ L.length ∧ f ≤ k ∧ D.length ≤ f ∧ pcs c L = D ++ pcs c (L.drop f) ∧ ∀ b ∈ (L.drop f).take (k - f), b ≠ c) ∨ (k = L.length + 1 ∧ D.length ≤ k ∧ pcs c L = D)
theorem cutAt_start (c : UInt8) (L : List UInt8) : cutAt c L [] 0 0 := .inl ⟨Nat.zero_le _, Nat.le_refl _, Nat.le_refl _, rfl, by simp⟩
theorem cutAt_next {c : UInt8} {L : List UInt8} {D : List (List UInt8)} {f k : Nat} (h : cutAt c L D f k) (hk : k < L.length) (hc : L[k] ≠ c) : cutAt c L D f (k + 1) := by
  rcases h with ⟨h1, h2, h3, h4, h5⟩ | ⟨h1, _⟩
  · refine .inl ⟨by omega, by omega, h3, h4, ?_⟩
    rw [show k + 1 - f = (k - f) + 1 from by omega, List.take_succ_eq_append_getElem (by rw [List.length_drop]; omega)]
    intro b hb
    rcases List.mem_append.1 hb with hb | hb
    · exact h5 b hb
    · simp only [List.mem_singleton] at hb
      rw [hb, List.getElem_drop]
      have e : f + (k - f) = k := by omega
      simp only [e]
      exact hc
  · omega
theorem cutAt_hit {c : UInt8} {L : List UInt8} {D : List (List UInt8)} {f k : Nat} (h : cutAt c L D f k) (hk : k < L.length) (hc : L[k] = c) : cutAt c L (D ++ [(L.drop f).take (k - f)]) (k + 1) (k + 1) := by
  rcases h with ⟨h1, h2, h3, h4, h5⟩ | ⟨h1, _⟩
  · refine .inl ⟨by omega, Nat.le_refl _, by simp; omega, ?_, by simp⟩
    have e : L.drop f = (L.drop f).take (k - f) ++ c :: L.drop (k + 1) := by
      have := (List.take_append_drop (k - f) (L.drop f)).symm
      rw [List.drop_drop, show f + (k - f) = k from by omega, List.drop_eq_getElem_cons hk, hc] at this
      exact this
    rw [h4, List.append_assoc]
    congr 1
    conv => lhs; rw [e]
    rw [pcs_hit _ _ h5]
    rfl
  · omega
theorem cutAt_end {c : UInt8} {L : List UInt8} {D : List (List UInt8)} {f : Nat} (h : cutAt c L D f L.length) : cutAt c L (D ++ [(L.drop f).take (L.length - f)]) (L.length + 1) (L.length + 1) := by
  rcases h with ⟨h1, h2, h3, h4, h5⟩ | ⟨h1, _⟩
  · refine .inr ⟨rfl, by simp; omega, ?_⟩
    have e : (L.drop f).take (L.length - f) = L.drop f := List.take_of_length_le (by rw [List.length_drop]; omega)
    rw [e] at h5 ⊢
    rw [h4, pcs_none _ h5]
  · omega

end Go.Proofs.YtlbpfcchaobgjaaDoor
