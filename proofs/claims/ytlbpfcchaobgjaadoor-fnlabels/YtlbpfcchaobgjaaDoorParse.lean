import Derived.Test.YtlbpfcchaobgjaaDoorSplit
import Derived.Test.YtlbpfcchaobgjaaDoorEx
import Derived.Deep.RegionLaw
namespace Go.Proofs.YtlbpfcchaobgjaaDoor
open Go.RowKit Go.BigFrame
set_option linter.unusedVariables false

theorem allOf_snoc (f : List UInt8 → Option (ByteArray × ByteArray)) (p : List UInt8) : ∀ P : List (List UInt8), allOf f (P ++ [p]) = match allOf f P, f p with | some ls, some x => some (ls ++ [x]) | _, _ => none
  | [] => by cases h : f p <;> simp [allOf, h]
  | q :: P => by
    have ih := allOf_snoc f p P
    cases hq : f q <;> cases hP : allOf f P <;> cases hp : f p <;> simp [allOf, hq, hP, hp] at ih ⊢ <;> simp [ih]
theorem allOf_bad (f : List UInt8 → Option (ByteArray × ByteArray)) : ∀ (P : List (List UInt8)) (p : List UInt8), p ∈ P → f p = none → allOf f P = none
  | [], p, h, _ => by simp at h
  | q :: P, p, h, hp => by
    rcases List.mem_cons.1 h with rfl | h
    · simp [allOf, hp]
    · have := allOf_bad f P p h hp
      cases hq : f q <;> simp [allOf, hq, this]
theorem pcs_mem_le {c : UInt8} : ∀ (L : List UInt8) (p : List UInt8), p ∈ pcs c L → p.length ≤ L.length
  | [], p, h => by simp [pcs] at h; simp [h]
  | b :: L, p, h => by
    have ih := pcs_mem_le (c := c) L
    unfold pcs at h
    split at h
    · rcases List.mem_cons.1 h with rfl | h
      · simp
      · have := ih p h; simp only [List.length_cons]; omega
    · split at h
      · rename_i e
        rw [e] at ih
        rcases List.mem_cons.1 h with rfl | h
        · have := ih _ (List.mem_cons_self); simp only [List.length_cons]; omega
        · have := ih p (List.mem_cons_of_mem _ h); simp only [List.length_cons]; omega
      · simp at h; simp [h]
theorem kvOf_sizes {p : List UInt8} {x : ByteArray × ByteArray} (h : kvOf p = some x) : x.1.size ≤ p.length ∧ x.2.size ≤ p.length := by
  unfold kvOf at h
  split at h
  · rename_i a b e
    cases h
    exact ⟨pcs_mem_le p a (by rw [e]; simp), pcs_mem_le p b (by rw [e]; simp)⟩
  · cases h
theorem cutOf_sizes {p : List UInt8} {x : ByteArray × ByteArray} (h : cutOf p = some x) : x.1.size ≤ p.length ∧ x.2.size ≤ p.length := by
  unfold cutOf at h
  split at h
  · cases h
    unfold Lib.cut
    split
    · exact ⟨List.length_take_le' _ _, by show (List.drop _ _).length ≤ _; rw [List.length_drop]; omega⟩
    · exact ⟨Nat.le_refl _, Nat.zero_le _⟩
  · cases h
theorem allOf_sizes {f : List UInt8 → Option (ByteArray × ByteArray)} (hf : ∀ p x, f p = some x → x.1.size ≤ p.length ∧ x.2.size ≤ p.length) : ∀ (P : List (List UInt8)) (ls : List (ByteArray × ByteArray)), allOf f P = some ls → (∀ p, p ∈ P → p.length ≤ 1048576) → okSizes ls
  | [], ls, h, _ => by cases h; intro x hx; simp at hx
  | p :: P, ls, h, hp => by
    unfold allOf at h
    split at h
    · rename_i x y h1 h2
      cases h
      intro z hz
      rcases List.mem_cons.1 hz with rfl | hz
      · have := hf p _ h1
        have := hp p (by simp)
        unfold maxLen
        omega
      · exact allOf_sizes hf P y h2 (fun q hq => hp q (by simp [hq])) z hz
    · cases h
theorem owns_grown {w w' : World} {base g n cap : Nat} {e : TypeId} {size : Nat} {xs : List Value} {row : Option Nat} (h : w.ownsRow base e size (.slice (some ⟨g, 0, none⟩) n cap) n xs) (hg : w.grownBy w' row) (hne : row ≠ some g) :
    w'.ownsRow base e size (.slice (some ⟨g, 0, none⟩) n cap) n xs := by
  obtain ⟨h1, h2⟩ := h
  rcases h2 with ⟨h, _⟩ | ⟨g', cap', cur, h, hbs, hh, r⟩
  · cases h
  · cases h
    refine ⟨h1, .inr ⟨g, cap, cur, rfl, hbs, ?_, r⟩⟩
    rw [hg.block g (Array.getElem?_eq_some_iff.1 hh).1 (fun h => hne h.symm)]
    exact hh
theorem strV_get {P : List (List UInt8)} {k : Nat} (h : k < P.length) : (strV P)[k]? = some (.string (ba P[k])) := by
  unfold strV; rw [List.getElem?_map, List.getElem?_eq_getElem h]; rfl
def specR (s : ByteArray) : List (ByteArray × ByteArray) × Bool := if s.size = 0 then ([], true) else resOf (allOf kvOf (pcs 44 s.data.toList))
theorem ret_lb {a : Option Addr} {n m cap : Nat} {p q : Bool} (h : n = m ∧ p = q) : Ending.returned (.tuple #[.slice a n cap, .bool p]) = .returned (.tuple #[.slice a m cap, .bool q]) := by rw [h.1, h.2]

end Go.Proofs.YtlbpfcchaobgjaaDoor
