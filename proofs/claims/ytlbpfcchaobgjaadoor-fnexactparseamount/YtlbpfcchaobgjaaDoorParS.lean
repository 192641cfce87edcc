import Derived.Test.YtlbpfcchaobgjaaDoorParA
namespace Go.Proofs.YtlbpfcchaobgjaaDoor
open Go.RowKit Go.BigFrame
set_option linter.unusedVariables false
/-! spec.ParseAmount -/
theorem inB_dig (s : ByteArray) (k : Nat) (h : k < s.size) : inB (((s[k]'h).toNat : Nat) : Int) 48 57 = isD (s[k]'h) := by
  unfold inB isD
  rw [Bool.eq_iff_iff, decide_eq_true_eq, decide_eq_true_eq]; omega
theorem takeWhile_stop {p : UInt8 → Bool} : ∀ (L : List UInt8) (k : Nat), (L.take k).all p = true → (∀ c, L[k]? = some c → p c = false) → L.takeWhile p = L.take k
  | [], k, _, _ => by simp
  | c :: L, 0, _, h => by
    have := h c rfl
    simp [this]
  | c :: L, k + 1, h1, h2 => by
    simp only [List.take_succ_cons, List.all_cons, Bool.and_eq_true] at h1
    rw [List.takeWhile_cons, h1.1, List.take_succ_cons]
    simp only [if_true]
    rw [takeWhile_stop L k h1.2 (fun c' hc => h2 c' (by simpa using hc))]
theorem amtK_at {s : ByteArray} {k : Nat} (h17 : k ≤ 17) (hk : k ≤ s.size) (hok : okD s k) (hstop : k = s.size ∨ k = 17 ∨ ∃ h : k < s.size, isD (s[k]'h) = false) : amtK s.data.toList = k := by
  unfold amtK
  have hlen := len_size s
  have ht : (s.data.toList.take 17).take k = s.data.toList.take k := by rw [List.take_take]; congr 1; omega
  rw [takeWhile_stop _ k (by rw [ht]; exact hok) ?_, ht, List.length_take]
  · omega
  · intro c hc
    rw [List.getElem?_take] at hc
    split at hc
    · rename_i hlt
      rcases hstop with h | h | ⟨h, hd⟩
      · rw [List.getElem?_eq_none (by omega)] at hc; cases hc
      · omega
      · have h' : k < s.data.toList.length := by omega
        rw [List.getElem?_eq_getElem h'] at hc
        cases hc
        exact hd
    · cases hc
def nmV (k : Nat) : ByteArray := ⟨((amtV[k]?.getD ([], 1)).1).toArray⟩
def szV (k : Nat) : Nat := (amtV[k]?.getD ([], 1)).2
theorem eight {k : Nat} (hk : k < 8) : k = 0 ∨ k = 1 ∨ k = 2 ∨ k = 3 ∨ k = 4 ∨ k = 5 ∨ k = 6 ∨ k = 7 := by omega
theorem szV_bd (k : Nat) (hk : k < 8) : 0 < szV k ∧ szV k ≤ 2000000000000 := by
  rcases eight hk with rfl | rfl | rfl | rfl | rfl | rfl | rfl | rfl <;> decide
theorem look_step (R : List UInt8) (n k : Nat) (hk : k < 8) : amtLook R n (amtV.drop k) = if R = (nmV k).data.toList then amtIn n (szV k) else amtLook R n (amtV.drop (k + 1)) := by
  rcases eight hk with rfl | rfl | rfl | rfl | rfl | rfl | rfl | rfl <;> rfl
theorem amtR_no {L : List UInt8} (h : amtOkK L (amtK L) = false) : amtR L = (0, false) := by unfold amtR; rw [h]; rfl
theorem amtR_yes {s : ByteArray} (h : amtOkK s.data.toList (amtK s.data.toList) = true) : amtR s.data.toList = amtLook (s.data.toList.drop (amtK s.data.toList)) (valD s (amtK s.data.toList)) amtV := by unfold amtR; rw [h]; rfl
end Go.Proofs.YtlbpfcchaobgjaaDoor
