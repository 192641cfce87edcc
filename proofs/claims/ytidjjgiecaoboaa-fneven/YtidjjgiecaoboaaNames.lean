/- Contracts of the two NameOk and what they call: both answer 'nameB', for every string. -/
import Derived.Test.YtidjjgiecaoboaaChecked
import Derived.WalkKit
import Derived.WalkSpells
import Derived.WalkLawsBesides
import Derived.Lib.OthersKept
import Derived.BigQuiet
import Derived.Deep.QuietTactic
import Derived.Lib.Strings
namespace Go.Proofs.Ytidjjgiecaoboaa
open Go.RowKit

theorem hide {p : Prop} (h : p) : Hid p := h
def inB (x a b : Int) : Bool := decide (a ≤ x ∧ x ≤ b)
def nbI (x : Int) : Bool := decide ((97 ≤ x ∧ x ≤ 122) ∨ (48 ≤ x ∧ x ≤ 57) ∨ x = 45)
/-- the byte at a place, as a number -/
def byt (s : ByteArray) (i : Nat) : Int := ((s.data.toList[i]?.getD 0).toNat : Int)
def okTo (s : ByteArray) (k : Nat) : Prop := ∀ j, j < k → nbI (byt s j) = true
def nameB (s : ByteArray) : Bool := decide ((∀ j, j < s.size → nbI (byt s j) = true) ∧ 1 ≤ s.size ∧ s.size ≤ 20 ∧ byt s 0 ≠ 45 ∧ byt s (s.size - 1) ≠ 45)

theorem byt_get (s : ByteArray) (i : Nat) (h : i < s.size) : byt s i = ((s[i]'h).toNat : Int) := by
  unfold byt
  have h' : i < s.data.toList.length := by simpa using h
  rw [List.getElem?_eq_getElem h']
  rfl
theorem byt_bd (s : ByteArray) (i : Nat) : 0 ≤ byt s i ∧ byt s i < 256 := by
  unfold byt
  have := (s.data.toList[i]?.getD 0).toNat_lt
  omega
theorem okTo_succ {s : ByteArray} {k : Nat} (h : okTo s k) (hk : nbI (byt s k) = true) : okTo s (k + 1) := by
  intro j hj
  by_cases e : j = k
  · rw [e]; exact hk
  · exact h j (by omega)
theorem nameB_bad {s : ByteArray} {k : Nat} (hk : k < s.size) (h : nbI (byt s k) = false) : nameB s = false := by
  unfold nameB
  rw [decide_eq_false_iff_not]
  rintro ⟨h1, -⟩
  have := h1 k hk
  rw [h] at this
  cases this

theorem ret_bool {a b : Bool} (h : a = b) : Ending.returned (.bool a) = .returned (.bool b) := by rw [h]

theorem l1In_any (x a b : Int) (w : World) : Calls Try.prog 34 #[.int .i64 x, .int .i64 a, .int .i64 b] w fun e w' => e = .returned (.bool (inB x a b)) ∧ w' = w := by
  go_enter Try.func34, Try.ntmps34
  go_wp2
  all_goals go_ret
  all_goals exact ⟨ret_bool (by rw [Bool.eq_iff_iff]; simp [inB]; omega), rfl⟩

theorem cls (c : Int) : (inB c 97 122 = true ∧ Hid (nbI c = true)) ∨ (inB c 97 122 = false ∧ inB c 48 57 = true ∧ Hid (nbI c = true)) ∨
    (inB c 97 122 = false ∧ inB c 48 57 = false ∧ (c != 45) = false ∧ Hid (nbI c = true)) ∨ (inB c 97 122 = false ∧ inB c 48 57 = false ∧ (c != 45) = true ∧ Hid (nbI c = false)) := by
  unfold Hid inB nbI
  simp only [decide_eq_true_eq, decide_eq_false_iff_not, bne_iff_ne, bne_eq_false_iff_eq]
  omega
/-- the last row of both, the bytes being right -/
theorem nameB_end {s : ByteArray} (hok : okTo s s.size) : (inB s.size 1 20 = false ∧ Hid (nameB s = false)) ∨
    ∃ (h0 : 0 < s.size) (h1 : s.size - 1 < s.size), inB s.size 1 20 = true ∧ s.size ≤ 20 ∧ ((((s[0]'h0).toNat : Int) != 45) = false ∧ Hid (nameB s = false) ∨ (((s[0]'h0).toNat : Int) != 45) = true ∧
      ((((s[s.size - 1]'h1).toNat : Int) != 45) = false ∧ Hid (nameB s = false) ∨ (((s[s.size - 1]'h1).toNat : Int) != 45) = true ∧ Hid (nameB s = true))) := by
  by_cases hz : inB s.size 1 20 = true
  · right
    have hz' := hz
    unfold inB at hz'
    simp only [decide_eq_true_eq] at hz'
    have h0 : 0 < s.size := by omega
    have h1 : s.size - 1 < s.size := by omega
    refine ⟨h0, h1, hz, by omega, ?_⟩
    have e0 := byt_get s 0 h0
    have e1 := byt_get s (s.size - 1) h1
    simp only [← e0, ← e1, Hid, nameB, bne_iff_ne, bne_eq_false_iff_eq, decide_eq_true_eq, decide_eq_false_iff_not, ne_eq]
    by_cases a : byt s 0 = 45
    · left; exact ⟨a, fun h => h.2.2.2.1 a⟩
    · right
      refine ⟨a, ?_⟩
      by_cases b : byt s (s.size - 1) = 45
      · left; exact ⟨b, fun h => h.2.2.2.2 b⟩
      · right; exact ⟨b, hok, by omega, by omega, a, b⟩
  · left
    have hz' : inB s.size 1 20 = false := by simpa using hz
    refine ⟨hz', ?_⟩
    unfold inB at hz
    simp only [decide_eq_true_eq] at hz
    unfold Hid nameB
    rw [decide_eq_false_iff_not]
    rintro ⟨-, a, b, -⟩
    omega

end Go.Proofs.Ytidjjgiecaoboaa
