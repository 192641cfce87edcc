/- Right values and their sizes, as plain functions. -/
import Derived.Test.YtdnodaoeflbfkaaValT
import Derived.Test.YtdnodaoeflbfkaaSelV
namespace Go.Proofs.Ytdnodaoeflbfkaa
open Go.RowKit
set_option linter.unusedVariables false

/-- what kids have in all, added to n; 0 where one has nothing -/
def addL {α : Type} (f : α → Nat) : List α → Nat → Nat
  | [], n => n
  | x :: r, n => if f x = 0 then 0 else addL f r (n + f x)
theorem addL_ge {α : Type} {f : α → Nat} : ∀ (l : List α) (n : Nat), addL f l n = 0 ∨ n + l.length ≤ addL f l n
  | [], n => .inr (Nat.le_refl _)
  | x :: r, n => by
    unfold addL
    split
    · exact .inl rfl
    · rename_i h
      rcases addL_ge (f := f) r (n + f x) with h' | h'
      · exact .inl h'
      · right; simp only [List.length_cons]; omega
theorem addL_drop {α : Type} (f : α → Nat) (ts : List α) (k : Nat) (h : k < ts.length) (n : Nat) : addL f (ts.drop k) n = if f (ts[k]'h) = 0 then 0 else addL f (ts.drop (k + 1)) (n + f (ts[k]'h)) := by
  rw [List.drop_eq_getElem_cons h]; rfl
def ascB (x : Int) : Bool := decide (32 ≤ x ∧ x ≤ 126)
def txTo (s : ByteArray) (k : Nat) : Prop := ∀ j, j < k → ascB (byt s j) = true
def txB (s : ByteArray) : Bool := decide ((∀ j, j < s.size → ascB (byt s j) = true) ∧ s.size ≤ 100)
theorem txTo_succ {s : ByteArray} {k : Nat} (h : txTo s k) (hk : ascB (byt s k) = true) : txTo s (k + 1) := by
  intro j hj
  by_cases e : j = k
  · rw [e]; exact hk
  · exact h j (by omega)
theorem txB_bad {s : ByteArray} {k : Nat} (hk : k < s.size) (h : ascB (byt s k) = false) : txB s = false := by
  unfold txB; rw [decide_eq_false_iff_not]; rintro ⟨h1, -⟩
  have := h1 k hk; rw [h] at this; cases this
theorem txB_end {s : ByteArray} (h : txTo s s.size) : txB s = decide (s.size ≤ 100) := by
  unfold txB; rw [decide_eq_decide]; exact ⟨fun g => g.2, fun g => ⟨h, g⟩⟩
theorem txB_long {s : ByteArray} (h : 100 < s.size) : txB s = false := by unfold txB; rw [decide_eq_false_iff_not]; omega
/-- all but the kids -/
def hdB (kd : Int) (tx : ByteArray) (nm : Int) (ks : List ByteArray) (m : Nat) : Bool :=
  if kd = 1 then txB tx && decide (nm = 0) && decide (ks.length = 0) && decide (m = 0)
  else if kd = 2 then decide (tx.size = 0) && decide (ks.length = 0) && decide (m = 0)
  else if kd = 3 then decide (tx.size = 0) && decide (nm = 0 ∨ nm = 1) && decide (ks.length = 0) && decide (m = 0)
  else if kd = 4 then decide (tx.size = 0) && decide (nm = 0) && decide (ks.length = 0)
  else if kd = 5 then decide (tx.size = 0) && decide (nm = 0) && decide (ks.length = m) && valsB ks
  else false
/-- a value's true size, if it is right and not deeper than d; else 0 -/
def tsz : (n : Nat) → Nat → VT n → Nat
  | 0, _, _ => 0
  | _ + 1, 0, _ => 0
  | n + 1, d + 1, v => if hdB v.hd.kd v.hd.tx v.hd.nm v.hd.ks v.kids.length then addL (tsz n d) v.kids 1 else 0
/-- the same, 0 where it is above m -/
def upTo (s m : Nat) : Nat := if s ≤ m then s else 0
theorem tsz_pos (n d : Nat) (v : VT (n + 1)) : tsz (n + 1) (d + 1) v = if hdB v.hd.kd v.hd.tx v.hd.nm v.hd.ks v.kids.length then addL (tsz n d) v.kids 1 else 0 := rfl
end Go.Proofs.Ytdnodaoeflbfkaa
