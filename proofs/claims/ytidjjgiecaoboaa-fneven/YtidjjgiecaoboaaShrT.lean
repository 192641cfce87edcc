/- Shares: what is divided is Total in all; who weighs nothing has nothing: plain numbers. -/
import Derived.Test.YtidjjgiecaoboaaShrD
namespace Go.Proofs.Ytidjjgiecaoboaa
open Go.RowKit
set_option linter.unusedVariables false
theorem gets_zero {L : Nat} {n : Int} {w c out : Nat → Int} (hn : 0 < n) (hw : ∀ i, 0 ≤ w i) (ho : ∀ i, i < L → 0 ≤ out i ∧ out i ≤ c i) (hs : 0 < openS L w c out) (i : Nat) (hi : i < L) (h0 : w i = 0) : getsF L n w c out i = 0 := by
  have hb := (wants_bd (L := L) (m := n) (O := openF L w c out) (w := w) (by omega) hw hs rfl i).2.2 (by unfold openF; rw [decide_eq_false_iff_not]; omega)
  have hb' : wantsF L n (openS L w c out) w (openF L w c out) i = 0 := hb
  have := ho i hi
  unfold getsF
  rw [hb', if_neg (by omega)]
def capK (w c : Nat → Int) : Nat → Int := fun i => if 0 < w i then c i else 0
theorem none_open {L : Nat} {w c out : Nat → Int} (hw : ∀ i, 0 ≤ w i) (hs : ¬ 0 < openS L w c out) (i : Nat) (hi : i < L) (hp : 0 < w i) : c i ≤ out i := by
  refine Int.not_lt.1 (fun h => ?_)
  have hs' : 0 ≤ openS L w c out := onO_nn hw
  have h1 : onO (openF L w c out) w i ≤ openS L w c out := sumTo_at L (fun j _ => by unfold onO; split <;> first | exact hw j | exact Int.le_refl _) i hi
  have h2 : onO (openF L w c out) w i = w i := by
    unfold onO openF
    rw [if_pos (by rw [decide_eq_true_eq]; exact ⟨hi, hp, h⟩)]
  omega
theorem divF_sum {L : Nat} {w c : Nat → Int} (hw : ∀ i, 0 ≤ w i) : ∀ (f : Nat) (n : Int) (out : Nat → Int), n.toNat ≤ f → 0 ≤ n → (∀ i, i < L → 0 ≤ out i ∧ out i ≤ c i) → (∀ i, i < L → w i = 0 → out i = 0) →
    sumTo (divF L w c f n out) L = (if n + sumTo out L < sumTo (capK w c) L then n + sumTo out L else sumTo (capK w c) L) ∧ ∀ i, i < L → w i = 0 → divF L w c f n out i = 0 := by
  intro f
  induction f with
  | zero =>
    intro n out hf hn ho h0
    have e : n = 0 := by omega
    have hle := sumTo_le (f := out) (g := capK w c) L (fun i hi => by
      have := ho i hi
      have := hw i
      unfold capK
      split
      · omega
      · have := h0 i hi (by omega); omega)
    refine ⟨?_, fun i hi h => h0 i hi h⟩
    show sumTo out L = _
    split <;> omega
  | succ f ih =>
    intro n out hf hn ho h0
    have hle := sumTo_le (f := out) (g := capK w c) L (fun i hi => by
      have := ho i hi
      have := hw i
      unfold capK
      split
      · omega
      · have := h0 i hi (by omega); omega)
    by_cases hg : 0 < n ∧ 0 < openS L w c out
    · rw [divF_go hg]
      obtain ⟨h1, h2, h3⟩ := gets_all hg.1 hw ho hg.2
      have hz := gets_zero hg.1 hw ho hg.2
      have := ih (n - sumTo (getsF L n w c out) L) (fun i => out i + getsF L n w c out i) (by omega) (by omega) (fun i hi => by
        have := h1 i hi
        have := ho i hi
        show 0 ≤ out i + getsF L n w c out i ∧ out i + getsF L n w c out i ≤ c i
        omega) (fun i hi hwi => by
        have := h0 i hi hwi
        have := hz i hi hwi
        show out i + getsF L n w c out i = 0
        omega)
      rw [sumTo_add] at this
      refine ⟨?_, this.2⟩
      rw [this.1, show n - sumTo (getsF L n w c out) L + (sumTo out L + sumTo (getsF L n w c out) L) = n + sumTo out L by omega]
    · rw [divF_end hg]
      refine ⟨?_, fun i hi h => h0 i hi h⟩
      by_cases hn0 : 0 < n
      · have hge := sumTo_le (f := capK w c) (g := out) L (fun i hi => by
          have := ho i hi
          unfold capK
          split
          · rename_i hp; exact none_open hw (fun h => hg ⟨hn0, h⟩) i hi hp
          · omega)
        split <;> omega
      · split <;> omega
/-- what is divided is Total in all -/
theorem divide_total {n : Int} {ws cs : List Int} (h : rightP n ws cs) : sumTo (divF ws.length (gI ws) (gI cs) n.toNat n (fun _ => 0)) ws.length = totI n ws cs := by
  unfold rightP at h
  have hw : ∀ i, 0 ≤ gI ws i := fun i => by
    by_cases hi : i < ws.length
    · exact (h.2 i hi).1.1
    · unfold gI; rw [List.getD_eq_getElem?_getD, List.getElem?_eq_none (by omega)]; exact Int.le_refl _
  have hz : ∀ k, sumTo (fun _ => 0) k = 0 := fun k => by
    induction k with
    | zero => rfl
    | succ k ih => unfold sumTo; rw [ih]; rfl
  have := (divF_sum (L := ws.length) (c := gI cs) hw n.toNat n (fun _ => 0) (Nat.le_refl _) h.1.1.1 (fun i hi => ⟨Int.le_refl _, (h.2 i hi).2.1⟩) (fun i hi _ => rfl)).1
  rw [hz, Int.add_zero] at this
  exact this
/-- one more to divide: one more in all, or as many -/
theorem tot_more (n : Int) (ws cs : List Int) : totI (n + 1) ws cs = totI n ws cs ∨ totI (n + 1) ws cs = totI n ws cs + 1 := by
  unfold totI
  split <;> split <;> omega
end Go.Proofs.Ytidjjgiecaoboaa
