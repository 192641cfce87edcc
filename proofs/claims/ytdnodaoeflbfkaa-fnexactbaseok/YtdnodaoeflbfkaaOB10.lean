/- Numbers sorted and compacted are as many as before just if no two are alike. -/
import Derived.Test.YtdnodaoeflbfkaaOB9
import Derived.Lib.SlicesCompact
namespace Go.Proofs.Ytdnodaoeflbfkaa
open Go.Lib
set_option linter.unusedVariables false

theorem compactUpTo_le (d : Array Int) : ∀ m, (compactUpTo d m).length ≤ m
  | 0 => by simp [compactUpTo]
  | m + 1 => by
    rw [compactUpTo_succ, List.length_append]
    have := compactUpTo_le d m
    split <;> simp <;> omega
theorem compactUpTo_eq (d : Array Int) : ∀ m, (compactUpTo d m).length = m ↔ ∀ j, j < m → keeps d j = true
  | 0 => by simp [compactUpTo]
  | m + 1 => by
    rw [compactUpTo_succ, List.length_append]
    have hle := compactUpTo_le d m
    have ih := compactUpTo_eq d m
    constructor
    · intro h
      have hk : keeps d m = true := by
        cases hk : keeps d m with
        | true => rfl
        | false => rw [hk] at h; simp at h; omega
      rw [hk] at h
      simp at h
      intro j hj
      by_cases e : j = m
      · rw [e]; exact hk
      · exact ih.1 h j (by omega)
    · intro h
      have h1 := ih.2 (fun j hj => h j (by omega))
      rw [h m (by omega), h1]
      simp
theorem keeps_iff (l : List Int) {j : Nat} (hj : j < l.length) : keeps l.toArray j = true ↔ (0 < j → l[j - 1]! ≠ l[j]!) := by
  unfold keeps
  cases j with
  | zero => simp
  | succ j => simp; exact ⟨fun h e => h e.symm, fun h e => h e.symm⟩
theorem sorted_nodup : ∀ (l : List Int), l.Pairwise (· ≤ ·) → ((∀ j, j < l.length → 0 < j → l[j - 1]! ≠ l[j]!) ↔ l.Nodup)
  | [], _ => by simp
  | [x], _ => by simp
  | x :: y :: r, h => by
    obtain ⟨h1, h2⟩ := List.pairwise_cons.1 h
    have ih := sorted_nodup (y :: r) h2
    constructor
    · intro hk
      have hn : (y :: r).Nodup := ih.1 (fun j hj h0 => by
        have := hk (j + 1) (by simp at hj ⊢; omega) (by omega)
        obtain ⟨i, rfl⟩ : ∃ i, j = i + 1 := ⟨j - 1, by omega⟩
        simpa using this)
      refine List.nodup_cons.2 ⟨fun hx => ?_, hn⟩
      have h01 := hk 1 (by simp) (by omega)
      have hxy : x ≠ y := by simpa using h01
      have hyx := h1 y (by simp)
      have hle : y ≤ x := by
        rcases List.mem_cons.1 hx with e | hm
        · exact (hxy e).elim
        · exact (List.pairwise_cons.1 h2).1 x hm
      exact hxy (by omega)
    · intro hn j hj h0
      obtain ⟨hx, hn2⟩ := List.nodup_cons.1 hn
      cases j with
      | zero => omega
      | succ j =>
        cases j with
        | zero => simp; exact fun e => hx (by simp [e])
        | succ j =>
          have := ih.2 hn2 (j + 1) (by simp at hj ⊢; omega) (by omega)
          simpa using this
theorem compact_sorted (zs : List Int) : (compact (zs.mergeSort fun x y => decide (x ≤ y))).length = zs.length ↔ zs.Nodup := by
  have hl : (zs.mergeSort fun x y => decide (x ≤ y)).length = zs.length := List.length_mergeSort zs
  have hp : (zs.mergeSort fun x y => decide (x ≤ y)).Perm zs := List.mergeSort_perm zs _
  have hs : (zs.mergeSort fun x y => decide (x ≤ y)).Pairwise (· ≤ ·) := by
    have := List.pairwise_mergeSort (le := fun x y : Int => decide (x ≤ y)) (by intro a b c h1 h2; simp at *; omega) (by intro a b; simp; omega) zs
    exact this.imp (fun h => by simpa using h)
  generalize (zs.mergeSort fun x y => decide (x ≤ y)) = l at *
  rw [← hl, ← hp.nodup_iff, ← sorted_nodup l hs]
  unfold compact
  rw [compactUpTo_eq]
  exact ⟨fun h j hj h0 => (keeps_iff l hj).1 (h j hj) h0, fun h j hj => (keeps_iff l hj).2 (fun h0 => h j hj h0)⟩
end Go.Proofs.Ytdnodaoeflbfkaa
