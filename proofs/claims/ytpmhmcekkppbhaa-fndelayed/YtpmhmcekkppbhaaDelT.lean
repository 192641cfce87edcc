/- Rows of things of k cells: what is left of a slice when the middle is struck (slices.Delete). -/
import Derived.Test.YtpmhmcekkppbhaaGR2
namespace Go.Proofs.Ytpmhmcekkppbhaa
open Go.RowKit
set_option linter.unusedVariables false

theorem ownR.struck {w : World} {base : Nat} {e : TypeId} {k g n cap i j m : Nat} {R : List (List Value)} {vs : List Value} (h : ownR w base e k (.slice (some ⟨g, 0, none⟩) n cap) R) (hn : n = R.length) (hij : i ≤ j) (hj : j ≤ n) (hm : m = i + (n - j)) (hv : vs.length = (n - m) * k) :
    ownR ((w.setCells g (i * k) (R.drop j).flatten).setCells g (m * k) vs) base e k (.slice (some ⟨g, 0, none⟩) m cap) (R.take i ++ R.drop j) := by
  subst hn
  obtain ⟨h1, h2⟩ := h
  have hl := h1.len
  rcases h2.2 with ⟨e', _⟩ | ⟨g', cap', cur, e', hb, hh, hnc, hcm, hcs, htk⟩
  · cases e'
  · cases e'
    have hld : (R.drop j).flatten.length = (R.length - j) * k := by rw [(h1.drop j).len, List.length_drop]
    have hik : i * k + (R.length - j) * k = m * k := by rw [hm, Nat.add_mul]
    have hmn : m * k + (R.length - m) * k = R.length * k := by rw [← Nat.add_mul]; congr 1; omega
    have hnk : R.length * k ≤ cur.size := by rw [hcs]; exact Nat.mul_le_mul_right k hnc
    obtain ⟨c1, q1, q2⟩ := heap_setCells_same g e (R.drop j).flatten (i * k) w cur hh (by omega)
    have hs1 : c1.size = cur.size := by
      have := congrArg List.length q2
      rw [List.length_append, List.length_append, List.length_take, List.length_drop, Array.length_toList, Array.length_toList] at this
      omega
    obtain ⟨c2, r1, r2⟩ := heap_setCells_same g e vs (m * k) _ c1 q1 (by omega)
    have hs2 : c2.size = cur.size := by
      have := congrArg List.length r2
      rw [List.length_append, List.length_append, List.length_take, List.length_drop, Array.length_toList, Array.length_toList] at this
      omega
    have hlen : (R.take i ++ R.drop j).length = m := by rw [List.length_append, List.length_take, List.length_drop]; omega
    refine ⟨(h1.take i).app (h1.drop j), ?_⟩
    rw [hlen]
    refine ⟨by rw [((h1.take i).app (h1.drop j)).len, hlen], .inr ⟨g, cap, c2, rfl, hb, r1, by omega, hcm, by rw [hs2, hcs], ?_⟩⟩
    rw [r2, q2]
    have t1 : (cur.toList.take (i * k)).length = i * k := by rw [List.length_take, Array.length_toList]; omega
    rw [List.append_assoc, List.take_append_of_le_length (by simp only [List.length_append, List.length_take, List.length_drop, Array.length_toList]; omega), List.take_take, Nat.min_self]
    rw [List.take_left' (by rw [List.length_append, t1, hld, hik]), List.flatten_append, flat_take R i h1, ← htk, List.take_take, Nat.min_eq_left (Nat.mul_le_mul_right k (by omega))]
end Go.Proofs.Ytpmhmcekkppbhaa
