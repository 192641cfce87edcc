/- Values copied by the program: impl.copyOfRight, in memory of its own. -/
import Derived.Test.YtamlgjmboljcdaaGreatUTValue
import Derived.Test.YtamlgjmboljcdaaGreatU4
import Derived.Laws.AppendOwnNone
namespace Go.Proofs.YtamlgjmboljcdaaGreat
open Go.RowKit Go.BigFrame
set_option linter.unusedVariables false

theorem strs_news {w : World} {lo hi : Nat} {n : Nat} {c : UD} {ad : Addr} {cap : Nat} (ht : tyS 1 n c 0) (h : uS w lo hi 1 n c (.slice (some ad) n cap)) :
    ∃ news, news.length = n * 1 ∧ (∀ j u, news[j]? = some u → w.cell? (ad.add j) = some u) ∧ (∀ u ∈ news, u.oneCell' = true) ∧ ∀ w', oH w' c news [] := by
  have hp : ∀ f ∈ uE 0, ∀ k t, f ≠ .l k t := by intro f hf k t e; subst e; simp [uE] at hf
  rcases Nat.eq_zero_or_pos n with h0 | hpos
  · subst h0
    have hc : c = .nil := by
      have := ht.2.2.2.1
      cases c with
      | nil => rfl
      | p v r => rw [UD.len_p] at this; omega
      | l k n cs r => rw [UD.len_l] at this; omega
    subst hc
    exact ⟨[], rfl, (fun j u hj => by simp at hj), (fun u hu => by cases hu), fun w' => ⟨rfl, rfl⟩⟩
  · obtain ⟨b, off, e, _, hm⟩ := h.cells hpos
    cases e
    obtain ⟨xs, h1, h2⟩ := hm.list
    refine ⟨xs, by rw [h1.len, ht.2.2.2.1], h2, ?_, fun w' => plain_own hp ht.2.2.2.2 h1⟩
    have ht5 := ht.2.2.2.2
    clear h2 hm h
    have key : ∀ (d : UD) (ys : List Value) (i : Nat), tyU d (uE 0) i → uH w lo hi d ys → ∀ u ∈ ys, u.oneCell' = true := by
      intro d
      induction d with
      | nil => intro ys i _ h u hu; rw [show ys = [] from h] at hu; cases hu
      | p v r ih =>
        intro ys i ⟨⟨f, hf, hv⟩, h2⟩ ⟨zs, e, h⟩ u hu
        subst e
        rcases List.mem_cons.1 hu with rfl | hu
        · cases f with
          | i k => obtain ⟨z, rfl, _⟩ := hv; rfl
          | s => obtain ⟨z, rfl, _⟩ := hv; rfl
          | b => obtain ⟨z, rfl⟩ := hv; rfl
          | l k t => cases hv
        · exact ih zs (i + 1) h2 h u hu
      | l k n cs r ih1 ih2 =>
        intro ys i ⟨⟨t, hf, _⟩, _⟩ _
        exact (hp _ (List.mem_of_getElem? hf) k t rfl).elim
    exact key c xs 0 ht5 h1
theorem own2_blk {w : World} {B n : Nat} {v : Value} {e : TypeId} {size : Nat} {xs : List Value} (h : w.ownsRow B e size v n xs) : own2 (blkOf v) B w.heap.size := by
  refine ⟨?_, ublk_lt h⟩
  unfold blkOf
  split
  · simp
  · exact List.nodup_nil
theorem oS_flat {w : World} {B k n : Nat} {v : Value} {e : TypeId} {xs : List Value} {cs : UD} (hk : 0 < k) (h : w.ownsRow B e k v n xs) (ho : oH w cs xs []) : oS w k n cs v (blkOf v) := by
  refine ⟨hk, e, xs, [], ⟨h.1, ?_⟩, ho, by simp⟩
  rcases h.2 with hh | ⟨g, cap, cur, a1, a2, a3⟩
  · exact .inl hh
  · exact .inr ⟨g, cap, cur, a1, Nat.zero_le _, a3⟩
theorem Tryz.infoStrU : (Tryz.prog.info? 9).map (fun i => (i.zero, i.size, i.bytes)) = some (some (.string ByteArray.empty), 1, 16) := by kernel_rfl
end Go.Proofs.YtamlgjmboljcdaaGreat
