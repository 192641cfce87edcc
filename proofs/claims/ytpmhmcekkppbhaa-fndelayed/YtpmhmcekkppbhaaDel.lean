/- The library's Delete at items and at texts. -/
import Derived.Test.YtpmhmcekkppbhaaDelT
import Derived.Test.YtpmhmcekkppbhaaQfC
import Derived.Deep.RegionLaw
import Derived.Deep.LoopGhost
import Derived.Shelf.RegionOpenPlain
namespace Go.Proofs.Ytpmhmcekkppbhaa
open Go.RowKit Go.BigFrame
set_option linter.unusedVariables false
theorem zeroI_run (w : World) : (zeroValue 75).run Try.prog w = .ok (.agg #[.string ⟨#[]⟩, .int .i64 0, .int .i64 0]) w := by kernel_rfl
set_option maxRecDepth 100000 in
set_option maxHeartbeats 1600000 in
theorem delI_any (R : List (List Value)) (i j base : Nat) (v : Value) (w : World) (h : ownR w base 75 3 v R) (h1 : oneR R) (hij : i < j) (hj : j ≤ R.length) (hR : R.length ≤ 10000000) :
    Calls Try.prog 138 #[v, .int .i64 i, .int .i64 j] w fun e w' => ∃ v', e = .returned v' ∧ ownR w' base 75 3 v' (R.take i ++ R.drop j) ∧ v'.ownBlock = v.ownBlock ∧ OutS (blkOf v) w w' := by
  obtain ⟨g, cap, rfl, hbg, hgl, hcap, hblk, hcell, hfz⟩ := h.opened (by omega)
  obtain ⟨n, hn⟩ : ∃ n, n = R.length := ⟨_, rfl⟩
  rw [← hn] at h hj hR hcap hblk ⊢
  obtain ⟨ht, i0, z0, hi0, hz0, hs0, hzs, hb0⟩ := (elI : elT Try.prog 64 75 3)
  obtain ⟨cur, hcur, hcs⟩ : ∃ cur : Array Value, w.heap[g]? = some (.cells cur 75 (0, 0)) ∧ cur.size = cap * 3 := by
    rcases h.2.2 with ⟨e', _⟩ | ⟨g', cap', cur, e', _, hh, _, _, hcs, _⟩
    · cases e'
    · cases e'; exact ⟨cur, hh, hcs⟩
  have hsome : ∀ q, q < cap * 3 → (w.cell? ⟨g, q, none⟩).isSome = true := fun q hq => by
    rw [cell_of_row w g q cur 75 (0, 0) hcur]
    have : q < cur.size := by omega
    rw [Array.getElem?_eq_getElem this]; rfl
  obtain ⟨news, hnews⟩ : ∃ news, news = (R.drop j).flatten := ⟨_, rfl⟩
  have hnl : news.length = (n - j) * 3 := by rw [hnews, (h.1.drop j).len, List.length_drop, hn]
  obtain ⟨A, hA, hsrc⟩ : ∃ A : Addr, (if cap = j then (some (⟨g, 0, none⟩ : Addr)) else some ⟨g, j * 3, none⟩) = some A ∧ Hid (∀ t u, news[t]? = some u → w.drew.cell? (A.add t) = some u) := by
    by_cases hc : cap = j
    · refine ⟨⟨g, 0, none⟩, by simp [hc], fun t u hu => ?_⟩
      have h0 : news.length = 0 := by rw [hnl]; have : n - j = 0 := by omega
                                      rw [this, Nat.zero_mul]
      rw [List.length_eq_zero_iff.1 h0] at hu
      simp at hu
    · refine ⟨⟨g, j * 3, none⟩, by simp [hc], fun t u hu => ?_⟩
      have h2 : R.flatten[j * 3 + t]? = some u := by
        rw [hnews, flat_drop R j h.1, List.getElem?_drop] at hu
        exact hu
      have hlt := (List.getElem?_eq_some_iff.1 h2).1
      rw [h.1.len, ← hn] at hlt
      rw [Go.WideShapes.add_plain]
      show w.cell? _ = _
      have hown : w.ownsRow base 75 3 (.slice (some ⟨g, 0, none⟩) n cap) n R.flatten := by have := h.2; rwa [← hn] at this
      have hh := hown.cellAt (j * 3 + t) hlt
      rw [h2] at hh
      rw [← hh]
  have s1 : Hid (news.length = (n - j) * 3) := hnl
  have s2 : Hid (∀ u ∈ news, u.oneCell' = true) := by rw [hnews]; exact fun u hu => h1.flat u (by
    rw [flat_drop R j h.1] at hu
    exact List.mem_of_mem_drop hu)
  have s3 : Hid (∀ t, t < news.length → (w.drew.cell? ⟨g, 0 + i * 3 + t, none⟩).isSome = true ∧ w.drew.frozen? ⟨g, 0 + i * 3 + t, none⟩ = false) := fun t ht => ⟨hsome _ (by rw [hnl] at ht; omega), hfz _⟩
  obtain ⟨W1, hW1⟩ : ∃ W1, W1 = w.drew.setCells g (0 + i * 3) news := ⟨_, rfl⟩
  obtain ⟨c1, q1, q2⟩ := heap_setCells_same g 75 news (0 + i * 3) w.drew cur hcur (by rw [hnl]; omega)
  have hs1 : c1.size = cap * 3 := by
    have := congrArg List.length q2
    rw [List.length_append, List.length_append, List.length_take, List.length_drop, Array.length_toList, Array.length_toList] at this
    omega
  rw [← hW1] at q1
  obtain ⟨vs, hvl, hcl⟩ : ∃ vs : List Value, vs.length = (n - (i + (n - j))) * 3 ∧ ∀ ty, (Builtin.clear_ #[64] ty #[.slice (some ⟨g, (i + (n - j)) * 3, none⟩) (n - (i + (n - j))) (cap - (i + (n - j)))]).run Try.prog W1 = .ok (.tuple #[]) (W1.setCells g ((i + (n - j)) * 3) vs) := by
    obtain ⟨vs, h3, h4⟩ := run_clear_k (P := Try.prog) W1 64 75 0 (.agg #[.string ⟨#[]⟩, .int .i64 0, .int .i64 0]) [.string ⟨#[]⟩, .int .i64 0, .int .i64 0] ht zeroI_run (by rfl) (by intro u hu; simp at hu; rcases hu with rfl | rfl | rfl <;> rfl) g ((i + (n - j)) * 3) (n - (i + (n - j))) (cap - (i + (n - j))) (by omega) (fun q hq => by
      rw [cell_of_row W1 g _ c1 75 (0, 0) q1]
      have hq' : q < (n - (i + (n - j))) * 3 := hq
      have : (i + (n - j)) * 3 + q < c1.size := by omega
      rw [Array.getElem?_eq_getElem this]; rfl) (fun q hq => frozen_of_row W1 g _ c1 75 q1)
    exact ⟨vs, h3, fun ty => h4⟩
  have hW : Hid (W1 = w.drew.setCells g (0 + i * 3) news) := hW1
  have hfin : Hid (ownR (W1.setCells g ((i + (n - j)) * 3) vs) base 75 3 (.slice (some ⟨g, 0, none⟩) (i + (n - j)) cap) (R.take i ++ R.drop j)) := by
    show ownR _ _ _ _ _ _
    rw [hW1, hnews, Nat.zero_add]
    exact ownR.struck (w := w.drew) h hn (by omega) hj rfl hvl
  have hout : Hid (OutS [g] w (W1.setCells g ((i + (n - j)) * 3) vs)) := by
    show OutS _ _ _
    rw [hW1]
    exact (OutS.of_below (Below.drew (Below.refl _ _))).trans (OutS.trans (OutS.setCells news _ w.drew) (OutS.setCells vs _ _))
  have hij2 := hij
  have mixed : Try.prog.follows .mixedOrders = true := by kernel_rfl
  have hic : i ≤ cap := by omega
  have hjc : j ≤ cap := by omega
  have hne : ¬ ((i : Int) = (j : Int)) := by omega
  have hjn : j ≤ n := hj
  have hlen : i + (n - j) ≤ n := by omega
  clear hW1 hnews hnl hcs hcur hsome q1 q2 hs1 h h1 hcell hfz hvl hn
  go_enter Try.func138, Try.ntmps138
  go_wp2_with fail
  go_region_law_o (refine step_append_room rfl (.tmp 22) (.tmp 25) 64 rfl 75 i0 3 ht hi0 hs0 g 0 i cap (by simp [Act.eval, Act.put]) A (n - j) (cap - j) news (by simp [Act.eval, Act.put]) s1.out hsrc.out s2.out (by omega) s3.out ?_; rw [← hW.out])
  go_wp2
  go_ret
  exact ⟨_, rfl, hfin.out, rfl, by rw [hblk]; exact hout.out⟩
theorem zeroS_run (w : World) : (zeroValue 9).run Try.prog w = .ok (.string ⟨#[]⟩) w := by kernel_rfl
set_option maxRecDepth 100000 in
set_option maxHeartbeats 1600000 in
theorem delS_any (R : List (List Value)) (i j base : Nat) (v : Value) (w : World) (h : ownR w base 9 1 v R) (h1 : oneR R) (hij : i < j) (hj : j ≤ R.length) (hR : R.length ≤ 10000000) :
    Calls Try.prog 156 #[v, .int .i64 i, .int .i64 j] w fun e w' => ∃ v', e = .returned v' ∧ ownR w' base 9 1 v' (R.take i ++ R.drop j) ∧ v'.ownBlock = v.ownBlock ∧ OutS (blkOf v) w w' := by
  obtain ⟨g, cap, rfl, hbg, hgl, hcap, hblk, hcell, hfz⟩ := h.opened (by omega)
  obtain ⟨n, hn⟩ : ∃ n, n = R.length := ⟨_, rfl⟩
  rw [← hn] at h hj hR hcap hblk ⊢
  obtain ⟨ht, i0, z0, hi0, hz0, hs0, hzs, hb0⟩ := (elS : elT Try.prog 32 9 1)
  obtain ⟨cur, hcur, hcs⟩ : ∃ cur : Array Value, w.heap[g]? = some (.cells cur 9 (0, 0)) ∧ cur.size = cap * 1 := by
    rcases h.2.2 with ⟨e', _⟩ | ⟨g', cap', cur, e', _, hh, _, _, hcs, _⟩
    · cases e'
    · cases e'; exact ⟨cur, hh, hcs⟩
  have hsome : ∀ q, q < cap * 1 → (w.cell? ⟨g, q, none⟩).isSome = true := fun q hq => by
    rw [cell_of_row w g q cur 9 (0, 0) hcur]
    have : q < cur.size := by omega
    rw [Array.getElem?_eq_getElem this]; rfl
  obtain ⟨news, hnews⟩ : ∃ news, news = (R.drop j).flatten := ⟨_, rfl⟩
  have hnl : news.length = (n - j) * 1 := by rw [hnews, (h.1.drop j).len, List.length_drop, hn]
  obtain ⟨A, hA, hsrc⟩ : ∃ A : Addr, (if cap = j then (some (⟨g, 0, none⟩ : Addr)) else some ⟨g, j, none⟩) = some A ∧ Hid (∀ t u, news[t]? = some u → w.drew.cell? (A.add t) = some u) := by
    by_cases hc : cap = j
    · refine ⟨⟨g, 0, none⟩, by simp [hc], fun t u hu => ?_⟩
      have h0 : news.length = 0 := by rw [hnl]; have : n - j = 0 := by omega
                                      rw [this, Nat.zero_mul]
      rw [List.length_eq_zero_iff.1 h0] at hu
      simp at hu
    · refine ⟨⟨g, j, none⟩, by simp [hc], fun t u hu => ?_⟩
      have h2 : R.flatten[j * 1 + t]? = some u := by
        rw [hnews, flat_drop R j h.1, List.getElem?_drop] at hu
        exact hu
      have hlt := (List.getElem?_eq_some_iff.1 h2).1
      rw [h.1.len, ← hn] at hlt
      rw [Go.WideShapes.add_plain]
      show w.cell? _ = _
      have hown : w.ownsRow base 9 1 (.slice (some ⟨g, 0, none⟩) n cap) n R.flatten := by have := h.2; rwa [← hn] at this
      have hh := hown.cellAt (j * 1 + t) hlt
      rw [h2] at hh
      rw [← hh]; congr 2; omega
  have s1 : Hid (news.length = (n - j) * 1) := hnl
  have s2 : Hid (∀ u ∈ news, u.oneCell' = true) := by rw [hnews]; exact fun u hu => h1.flat u (by
    rw [flat_drop R j h.1] at hu
    exact List.mem_of_mem_drop hu)
  have s3 : Hid (∀ t, t < news.length → (w.drew.cell? ⟨g, 0 + i * 1 + t, none⟩).isSome = true ∧ w.drew.frozen? ⟨g, 0 + i * 1 + t, none⟩ = false) := fun t ht => ⟨hsome _ (by rw [hnl] at ht; omega), hfz _⟩
  obtain ⟨W1, hW1⟩ : ∃ W1, W1 = w.drew.setCells g (0 + i * 1) news := ⟨_, rfl⟩
  obtain ⟨c1, q1, q2⟩ := heap_setCells_same g 9 news (0 + i * 1) w.drew cur hcur (by rw [hnl]; omega)
  have hs1 : c1.size = cap * 1 := by
    have := congrArg List.length q2
    rw [List.length_append, List.length_append, List.length_take, List.length_drop, Array.length_toList, Array.length_toList] at this
    omega
  rw [← hW1] at q1
  obtain ⟨vs, hvl, hcl⟩ : ∃ vs : List Value, vs.length = (n - (i + (n - j))) * 1 ∧ ∀ ty, (Builtin.clear_ #[32] ty #[.slice (some ⟨g, i + (n - j), none⟩) (n - (i + (n - j))) (cap - (i + (n - j)))]).run Try.prog W1 = .ok (.tuple #[]) (W1.setCells g (i + (n - j)) vs) := by
    obtain ⟨vs, h3, h4⟩ := run_clear_k (P := Try.prog) W1 32 9 0 (.string ⟨#[]⟩) [.string ⟨#[]⟩] ht zeroS_run (by rfl) (by intro u hu; simp at hu; rw [hu]; rfl) g (i + (n - j)) (n - (i + (n - j))) (cap - (i + (n - j))) (by omega) (fun q hq => by
      rw [cell_of_row W1 g _ c1 9 (0, 0) q1]
      have hq' : q < (n - (i + (n - j))) * 1 := hq
      have : i + (n - j) + q < c1.size := by omega
      rw [Array.getElem?_eq_getElem this]; rfl) (fun q hq => frozen_of_row W1 g _ c1 9 q1)
    exact ⟨vs, h3, fun ty => h4⟩
  have hW : Hid (W1 = w.drew.setCells g (0 + i * 1) news) := hW1
  have hfin : Hid (ownR (W1.setCells g (i + (n - j)) vs) base 9 1 (.slice (some ⟨g, 0, none⟩) (i + (n - j)) cap) (R.take i ++ R.drop j)) := by
    show ownR _ _ _ _ _ _
    rw [hW1, hnews, Nat.zero_add]
    have hh := ownR.struck (w := w.drew) h hn (by omega) hj rfl hvl
    simpa only [Nat.mul_one] using hh
  have hout : Hid (OutS [g] w (W1.setCells g (i + (n - j)) vs)) := by
    show OutS _ _ _
    rw [hW1]
    exact (OutS.of_below (Below.drew (Below.refl _ _))).trans (OutS.trans (OutS.setCells news _ w.drew) (OutS.setCells vs _ _))
  have hij2 := hij
  have mixed : Try.prog.follows .mixedOrders = true := by kernel_rfl
  have hic : i ≤ cap := by omega
  have hjc : j ≤ cap := by omega
  have hne : ¬ ((i : Int) = (j : Int)) := by omega
  have hjn : j ≤ n := hj
  have hlen : i + (n - j) ≤ n := by omega
  clear hW1 hnews hnl hcs hcur hsome q1 q2 hs1 h h1 hcell hfz hvl hn
  go_enter Try.func156, Try.ntmps156
  go_wp2_with fail
  go_region_law_o (refine step_append_room rfl (.tmp 22) (.tmp 25) 32 rfl 9 i0 1 ht hi0 hs0 g 0 i cap (by simp [Act.eval, Act.put]) A (n - j) (cap - j) news (by simp [Act.eval, Act.put]) s1.out hsrc.out s2.out (by omega) s3.out ?_; rw [← hW.out])
  go_wp2
  go_ret
  exact ⟨_, rfl, hfin.out, rfl, by rw [hblk]; exact hout.out⟩
end Go.Proofs.Ytpmhmcekkppbhaa
