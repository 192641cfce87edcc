/- impl.parseTermIn, impl.parseTerm. -/
import Derived.Test.YtbadjopaocindaaDoorReadS
import Derived.Test.YtbadjopaocindaaDoorShelfD
namespace Go.Proofs.YtbadjopaocindaaDoor
open Go.RowKit Go.BigFrame
set_option linter.unusedVariables false

theorem cut_has {p t : List UInt8} (h : hasI p t = true) : Lib.cut p t = (p.take (cutI p t), p.drop (cutI p t + t.length), true) := by
  unfold hasI at h; rw [decide_eq_true_eq] at h
  unfold Lib.cut cutI; rw [if_pos h]
theorem cut_hasnt {p t : List UInt8} (h : hasI p t = false) : Lib.cut p t = (p, [], false) := by
  unfold hasI at h; rw [decide_eq_false_iff_not] at h
  unfold Lib.cut; rw [if_neg h]
theorem shut_suffix (r : List UInt8) : Lib.hasSuffix r [41] = shutB r := by
  unfold Lib.hasSuffix shutB
  rw [Bool.eq_iff_iff, decide_eq_true_eq, List.isSuffixOf_iff_suffix]
  constructor
  · rintro ⟨t, rfl⟩; rw [List.getLast?_concat]
  · intro h
    obtain ⟨ys, rfl⟩ := List.getLast?_eq_some_iff.1 h
    exact ⟨ys, rfl⟩
theorem trim_shut {r : List UInt8} (h : shutB r = true) : Lib.trimSuffix r [41] = r.dropLast := by
  unfold Lib.trimSuffix
  rw [shut_suffix, h, if_pos rfl, List.dropLast_eq_take]; rfl
theorem map_ba' {xs : List ByteArray} {ys : List (List UInt8)} (h : xs.map (·.data.toList) = ys) : xs = ys.map ba := by
  subst h
  rw [List.map_map]
  symm
  conv => rhs; rw [← List.map_id xs]
  apply List.map_congr_left
  intro x _
  exact bs_ext' rfl
theorem splitB_in (l : List UInt8) : Lib.splitB ⟨#[32]⟩ 0 (min 7 ((ba l).size + 1) - 1) (ba l) = (Lib.splitK [32] 0 (min 7 (l.length + 1) - 1) l).map ba := map_ba' (Lib.splitB_data _ _ _ _)
theorem own_cells {w : World} {B N : Nat} {xs : List ByteArray} (hx : xs.length ≤ N) (hN : N ≤ maxLen) (hB : B ≤ w.heap.size) : (w.alloc (.cells (Lib.cellsOf xs N) 9)).ownsRow B 9 1 (.slice (some ⟨w.heap.size, 0, none⟩) xs.length N) xs.length (strVs xs) := by
  refine ⟨by rw [strVs_length]; omega, .inr ⟨w.heap.size, N, Lib.cellsOf xs N, rfl, hB, ?_, hx, hN, ?_, ?_⟩⟩
  · show (w.heap.push _)[w.heap.size]? = _
    rw [Array.getElem?_push, if_pos rfl]
  · rw [Lib.cellsOf_size hx, Nat.mul_one]
  · apply List.ext_getElem?
    intro k
    rw [Nat.mul_one, List.getElem?_take]
    by_cases hk : k < xs.length
    · rw [if_pos hk, strVs_get hk]
      simp [Lib.cellsOf, List.getElem?_append, hk]
    · rw [if_neg hk, List.getElem?_eq_none (by rw [strVs_length]; omega)]

theorem splitIn_any (l : List UInt8) (m : Int) (wx : World) (hs : l.length ≤ 1048576) (hm : wx.cell? ⟨0, 0, none⟩ = some (.int .i64 m)) {W0 : World} (hb : Below W0.heap.size W0 wx) :
    Calls Tryd.prog 39 #[.string (ba l), .string ⟨#[32]⟩, .int .i64 7] wx fun e w' => ∃ v, e = .returned v ∧ Hid (w'.ownsRow W0.heap.size 9 1 v ((Lib.splitK [32] 0 (min 7 (l.length + 1) - 1) l).map ba).length (strVs ((Lib.splitK [32] 0 (min 7 (l.length + 1) - 1) l).map ba))) ∧ Hid (Below W0.heap.size W0 w') := by
  have h := Tryd.strings_SplitN (ba l) ⟨#[32]⟩ 7 m wx (by show l.length < _; omega) hm (by decide) (by decide) (by decide)
  have hle := Lib.splitB_length_le ⟨#[32]⟩ 0 (min 7 ((ba l).size + 1) - 1) (ba l)
  rw [splitB_in] at h hle
  refine h.mono fun e w' g => ?_
  obtain ⟨rfl, rfl⟩ := g
  exact ⟨_, rfl, own_cells (by omega) (by unfold maxLen; omega) hb.size, hb.alloc hb.size _⟩
def readIn (key : ByteArray) (r : List UInt8) : TD := if shutB r then (3, key, (inI r).map ba) else (0, ByteArray.empty, [])
theorem readPost_mk {w w' : World} {t : TD} {v : Value} (h : w'.ownsRow w.heap.size 9 1 v t.2.2.length (strVs t.2.2)) (hb : Below w.heap.size w w') : readPost w t (.returned (.agg #[.int .i64 t.1, .string t.2.1, v])) w' := ⟨v, rfl, h, hb⟩
set_option maxRecDepth 100000 in
set_option maxHeartbeats 800000 in
theorem ireadIn_any (key : ByteArray) (r : List UInt8) (m : Int) (w : World) (hs : r.length ≤ 1048576) (hm : w.cell? ⟨0, 0, none⟩ = some (.int .i64 m)) :
    Calls Tryd.prog 76 #[.string key, .string (ba r)] w (readPost w (readIn key r)) := by
  have hc := fun wx => Tryd.strings_CutSuffix (ba r) ⟨#[41]⟩ wx (by show r.length ≤ _; omega)
  have h0w : 0 < w.heap.size := World.block_lt_of_cell? _ _ hm
  rw [show (ba r).data.toList = r from rfl, show (⟨#[41]⟩ : ByteArray).data.toList = [41] from rfl, shut_suffix] at hc
  cases h : shutB r
  · rw [h] at hc
    have HR : Hid (readIn key r = (0, ByteArray.empty, [])) := by show _ = _; unfold readIn; rw [h]; rfl
    have Hc := hide hc
    clear hc h hm
    generalize readIn key r = T at *
    go_enter Tryd.func76, Tryd.ntmps76
    go_wp2_with fail
    refine (Hc.out _).mono ?_
    rintro e w1 ⟨rfl, rfl⟩
    go_wp2
    refine bodyPost_ret (v := .agg #[.int .i64 0, .string ⟨#[]⟩, .slice none 0 0]) ?_ rfl ?_
    · simp [results, Tryd.results76, go_sem]
    · rw [HR.out]
      exact ⟨_, rfl, nil_own _ _, (Below.refl _ _).alloc (by simp) _⟩
  · rw [h, trim_shut h] at hc
    have HR : Hid (readIn key r = (3, key, (inI r).map ba)) := by show _ = _; unfold readIn; rw [h]; rfl
    have hsp := fun wx hm (hb : Below (w.alloc (.cells #[.int .i64 0, .string ⟨#[]⟩, .slice none 0 0] 54)).heap.size (w.alloc (.cells #[.int .i64 0, .string ⟨#[]⟩, .slice none 0 0] 54)) wx) => splitIn_any r.dropLast m wx (by rw [List.length_dropLast]; omega) hm hb
    have Hc := hide hc
    have Hsp := hide hsp
    have Hm : Hid (∀ wx, Below w.heap.size w wx → wx.cell? ⟨0, 0, none⟩ = some (.int .i64 m)) := fun wx hb => (hb.cell (p := ⟨0, 0, none⟩) h0w).trans hm
    have Hin : Hid ((Lib.splitK [32] 0 (min 7 (r.dropLast.length + 1) - 1) r.dropLast).map ba = (inI r).map ba) := rfl
    clear hc hsp h hm
    generalize readIn key r = T at *
    generalize (Lib.splitK [32] 0 (min 7 (r.dropLast.length + 1) - 1) r.dropLast).map ba = L at *
    go_enter Tryd.func76, Tryd.ntmps76
    go_wp2_with fail
    refine (Hc.out _).mono ?_
    rintro e w1 ⟨rfl, rfl⟩
    go_wp2_with fail
    refine (Hsp.out _ (Hm.out _ ((Below.refl _ _).alloc (by simp) _)) (Below.refl _ _)).mono ?_
    rintro e w2 ⟨v, rfl, ho2, hb2⟩
    obtain ⟨a, c, rfl, -⟩ := strOf_own ho2.out rfl
    have z0 := (hb2.out.cell (p := ⟨w.heap.size, 0, none⟩) (by simp)).trans (by simp [go_sem] : _ = some (.int .i64 0))
    have z1 := (hb2.out.cell (p := ⟨w.heap.size, 1, none⟩) (by simp)).trans (by simp [go_sem] : _ = some (.string ⟨#[]⟩))
    have z2 := (hb2.out.cell (p := ⟨w.heap.size, 2, none⟩) (by simp)).trans (by simp [go_sem] : _ = some (.slice none 0 0))
    have y0 := (hb2.out.frozen (p := ⟨w.heap.size, 0, none⟩) (by simp)).trans (by simp [go_sem] : _ = false)
    have y1 := (hb2.out.frozen (p := ⟨w.heap.size, 1, none⟩) (by simp)).trans (by simp [go_sem] : _ = false)
    have y2 := (hb2.out.frozen (p := ⟨w.heap.size, 2, none⟩) (by simp)).trans (by simp [go_sem] : _ = false)
    go_wp2
    refine bodyPost_ret (v := .agg #[.int .i64 3, .string key, .slice a L.length c]) ?_ rfl ?_
    · simp [results, Tryd.results76, go_sem, z0, z1, z2]
    · rw [HR.out, ← Hin.out]
      exact ⟨_, rfl, owns_mono (owns_at_set (owns_at_set (owns_at_set ho2.out (by simp)) (by simp)) (by simp)) (by simp), ((((Below.refl _ _).alloc (by simp) _).trans (hb2.out.mono (by simp))).setCell (by simp) _).setCell (by simp) _ |>.setCell (by simp) _⟩

theorem pre_head (p : List UInt8) : Lib.hasPrefix p [33] = decide (p.head? = some 33) := by
  unfold Lib.hasPrefix
  rw [Bool.eq_iff_iff, decide_eq_true_eq, List.isPrefixOf_iff_prefix]
  constructor
  · rintro ⟨t, rfl⟩; rfl
  · intro h
    cases p with
    | nil => simp at h
    | cons x t => simp at h; subst h; exact ⟨t, rfl⟩
theorem pre_trim {p : List UInt8} (h : p.head? = some 33) : Lib.trimPrefix p [33] = p.tail := by
  unfold Lib.trimPrefix
  rw [pre_head, decide_eq_true h, if_pos rfl, List.drop_one.symm]; rfl
theorem readI_in {p : List UInt8} (h : hasI p pIn = true) : readI p = readIn (ba (p.take (cutI p pIn))) (restOf p) := by unfold readI readIn; rw [h, if_pos rfl]
theorem readI_not {p : List UInt8} (h : hasI p pIn = false) : readI p = notIn p := by unfold readI; rw [h]; rfl

theorem cutC (p t : List UInt8) (m : Int) (wx : World) (hs : p.length ≤ 1048576) (hm : wx.cell? ⟨0, 0, none⟩ = some (.int .i64 m)) :
    Calls Tryd.prog 75 #[.string (ba p), .string (ba t)] wx fun e w' => e = .returned (.tuple #[.string (ba (Lib.cut p t).1), .string (ba (Lib.cut p t).2.1), .bool (Lib.cut p t).2.2]) ∧ ∃ n, w' = wx.drewN n :=
  (Tryd.strings_Cut (ba p) (ba t) m wx (by show p.length < _; omega) hm).mono fun e w' g => ⟨g.1, g.2⟩
set_option maxRecDepth 100000 in
set_option maxHeartbeats 1600000 in
theorem iread_any (p : List UInt8) (m : Int) (w : World) (hs : p.length ≤ 1048576) (hm : w.cell? ⟨0, 0, none⟩ = some (.int .i64 m)) :
    Calls Tryd.prog 40 #[.string (ba p)] w (readPost w (readI p)) := by
  have h0w : 0 < w.heap.size := World.block_lt_of_cell? _ _ hm
  have Hm : Hid (∀ wx, Below w.heap.size w wx → wx.cell? ⟨0, 0, none⟩ = some (.int .i64 m)) := fun wx hb => (hb.cell (p := ⟨0, 0, none⟩) h0w).trans hm
  have hc1 := fun wx hm => cutC p pIn m wx hs hm
  have hc2 := fun wx hm => cutC p [33, 61] m wx hs hm
  have hc3 := fun wx hm => cutC p [61] m wx hs hm
  have hc4 := fun wx => Tryd.strings_CutPrefix (ba p) ⟨#[33]⟩ wx
  rw [show (ba p).data.toList = p from rfl, show (⟨#[33]⟩ : ByteArray).data.toList = [33] from rfl, pre_head] at hc4
  have hb0 : Below w.heap.size w (w.alloc (.cells #[.int .i64 0, .string ⟨#[]⟩, .slice none 0 0] 54)) := (Below.refl _ _).alloc (by simp) _
  have Hb0 := hide hb0
  clear hm hb0
  cases h1 : hasI p pIn
  rotate_left
  · rw [cut_has h1] at hc1
    have Hc1 := hide hc1
    have hin := fun wx hm => ireadIn_any (ba (p.take (cutI p pIn))) (restOf p) m wx (by unfold restOf; rw [List.length_drop]; omega) hm
    have Hin := hide hin
    have HR := hide (readI_in h1)
    have hrr : p.drop (cutI p pIn + pIn.length) = restOf p := rfl
    rw [hrr] at Hc1
    clear hc1 hc2 hc3 hc4 h1 hin hrr
    generalize readI p = T at *
    generalize ba (p.take (cutI p pIn)) = key at *
    generalize restOf p = r at *
    go_enter Tryd.func40, Tryd.ntmps40
    go_wp2_with fail
    refine (Hc1.out _ (Hm.out _ Hb0.out)).mono ?_
    rintro e w1 ⟨rfl, n, rfl⟩
    go_wp2_with fail
    refine (Hin.out _ (Hm.out _ (below_drewN Hb0.out _))).mono ?_
    rintro e w2 ⟨v, rfl, ho2, hb2⟩
    obtain ⟨a, c, rfl, -⟩ := strOf_own ho2 rfl
    have Ho2 := hide ho2
    have Hb2 := hide hb2
    have z0 := (hb2.cell (p := ⟨w.heap.size, 0, none⟩) (by simp)).trans (by simp [go_sem] : _ = some (.int .i64 0))
    have z1 := (hb2.cell (p := ⟨w.heap.size, 1, none⟩) (by simp)).trans (by simp [go_sem] : _ = some (.string ⟨#[]⟩))
    have z2 := (hb2.cell (p := ⟨w.heap.size, 2, none⟩) (by simp)).trans (by simp [go_sem] : _ = some (.slice none 0 0))
    have y0 := (hb2.frozen (p := ⟨w.heap.size, 0, none⟩) (by simp)).trans (by simp [go_sem] : _ = false)
    have y1 := (hb2.frozen (p := ⟨w.heap.size, 1, none⟩) (by simp)).trans (by simp [go_sem] : _ = false)
    have y2 := (hb2.frozen (p := ⟨w.heap.size, 2, none⟩) (by simp)).trans (by simp [go_sem] : _ = false)
    clear ho2 hb2
    generalize readIn key r = t at *
    obtain ⟨kd, ky, vs⟩ := t
    simp only at Ho2 z0 z1 z2 ⊢
    go_wp2
    refine bodyPost_ret (v := .agg #[.int .i64 kd, .string ky, .slice a vs.length c]) ?_ rfl ?_
    · simp [results, Tryd.results40, go_sem, z0, z1, z2]
    · rw [HR.out]
      exact ⟨_, rfl, owns_mono (owns_at_set (owns_at_set (owns_at_set Ho2.out (by simp)) (by simp)) (by simp)) (by simp), ((((below_drewN Hb0.out _).trans (Hb2.out.mono (by simp))).setCell (by simp) _).setCell (by simp) _).setCell (by simp) _⟩
  · rw [cut_hasnt h1] at hc1
    have Hc1 := hide hc1
    have hR1 := readI_not h1
    clear hc1 h1
    cases h2 : hasI p [33, 61]
    rotate_left
    · rw [cut_has h2] at hc2
      have Hc2 := hide hc2
      have HR : Hid (readI p = (2, ba (p.take (cutI p [33, 61])), [ba (p.drop (cutI p [33, 61] + 2))])) := by show _ = _; rw [hR1]; unfold notIn; rw [h2]; rfl
      clear hc2 hc3 hc4 h2 hR1
      generalize readI p = T at *
      go_enter Tryd.func40, Tryd.ntmps40
      go_wp2_with fail
      refine (Hc1.out _ (Hm.out _ Hb0.out)).mono ?_
      rintro e w1 ⟨rfl, n1, rfl⟩
      go_wp2_with fail
      refine (Hc2.out _ (Hm.out _ (below_drewN Hb0.out _))).mono ?_
      rintro e w2 ⟨rfl, n2, rfl⟩
      go_wp2
      refine bodyPost_ret (v := .agg #[.int .i64 2, .string (ba (p.take (cutI p [33, 61]))), .slice (some ⟨w.heap.size + 1, 0, none⟩) 1 1]) ?_ rfl ?_
      · simp [results, Tryd.results40, go_sem]
      · rw [HR.out]
        refine ⟨_, rfl, ?_, ?_⟩
        · exact lit_own _ _ _ _ (by simp) (by omega)
        · exact (((((below_drewN Hb0.out _).setCell (by simp) _).setCell (by simp) _).setCell (by simp) _).alloc (by simp) _)
    rw [cut_hasnt h2] at hc2
    have Hc2 := hide hc2
    cases h3 : hasI p [61]
    rotate_left
    · rw [cut_has h3] at hc3
      have Hc3 := hide hc3
      have HR : Hid (readI p = (1, ba (p.take (cutI p [61])), [ba (p.drop (cutI p [61] + 1))])) := by show _ = _; rw [hR1]; unfold notIn; rw [h2, if_neg (by simp), h3]; rfl
      clear hc2 hc3 hc4 h2 h3 hR1
      generalize readI p = T at *
      go_enter Tryd.func40, Tryd.ntmps40
      go_wp2_with fail
      refine (Hc1.out _ (Hm.out _ Hb0.out)).mono ?_
      rintro e w1 ⟨rfl, n1, rfl⟩
      go_wp2_with fail
      refine (Hc2.out _ (Hm.out _ (below_drewN Hb0.out _))).mono ?_
      rintro e w2 ⟨rfl, n2, rfl⟩
      go_wp2_with fail
      refine (Hc3.out _ (Hm.out _ (below_drewN Hb0.out _))).mono ?_
      rintro e w3 ⟨rfl, n3, rfl⟩
      go_wp2
      refine bodyPost_ret (v := .agg #[.int .i64 1, .string (ba (p.take (cutI p [61]))), .slice (some ⟨w.heap.size + 1, 0, none⟩) 1 1]) ?_ rfl ?_
      · simp [results, Tryd.results40, go_sem]
      · rw [HR.out]
        refine ⟨_, rfl, ?_, ?_⟩
        · exact lit_own _ _ _ _ (by simp) (by omega)
        · exact (((((below_drewN Hb0.out _).setCell (by simp) _).setCell (by simp) _).setCell (by simp) _).alloc (by simp) _)
    rw [cut_hasnt h3] at hc3
    have Hc3 := hide hc3
    by_cases h4 : p.head? = some 33
    · rw [decide_eq_true h4, pre_trim h4] at hc4
      have Hc4 : Hid (∀ wx, Calls Tryd.prog 77 #[.string (ba p), .string ⟨#[33]⟩] wx fun e w' => e = .returned (.tuple #[.string (ba p.tail), .bool true]) ∧ w' = wx) := hc4
      have HR : Hid (readI p = (5, ba p.tail, [])) := by show _ = _; rw [hR1]; unfold notIn; rw [h2, if_neg (by simp), h3, if_neg (by simp), if_pos h4]
      clear hc2 hc3 hc4 h2 h3 h4 hR1
      generalize readI p = T at *
      go_enter Tryd.func40, Tryd.ntmps40
      go_wp2_with fail
      refine (Hc1.out _ (Hm.out _ Hb0.out)).mono ?_
      rintro e w1 ⟨rfl, n1, rfl⟩
      go_wp2_with fail
      refine (Hc2.out _ (Hm.out _ (below_drewN Hb0.out _))).mono ?_
      rintro e w2 ⟨rfl, n2, rfl⟩
      go_wp2_with fail
      refine (Hc3.out _ (Hm.out _ (below_drewN Hb0.out _))).mono ?_
      rintro e w3 ⟨rfl, n3, rfl⟩
      go_wp2_with fail
      refine (Hc4.out _).mono ?_
      rintro e w4 ⟨rfl, rfl⟩
      go_wp2
      refine bodyPost_ret (v := .agg #[.int .i64 5, .string (ba p.tail), .slice none 0 0]) ?_ rfl ?_
      · simp [results, Tryd.results40, go_sem]
      · rw [HR.out]
        exact ⟨_, rfl, nil_own _ _, ((((below_drewN Hb0.out _).setCell (by simp) _).setCell (by simp) _).setCell (by simp) _)⟩
    · rw [decide_eq_false h4] at hc4
      have HR : Hid (readI p = (4, ba p, [])) := by show _ = _; rw [hR1]; unfold notIn; rw [h2, if_neg (by simp), h3, if_neg (by simp), if_neg h4]
      have Hc4 : Hid (∀ wx, Calls Tryd.prog 77 #[.string (ba p), .string ⟨#[33]⟩] wx fun e w' => (∃ x, e = .returned (.tuple #[.string x, .bool false])) ∧ w' = wx) := fun wx => (hc4 wx).mono fun e w' g => ⟨⟨_, g.1⟩, g.2⟩
      clear hc2 hc3 hc4 h2 h3 h4 hR1
      generalize readI p = T at *
      go_enter Tryd.func40, Tryd.ntmps40
      go_wp2_with fail
      refine (Hc1.out _ (Hm.out _ Hb0.out)).mono ?_
      rintro e w1 ⟨rfl, n1, rfl⟩
      go_wp2_with fail
      refine (Hc2.out _ (Hm.out _ (below_drewN Hb0.out _))).mono ?_
      rintro e w2 ⟨rfl, n2, rfl⟩
      go_wp2_with fail
      refine (Hc3.out _ (Hm.out _ (below_drewN Hb0.out _))).mono ?_
      rintro e w3 ⟨rfl, n3, rfl⟩
      go_wp2_with fail
      refine (Hc4.out _).mono ?_
      rintro e w4 ⟨⟨x, rfl⟩, rfl⟩
      go_wp2
      refine bodyPost_ret (v := .agg #[.int .i64 4, .string (ba p), .slice none 0 0]) ?_ rfl ?_
      · simp [results, Tryd.results40, go_sem]
      · rw [HR.out]
        exact ⟨_, rfl, nil_own _ _, ((((below_drewN Hb0.out _).setCell (by simp) _).setCell (by simp) _).setCell (by simp) _)⟩
end Go.Proofs.YtbadjopaocindaaDoor
