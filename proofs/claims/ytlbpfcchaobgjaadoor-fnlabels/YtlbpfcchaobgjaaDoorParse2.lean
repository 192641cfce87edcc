import Derived.Test.YtlbpfcchaobgjaaDoorParse
import Derived.Test.YtlbpfcchaobgjaaDoorShelfD
namespace Go.Proofs.YtlbpfcchaobgjaaDoor
open Go.RowKit Go.BigFrame
set_option linter.unusedVariables false

theorem map_ba {xs : List ByteArray} {ys : List (List UInt8)} (h : xs.map (·.data.toList) = ys) : xs = ys.map ba := by
  subst h
  rw [List.map_map]
  symm
  conv => rhs; rw [← List.map_id xs]
  apply List.map_congr_left
  intro x _
  apply ByteArray.ext
  apply Array.ext'
  rfl
def piecesOf (s : ByteArray) : List (List UInt8) := Lib.splitK [44] 0 (min 9 (s.size + 1) - 1) s.data.toList
theorem splitB_pieces (s : ByteArray) : Lib.splitB ⟨#[44]⟩ 0 (min 9 (s.size + 1) - 1) s = (piecesOf s).map ba := map_ba (Lib.splitB_data _ _ _ _)
theorem specR_pieces {s : ByteArray} (h : ¬ s.size = 0) : specR s = resOf (allOf cutOf (piecesOf s)) := by
  unfold specR piecesOf
  rw [if_neg h, ← readers, show s.data.toList.length = s.size from by simp]
theorem splitK_mem_le {c : UInt8} : ∀ (k : Nat) (L p : List UInt8), p ∈ Lib.splitK [c] 0 k L → p.length ≤ L.length
  | 0, L, p, h => by simp [Lib.splitK] at h; rw [h]; exact Nat.le_refl _
  | k + 1, L, p, h => by
    rcases cut_first c L with g | ⟨l, r, rfl, g⟩
    · rw [Lib.splitK, index_none L g] at h
      simp at h
      rw [h]; exact Nat.le_refl _
    · rw [splitK_some l r k g] at h
      rcases List.mem_cons.1 h with rfl | h
      · simp
      · have := splitK_mem_le k r p h; simp; omega
theorem cells_get {Q : List (List UInt8)} {N k : Nat} (h : k < Q.length) : (Lib.cellsOf (Q.map ba) N).toList[k]? = some (.string (ba Q[k])) := by
  simp [Lib.cellsOf, List.getElem?_append, h]
theorem splitN_any (s : ByteArray) (m : Int) (wx : World) (hs : s.size ≤ 1048576) (hm : wx.cell? ⟨1, 0, none⟩ = some (.int .i64 m)) :
    Calls Tryd.prog 40 #[.string s, .string ⟨#[44]⟩, .int .i64 9] wx fun e w' => e = .returned (.slice (some ⟨wx.heap.size, 0, none⟩) (piecesOf s).length (min 9 (s.size + 1))) ∧ w' = wx.alloc (.cells (Lib.cellsOf ((piecesOf s).map ba) (min 9 (s.size + 1))) 9) ∧ (piecesOf s).length ≤ min 9 (s.size + 1) := by
  have h := Tryd.strings_SplitN s ⟨#[44]⟩ 9 m wx (by omega) hm (by decide) (by decide) (by decide)
  have hle : (piecesOf s).length ≤ min 9 (s.size + 1) := by
    have := Lib.splitB_length_le ⟨#[44]⟩ 0 (min 9 (s.size + 1) - 1) s
    rw [splitB_pieces, List.length_map] at this
    omega
  rw [splitB_pieces, List.length_map] at h
  exact h.mono fun e w' g => ⟨g.1, g.2, hle⟩
theorem cutOf_true {p : List UInt8} (h : (Lib.cut p [61]).2.2 = true) : cutOf p = some (ba (Lib.cut p [61]).1, ba (Lib.cut p [61]).2.1) := by unfold cutOf; rw [if_pos h]
theorem cutOf_false {p : List UInt8} (h : (Lib.cut p [61]).2.2 = false) : cutOf p = none := by unfold cutOf; rw [if_neg (by rw [h]; decide)]
theorem cut_any (p : List UInt8) (m : Int) (wx : World) (hs : p.length ≤ 1048576) (hm : wx.cell? ⟨1, 0, none⟩ = some (.int .i64 m)) :
    Calls Tryd.prog 41 #[.string (ba p), .string ⟨#[61]⟩] wx fun e w' => e = .returned (.tuple #[.string (ba (Lib.cut p [61]).1), .string (ba (Lib.cut p [61]).2.1), .bool (Lib.cut p [61]).2.2]) ∧ Below wx.heap.size wx w' :=
  (Tryd.strings_Cut (ba p) ⟨#[61]⟩ m wx (by show p.length < _; omega) hm).mono fun e w' g => ⟨g.1, by obtain ⟨n, rfl⟩ := g.2; exact below_drewN (Below.refl _ _) n⟩

set_option maxRecDepth 1000000 in
set_option maxHeartbeats 1600000 in
theorem iparse_any (s : ByteArray) (m : Int) (w : World) (hs : s.size ≤ 1048576) (hm : w.cell? ⟨1, 0, none⟩ = some (.int .i64 m)) :
    Calls Tryd.prog 14 #[.string s] w fun e w' => ∃ g cap, e = .returned (.tuple #[.slice (some ⟨g, 0, none⟩) (specR s).1.length cap, .bool (specR s).2]) ∧
      w'.ownsRow w.heap.size 33 2 (.slice (some ⟨g, 0, none⟩) (specR s).1.length cap) (specR s).1.length (flat (specR s).1) ∧ Below w.heap.size w w' := by
  by_cases hz : s.size = 0
  · have he : s.toList.isEmpty = true := by rw [empty_iff, decide_eq_true hz]
    have Hn : Hid (specR s = ([], true)) := by show _ = _; unfold specR; rw [if_pos hz]
    clear hz
    go_enter Tryd.func14, Tryd.ntmps14
    go_wp2
    go_ret2
    rw [Hn.out]
    exact ⟨_, 0, rfl, World.ownsRow_lit w #[] 0 (Nat.le_refl _) (by decide) rfl, (Below.refl _ _).alloc (Nat.le_refl _) _⟩
  obtain ⟨i0, hi, hz0, hz1, hz2⟩ := info_parts Tryd.info44
  have he : s.toList.isEmpty = false := by rw [empty_iff, decide_eq_false hz]
  have Hn : Hid (specR s = resOf (allOf cutOf (piecesOf s))) := specR_pieces hz
  have hsp := fun wx hm => splitN_any s m wx hs hm
  have HPm : Hid (∀ p, p ∈ piecesOf s → p.length ≤ 1048576) := fun p hp => by have := splitK_mem_le _ _ p hp; rw [show s.data.toList.length = s.size from by simp] at this; omega
  have h0w : 1 < w.heap.size := World.block_lt_of_cell? _ _ hm
  have Hm : Hid (∀ wx, Below w.heap.size w wx → wx.cell? ⟨1, 0, none⟩ = some (.int .i64 m)) := fun wx hb => (hb.cell (p := ⟨1, 0, none⟩) h0w).trans hm
  have HN : Hid (1 ≤ min 9 (s.size + 1) ∧ min 9 (s.size + 1) ≤ 9) := ⟨by omega, by omega⟩
  generalize piecesOf s = P at *
  generalize min 9 (s.size + 1) = N at *
  have Hsp := hide hsp
  clear hz hsp hm
  go_enter Tryd.func14, Tryd.ntmps14
  go_wp2_with fail
  refine (Hsp.out _ (Hm.out _ ((Below.refl _ _).alloc (Nat.le_refl _) _))).mono ?_
  rintro e w1 ⟨rfl, hw1, hPl⟩
  have Hb1 : Hid (Below w.heap.size w w1) := by show Below _ _ _; rw [hw1]; exact ((Below.refl _ _).alloc (Nat.le_refl _) _).alloc (by simp) _
  have Hout : Hid (w1.ownsRow w.heap.size 33 2 (.slice (some ⟨w.heap.size, 0, none⟩) 0 0) 0 (flat [])) := by
    show World.ownsRow _ _ _ _ _ _ _
    rw [hw1]
    exact (World.ownsRow_lit (e := 33) (size := 2) w #[] 0 (Nat.le_refl w.heap.size) (by decide) rfl).alloc _
  have hcs : (Lib.cellsOf (P.map ba) N).size = N * 1 := by
    rw [Lib.cellsOf_size (by rw [List.length_map]; exact hPl), Nat.mul_one]
  have Hop1 : Hid (w1.ownsRow (w.heap.size + 1) 9 1 (.slice (some ⟨w.heap.size + 1, 0, none⟩) N N) N (Lib.cellsOf (P.map ba) N).toList) := by
    show World.ownsRow _ _ _ _ _ _ _
    rw [hw1]
    have := World.ownsRow_lit (base := w.heap.size + 1) (e := 9) (size := 1) (w.alloc (.cells #[] 33)) (Lib.cellsOf (P.map ba) N) N (by simp) (by have := HN.out; unfold maxLen; omega) hcs
    simpa using this
  have hsz1 : w1.heap.size = w.heap.size + 2 := by rw [hw1]; simp
  have Hw1 := hide hw1
  clear Hsp hw1 hcs
  have hN9 : N ≤ 9 := HN.out.2
  go_wp2
  go_loopw [4, 17] (fun v i wr => ∃ (g cap k : Nat) (ls : List (ByteArray × ByteArray)), k ≤ P.length ∧ i = .int .i64 k ∧ v = .slice (some ⟨g, 0, none⟩) k cap ∧ ls.length = k ∧ g ≠ w.heap.size + 1 ∧ w1.heap.size ≤ wr.heap.size ∧
      Hid (wr.ownsRow w.heap.size 33 2 (.slice (some ⟨g, 0, none⟩) k cap) k (flat ls)) ∧ Hid (wr.ownsRow (w.heap.size + 1) 9 1 (.slice (some ⟨w.heap.size + 1, 0, none⟩) N N) N (Lib.cellsOf (P.map ba) N).toList) ∧
      Hid (allOf cutOf (P.take k) = some ls) ∧ Hid (Below w.heap.size w wr)) (fun _ i _ => P.length - (intOf i).toNat)
  case atStart => exact ⟨_, _, 0, [], Nat.zero_le _, rfl, rfl, rfl, by omega, Nat.le_refl _, Hout, Hop1, rfl, Hb1⟩
  case round =>
    obtain ⟨g, cap, k, ls, hk, rfl, rfl, hls, hgg, hws, How, Hop, Hall, Hbw⟩ := hrel
    clear Hb1 Hout Hop1 Hw1
    by_cases hlt : k < P.length
    · have c0 : wr.cell? ⟨w.heap.size + 1, k, none⟩ = some (.string (ba (P[k]'hlt))) := by rw [← cells_get (N := N) hlt]; exact Hop.out.cellAt k (by omega)
      have hpl := HPm.out _ (List.getElem_mem hlt)
      have Hmem : Hid (P[k]'hlt ∈ P) := List.getElem_mem hlt
      have Htk : Hid (allOf cutOf (P.take (k + 1)) = match allOf cutOf (P.take k), cutOf (P[k]'hlt) with | some ls, some x => some (ls ++ [x]) | _, _ => none) := by
        show _ = _
        rw [List.take_succ_eq_append_getElem hlt, allOf_snoc]
        cases allOf cutOf (List.take k P) <;> cases cutOf (P[k]'hlt) <;> rfl
      have hsp := fun wx => cut_any (P[k]'hlt) m wx hpl
      have Hct : Hid ((Lib.cut (P[k]'hlt) [61]).2.2 = true → cutOf (P[k]'hlt) = some (ba (Lib.cut (P[k]'hlt) [61]).1, ba (Lib.cut (P[k]'hlt) [61]).2.1)) := fun h => cutOf_true h
      have Hcf : Hid ((Lib.cut (P[k]'hlt) [61]).2.2 = false → cutOf (P[k]'hlt) = none) := fun h => cutOf_false h
      clear hpl
      generalize P[k]'hlt = p at *
      generalize (Lib.cut p [61]).1 = a at *
      generalize (Lib.cut p [61]).2.1 = b at *
      generalize (Lib.cut p [61]).2.2 = q at *
      cases q with
      | true =>
        have Hx : Hid (allOf cutOf (P.take (k + 1)) = some (ls ++ [(ba a, ba b)])) := by
          show _ = _
          rw [Htk.out, Hall.out, Hct.out rfl]
        have Hsp := hide hsp
        clear hsp Htk Hct Hcf Hall Hmem
        go_wp2_with fail
        refine (Hsp.out _ (Hm.out _ Hbw.out)).mono ?_
        rintro e w2 ⟨rfl, hb2⟩
        have How2 := hide (owns_below How.out hb2)
        have Hop2 := hide (owns_below Hop.out hb2)
        have Hbw2 := hide (Hbw.out.trans (hb2.mono Hbw.out.size))
        have hws2 := hb2.size
        have hbase := Hbw2.out.size
        clear hb2 How Hop Hbw Hsp
        go_wp2_with (at_builtin; refine wpList_append_lies _ rfl _ _ 24 rfl w.heap.size 33 i0 _ 2 32 Tryd.underlying24 hi hz0 hz1 hz2 rfl (by decide) _ _ _ rfl (How2.out.alloc _) ⟨w2.heap.size, 0, none⟩ 1 1 [.string (ba a), .string (ba b)] rfl rfl (cell_two_at _ _ rfl _ _ _) (fun x hx => by simp at hx; rcases hx with rfl | rfl <;> rfl) (by decide) (by unfold maxLen; omega) (by omega) (by simp; omega) _ rfl ?_; intro g' cap' w3 hown' hgrow3 hat3 hlt3)
        have hne3 : g' ≠ w.heap.size + 1 := by
          rcases hat3 with h | h
          · cases h; exact hgg
          · rw [h]; simp; omega
        have hsz3 := hgrow3.size
        have Hb3 : Hid (Below w.heap.size w w3) := Below.grown (Hbw2.out.alloc hbase _) hgrow3 (by simp; omega) (fun j hj => (How2.out.lt _ hj).1)
        have Ho3 : Hid (w3.ownsRow w.heap.size 33 2 (.slice (some ⟨g', 0, none⟩) (k + 1) cap') (k + 1) (flat (ls ++ [(ba a, ba b)]))) := by rw [flat_snoc]; exact hown'
        have Hp3 := hide (owns_grown (Hop2.out.alloc _) hgrow3 (by intro h; cases h; exact hgg rfl))
        have hws3 : w1.heap.size ≤ w3.heap.size := by simp at hsz3; omega
        clear hown' hgrow3 hat3 hsz3
        go_roundw
        case rel => exact ⟨g', cap', k + 1, ls ++ [(ba a, ba b)], by omega, by go_num, by go_num, by simp; omega, hne3, hws3, Ho3, Hp3, Hx, Hb3⟩
        case measure => simp [intOf]; omega
      | false =>
        have HR : Hid (specR s = ([], false)) := by show _ = _; rw [Hn.out, allOf_bad cutOf P p Hmem.out (Hcf.out rfl)]; rfl
        have Hsp := hide hsp
        clear hsp Htk Hct Hcf Hall Hmem
        go_wp2_with fail
        refine (Hsp.out _ (Hm.out _ Hbw.out)).mono ?_
        rintro e w2 ⟨rfl, hb2⟩
        have Hbw2 := hide (Hbw.out.trans (hb2.mono Hbw.out.size))
        clear hb2 How Hop Hbw Hsp
        go_wp2
        go_ret2
        rw [HR.out]
        exact ⟨_, 0, rfl, World.ownsRow_lit w2 #[] 0 Hbw2.out.size (by decide) rfl, Hbw2.out.alloc Hbw2.out.size _⟩
    · have e : k = P.length := by omega
      subst e
      have Hres : Hid (specR s = resOf (some ls)) := by show _ = _; rw [Hn.out, ← Hall.out, List.take_length]
      have hll : ls.length ≤ maxLen := by unfold maxLen; omega
      have hsl := fun a cap wx => ilabelsOk_any a cap ls wx hll
      rw [hls] at hsl
      have Hsl := hide hsl
      clear hsl Hop Hall Hn HPm
      rcases Bool.eq_false_or_eq_true (labelsB ls) with hb | hb
      · have HR : Hid (specR s = (ls, true)) := by show _ = _; rw [Hres.out]; unfold resOf; simp only [hb]; rfl
        have hsl := Hsl.out
        rw [hb] at hsl
        have Hsl' := hide hsl
        clear hsl hb Hsl Hres
        go_wp2_with fail
        refine (Hsl'.out _ _ _ (row_of_owns How.out)).mono ?_
        rintro e w3 ⟨rfl, hb3⟩
        have How3 := hide (owns_below How.out hb3)
        have Hbw3 := hide (Hbw.out.trans (hb3.mono Hbw.out.size))
        clear hb3 How Hbw Hsl'
        go_wp2
        go_ret2
        rw [HR.out]
        exact ⟨g, cap, ret_lb ⟨hls.symm, rfl⟩, (by simp only; rw [hls]; exact How3.out), Hbw3.out⟩
      · have HR : Hid (specR s = ([], false)) := by show _ = _; rw [Hres.out]; unfold resOf; simp only [hb]; rfl
        have hsl := Hsl.out
        rw [hb] at hsl
        have Hsl' := hide hsl
        clear hsl hb Hsl Hres
        go_wp2_with fail
        refine (Hsl'.out _ _ _ (row_of_owns How.out)).mono ?_
        rintro e w3 ⟨rfl, hb3⟩
        have Hbw3 := hide (Hbw.out.trans (hb3.mono Hbw.out.size))
        clear hb3 How Hbw Hsl'
        go_wp2
        go_ret2
        rw [HR.out]
        exact ⟨_, 0, rfl, World.ownsRow_lit w3 #[] 0 Hbw3.out.size (by decide) rfl, Hbw3.out.alloc Hbw3.out.size _⟩
end Go.Proofs.YtlbpfcchaobgjaaDoor
