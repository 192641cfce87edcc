/- Right wants: the weights, by the program. -/
import Derived.Test.YtpmhmcekkppbhaaFtN
import Derived.Test.YtpmhmcekkppbhaaSelV
import Derived.Test.YtpmhmcekkppbhaaOwnB
namespace Go.Proofs.Ytpmhmcekkppbhaa
open Go.RowKit Go.BigFrame
set_option linter.unusedVariables false

theorem wgsB_long {l : List WgD} (h : 12 < l.length) : wgsB l = false := by unfold wgsB; rw [decide_eq_false_iff_not]; omega
theorem wgsB_off {l : List WgD} {k : Nat} (hk : k < l.length) (h : inB (l[k]'hk).2 0 1000 = false) : wgsB l = false := by
  rw [Bool.eq_false_iff]
  intro g
  have := (wgsB_iff.1 g).2.1 _ (List.getElem_mem hk)
  rw [h] at this; cases this
theorem wgsB_names {l : List WgD} (hl : l.length ≤ 12) (h : ∀ j (hj : j < l.length), inB (l[j]'hj).2 0 1000 = true) : wgsB l = valsB (l.map Prod.fst) := by
  rw [Bool.eq_iff_iff, wgsB_iff]
  refine ⟨fun g => g.2.2, fun g => ⟨hl, fun x hx => ?_, g⟩⟩
  obtain ⟨i, hi, rfl⟩ := List.getElem_of_mem hx
  exact h i hi
def nmsL (l : List WgD) (k : Nat) : List ByteArray := (l.take k).map Prod.fst
theorem nmsL_succ {l : List WgD} {k : Nat} (hk : k < l.length) : strVs (nmsL l (k + 1)) = strVs (nmsL l k) ++ [.string (l[k]'hk).1] := by
  unfold nmsL strVs
  rw [List.take_add_one, List.getElem?_eq_getElem hk, List.map_append, List.map_append]
  rfl
theorem nmsL_all (l : List WgD) : nmsL l l.length = l.map Prod.fst := by unfold nmsL; rw [List.take_length]
set_option maxRecDepth 100000 in
set_option maxHeartbeats 800000 in
theorem weighsOk_any (a : Option Addr) (cap : Nat) (L : List WgD) (w : World) (hl : L.length ≤ maxLen) (hz : okWgs L) (hrow : wgsOf w a L) :
    Calls Try.prog 63 #[.slice a L.length cap] w fun e w' => e = .returned (.bool (wgsB L)) ∧ Below w.heap.size w w' := by
  obtain ⟨i0, hi, hz0, hz1, hz2⟩ := info_parts Try.infoStr
  unfold maxLen at hl
  have Hr := hide hrow
  clear hrow hz
  by_cases hbig : 12 < L.length
  · have Hn := hide (wgsB_long hbig)
    have hbig' : (12 : Int) < (L.length : Int) := by omega
    clear hbig Hr
    go_enter Try.func63, Try.ntmps63
    go_wp2
    go_ret
    exact ⟨ret_bool Hn.out.symm, Below.refl _ _⟩
  have hbig' : ¬ (12 : Int) < (L.length : Int) := by omega
  go_enter Try.func63, Try.ntmps63
  go_wp2
  go_loopw [3, 12] (fun s i wr => ∃ (k : Nat), k ≤ L.length ∧ i = .int .i64 k ∧ Hid (s ≠ .slice none 0 0) ∧ Hid (wr.ownsRow w.heap.size 9 1 s k (strVs (nmsL L k))) ∧
      Hid (∀ j (hj : j < L.length), j < k → inB (L[j]'hj).2 0 1000 = true) ∧ Below w.heap.size w wr) (fun _ i _ => L.length - (intOf i).toNat)
  case atStart => exact ⟨0, Nat.zero_le _, rfl, (fun h => by cases h), World.ownsRow_lit w #[] 0 (Nat.le_refl _) (by decide) rfl, fun j _ hj => by omega, (Below.refl _ _).alloc (Nat.le_refl _) _⟩
  case round =>
    obtain ⟨k, hk, rfl, Hnn, How, Hx, hbw⟩ := hrel
    by_cases hlt : k < L.length
    · obtain ⟨b, off, rfl, hat⟩ := (Hr.out.below hbw) (by omega)
      have c0 := (hat k hlt).1
      have c1 := (hat k hlt).2
      have Hb : Hid (inB (L[k]'hlt).2 0 1000 = false → wgsB L = false) := fun h => wgsB_off hlt h
      have Hs : Hid (inB (L[k]'hlt).2 0 1000 = true → ∀ j (hj : j < L.length), j < k + 1 → inB (L[j]'hj).2 0 1000 = true) := fun h j hj hjk => by
        by_cases e : j = k
        · subst e; exact h
        · exact Hx.out j hj (by omega)
      have Hsu := hide (nmsL_succ hlt)
      clear hat Hx
      generalize L[k]'hlt = X at *
      obtain ⟨K, N⟩ := X
      dsimp only at *
      have HC : Hid (∀ wx, Calls Try.prog 61 #[.int .i64 N, .int .i64 1000] wx fun e w' => e = .returned (.bool (inB N 0 1000)) ∧ w' = wx) := fun wx => withinF_any N 1000 wx
      generalize inB N 0 1000 = bN at *
      have hbw1 : Below w.heap.size w (wr.alloc (.cells #[.string K, .int .i64 N] 95)) := hbw.alloc hbw.size _
      cases bN with
      | false =>
        have Hn := hide (Hb.out rfl)
        clear Hb Hs Hsu
        go_wp2_with (go_at_call 61; refine (HC.out _).mono ?_; rintro e w' ⟨rfl, rfl⟩)
        go_ret
        exact ⟨ret_bool Hn.out.symm, hbw1⟩
      | true =>
        have Hn := hide (Hs.out rfl)
        have How1 := hide (How.out.alloc (.cells #[.string K, .int .i64 N] 95))
        clear Hb Hs
        go_wp2_with (first | (go_at_call 61; refine (HC.out _).mono ?_; rintro e w' ⟨rfl, rfl⟩) | (at_builtin; refine wpList_append_own _ rfl _ _ 32 rfl w.heap.size 9 i0 _ 1 16 Try.underlying32 hi hz0 hz1 hz2 rfl (by decide) _ _ _ rfl (How1.out.alloc _) ⟨wr.heap.size + 1, 0, none⟩ 1 1 [.string K] rfl rfl (cell_one_at1 _ _ (by simp) _ _) (fun x hx => by simp at hx; rcases hx with rfl; rfl) (by unfold maxLen; omega) (by omega) (by have := hbw.size; simp; omega) ?_; intro v' w3 hown' hgrow3 hnil3))
        go_roundw
        case rel => exact ⟨k + 1, by omega, by go_num, (fun h => Hnn.out (hnil3.1 h).1), by rw [Hsu.out]; exact hown', Hn, Below.grown (hbw1.alloc hbw1.size _) hgrow3 (by have := hbw.size; simp; omega) (fun j hj => (How.out.lt _ hj).1)⟩
        case measure => simp [intOf]; omega
    · have e : k = L.length := by omega
      subst e
      have Hf : Hid (∃ g cap, u3 = Value.slice (some ⟨g, 0, none⟩) L.length cap) := by
        rcases How.out.2 with ⟨h, _⟩ | ⟨g, cap, cur, h, _⟩
        · exact absurd h Hnn.out
        · exact ⟨g, cap, h⟩
      obtain ⟨g, cp, hv⟩ := Hf.out
      subst hv
      have Hn : Hid (wgsB L = valsB (L.map Prod.fst)) := wgsB_names (by omega) (fun j hj => Hx.out j hj hj)
      have HC := hide (iasc_any (some ⟨g, 0, none⟩) cp (L.map Prod.fst) wr (by unfold maxLen; simp; omega) (strOf_owns (by rw [← nmsL_all]; exact How.out)))
      rw [List.length_map] at HC
      clear Hx Hr How Hnn Hf
      go_wp2_with fail
      refine HC.out.mono ?_
      rintro e w1 ⟨rfl, hb1⟩
      go_wp2
      go_ret
      exact ⟨ret_bool Hn.out.symm, hbw.trans (hb1.mono hbw.size)⟩
end Go.Proofs.Ytpmhmcekkppbhaa
