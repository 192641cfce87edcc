/- impl.openPlaces. -/
import Derived.Test.YtidjjgiecaoboaaShrI
import Derived.Test.YtidjjgiecaoboaaShrV
import Derived.Test.YtidjjgiecaoboaaIRw
import Derived.Test.YtidjjgiecaoboaaDvdP
import Derived.WideShapes
namespace Go.Proofs.Ytidjjgiecaoboaa
open Go.RowKit Go.BigFrame
set_option linter.unusedVariables false
def natI (l : List Nat) : List Int := l.map (fun (p : Nat) => (p : Int))
theorem natI_len (l : List Nat) : (natI l).length = l.length := by unfold natI; rw [List.length_map]
theorem IR.shape {w : World} {base : Nat} {v : Value} {l : List Int} (h : IR w base v l) : ∃ g cap, v = .slice (some ⟨g, 0, none⟩) l.length cap ∧ base ≤ g ∧ g < w.heap.size := by
  obtain ⟨h1, g, h2, h3, h4⟩ := h
  rcases h1.2 with ⟨e, _⟩ | ⟨g', cap, cur, e, hb, hh, _⟩
  · rw [e] at h2; cases h2
  · subst e
    have : g' = g := by simpa [Value.ownBlock] using h2
    subst this
    exact ⟨g', cap, rfl, h3, h4⟩
theorem cell_new1 {w wx : World} {x : Value} {t : TypeId} (hb : Below (w.heap.size + 1) (w.alloc (.cells #[x] t)) wx) : ∀ j u, [x][j]? = some u → wx.cell? ((⟨w.heap.size, 0, none⟩ : Addr).add j) = some u := fun j u h =>
  (hb.cell (p := (⟨w.heap.size, 0, none⟩ : Addr).add j) (by rw [Go.WideShapes.add_plain]; show w.heap.size < _; omega)).trans (cell_one_new w x t j u h)
set_option maxRecDepth 20000 in
set_option maxHeartbeats 3200000 in
theorem openPlaces_any (k : Nat) (c1 c2 : UD) (v1 v2 : Value) (lo hi lo' hi' bS : Nat) (out : Nat → Int) (w : World) (ht1 : tyS 1 k c1 1) (ht2 : tyS 1 k c2 1) (hx1 : uS w lo hi 1 k c1 v1) (hx2 : uS w lo' hi' 1 k c2 v2) (h64 : k ≤ 64) (hr : w.rowIs bS 3 k (fun j => .int .i64 (out j))) :
    Calls Try.prog 26 #[v1, v2, .slice (some ⟨bS, 0, none⟩) k k] w fun e w' => ∃ v, e = .returned v ∧ IR w' w.heap.size v (natI (opensL k (openF k (gI (intL c1)) (gI (intL c2)) out))) ∧ Below w.heap.size w w' := by
  obtain ⟨a1, p1, rfl, hy1⟩ := hx1
  obtain ⟨a2, p2, rfl, hy2⟩ := hx2
  have H1 : Hid (uS w lo hi 1 k c1 (.slice a1 k p1)) := ⟨_, _, rfl, hy1⟩
  have H2 : Hid (uS w lo' hi' 1 k c2 (.slice a2 k p2)) := ⟨_, _, rfl, hy2⟩
  have T1 := uhide ht1
  have T2 := uhide ht2
  have HR := uhide hr
  obtain ⟨i0, hi0, hz0, hz1, hz2⟩ := infoD Try.infoDInt
  have HO : Hid (∀ q, q < k → (openF k (gI (intL c1)) (gI (intL c2)) out q = true ↔ 0 < gI (intL c1) q ∧ out q < gI (intL c2) q)) := fun q hq => by
    unfold openF; rw [decide_eq_true_eq]; exact ⟨fun h => h.2, fun h => ⟨hq, h⟩⟩
  generalize openF k (gI (intL c1)) (gI (intL c2)) out = O at *
  have I0 : Hid (IR (w.alloc (.cells #[] 3)) w.heap.size (.slice (some ⟨w.heap.size, 0, none⟩) 0 0) (natI (opensL 0 O))) := IR.lit w w.heap.size (Nat.le_refl _)
  have B0 : Hid (Below w.heap.size w (w.alloc (.cells #[] 3))) := (Below.refl _ _).alloc (Nat.le_refl _) _
  clear hy1 hy2 ht1 ht2 hr
  go_enter Try.func26, Try.ntmps26
  go_wp2
  go_loopw [7, 13] (fun v i wr => ∃ (q n cap : Nat) (g : Nat), q ≤ k ∧ i = .int .i64 q ∧ v = .slice (some ⟨g, 0, none⟩) n cap ∧ Hid (n = (opensL q O).length) ∧ n ≤ q ∧ Hid (IR wr w.heap.size (.slice (some ⟨g, 0, none⟩) n cap) (natI (opensL q O))) ∧ Hid (Below w.heap.size w wr)) (fun _ i _ => k - (intOf i).toNat)
  case atStart => exact ⟨0, 0, 0, w.heap.size, Nat.zero_le _, rfl, rfl, rfl, Nat.le_refl _, I0, B0⟩
  case round =>
    clear I0 B0
    obtain ⟨q, n, cap, g, hq, rfl, rfl, HN, hnq, V, HB⟩ := hrel
    by_cases hlt : q < k
    · obtain ⟨b1, off1, rfl, hb1, -⟩ := (H1.out.below HB.out).cells (by omega)
      obtain ⟨b2, off2, rfl, hb2, -⟩ := (H2.out.below HB.out).cells (by omega)
      have q1 := cell_int T1.out (H1.out.below HB.out) q hlt
      have q2 := cell_int T2.out (H2.out.below HB.out) q hlt
      have q3 := (rowIs_below HR.out HB.out).cell hlt
      have HOQ := uhide (HO.out q hlt)
      have HSU : Hid (opensL (q + 1) O = opensL q O ++ (if O q = true then [q] else [])) := opensL_succ q O
      generalize gI (intL c1) q = X at *
      generalize gI (intL c2) q = Y at *
      generalize out q = Z at *
      by_cases hx : 0 < X
      rotate_left
      · have z0 : decide ((0 : Int) < X) = false := by rw [decide_eq_false_iff_not]; exact hx
        have hop : ¬ O q = true := fun h => hx (HOQ.out.1 h).1
        have e := HSU.out
        rw [if_neg hop, List.append_nil] at e
        have E := uhide e
        have V2 : Hid (∀ j, IR (wr.drewN j) w.heap.size (.slice (some ⟨g, 0, none⟩) n cap) (natI (opensL q O))) := fun j => V.out.below (below_drewN (Below.refl _ _) j)
        clear e HSU HOQ hop H1 H2 T1 T2 HR HO
        go_wp2
        go_region
        all_goals (
          go_wp2
          go_roundw
          case rel => exact ⟨q + 1, n, cap, g, by omega, by go_num, rfl, (by show n = _; rw [E.out]; exact HN.out), by omega, by rw [E.out]; (first | exact V | exact V2.out _), by first | exact HB | exact below_drewN HB.out _⟩
          case measure => simp [intOf]; omega)
      by_cases hzy : Z < Y
      rotate_left
      · have z0 : decide (Z < Y) = false := by rw [decide_eq_false_iff_not]; exact hzy
        have hop : ¬ O q = true := fun h => hzy (HOQ.out.1 h).2
        have e := HSU.out
        rw [if_neg hop, List.append_nil] at e
        have E := uhide e
        have V2 : Hid (∀ j, IR (wr.drewN j) w.heap.size (.slice (some ⟨g, 0, none⟩) n cap) (natI (opensL q O))) := fun j => V.out.below (below_drewN (Below.refl _ _) j)
        clear e HSU HOQ hop H1 H2 T1 T2 HR HO
        go_wp2
        go_region
        all_goals (
          go_wp2
          go_roundw
          case rel => exact ⟨q + 1, n, cap, g, by omega, by go_num, rfl, (by show n = _; rw [E.out]; exact HN.out), by omega, by rw [E.out]; (first | exact V | exact V2.out _), by first | exact HB | exact below_drewN HB.out _⟩
          case measure => simp [intOf]; omega)
      have hop : O q = true := HOQ.out.2 ⟨hx, hzy⟩
      have e := HSU.out
      rw [if_pos hop] at e
      have E := uhide e
      clear e HSU HOQ hop H1 H2 T1 T2 HR HO
      go_wp2
      go_region
      all_goals (
        have Bd : Hid (∀ j, Below w.heap.size w (wr.drewN j)) := fun j => below_drewN HB.out j
        have hws : w.heap.size ≤ wr.heap.size := HB.out.size
        have hnl : (natI (opensL q O)).length = n := by rw [natI_len]; exact HN.out.symm
        have VN : Hid (∀ wx, Below wr.heap.size wr wx → wx.ownsRow w.heap.size 3 1 (.slice (some ⟨g, 0, none⟩) n cap) n ((natI (opensL q O)).map (Value.int .i64))) := fun wx hb => by
          have := (V.out.below hb).1
          rw [hnl] at this; exact this
        clear hnl
        go_wp2_with (at_builtin; refine wpList_append_own_at _ rfl _ _ 24 rfl w.heap.size 3 i0 _ 1 8 Try.underlying24 hi0 hz0 hz1 hz2 rfl (by decide) _ _ _ rfl (VN.out _ (by repeat (first | with_reducible exact Below.refl _ _ | with_reducible refine Below.drew ?_ | with_reducible refine below_drewN ?_ _ | with_reducible refine Below.alloc ?_ (by simp) _))) ⟨wr.heap.size, 0, none⟩ 1 1 [.int .i64 q] rfl rfl (cell_new1 (t := 3) (by repeat (first | with_reducible exact Below.refl _ _ | with_reducible refine Below.drew ?_ | with_reducible refine below_drewN ?_ _))) (fun x hx => by simp at hx; rcases hx with rfl; rfl) (by unfold maxLen; omega) (by omega) (by simp; omega) ?_; intro v3 w3 hown hgrow hnil hat)
        have I3 : Hid (IR w3 w.heap.size v3 (natI (opensL (q + 1) O))) := by
          have h0 : IR ((wr.alloc (.cells #[.int .i64 (q : Int)] 3)).drew) w.heap.size (.slice (some ⟨g, 0, none⟩) n cap) (natI (opensL q O)) := V.out.below (by repeat (first | with_reducible exact Below.refl _ _ | with_reducible refine Below.drew ?_ | with_reducible refine Below.alloc ?_ (by simp) _))
          have e1 : natI (opensL (q + 1) O) = natI (opensL q O) ++ [(q : Int)] := by rw [E.out]; unfold natI; rw [List.map_append]; rfl
          rw [e1]
          exact h0.snoc (by rw [natI_len, ← HN.out]; exact hown) hat
        have HB3 : Hid (Below w.heap.size w w3) := Below.grown ((HB.out.alloc hws _).drew) hgrow (by simp; omega) (fun j hj => V.out.row j hj)
        have HN3 : Hid (n + 1 = (opensL (q + 1) O).length) := by
          show _ = _
          rw [E.out, List.length_append, ← HN.out]; rfl
        obtain ⟨g3, cap3, e3, -, -⟩ := I3.out.shape
        rw [natI_len, ← HN3.out] at e3
        subst e3
        clear hown hgrow hnil hat VN V HB HN E Bd
        go_roundw
        case rel => exact ⟨q + 1, n + 1, cap3, g3, by omega, by go_num, rfl, HN3, by omega, I3, HB3⟩
        case measure => simp [intOf]; omega)
    · have e : q = k := by omega
      subst e
      go_wp2
      go_ret
      exact ⟨_, rfl, V.out, HB.out⟩
end Go.Proofs.Ytidjjgiecaoboaa
