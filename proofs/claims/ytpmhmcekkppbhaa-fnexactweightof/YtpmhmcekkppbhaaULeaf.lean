/- Data as cells: the helpers of the laws over rows of texts, numbers and bytes. -/
import Derived.Test.YtpmhmcekkppbhaaU2
import Derived.Test.YtpmhmcekkppbhaaChecked
import Derived.WalkKit
import Derived.WalkSpells
import Derived.WalkLawsBesides
import Derived.Lib.OthersKept
import Derived.BigQuiet
import Derived.Deep.QuietTactic
import Derived.Laws.BytesString
import Derived.Deep.RegionWith
import Derived.Deep.RegionLaw
namespace Go.Proofs.Ytpmhmcekkppbhaa
open Go.RowKit Go.BigFrame
set_option linter.unusedVariables false

theorem infoU {P : Program} {t : TypeId} {z : Value} {k b : Nat} (h : (P.info? t).map (fun i => (i.zero, i.size, i.bytes)) = some (some z, k, b)) : ∃ i, P.info? t = some i ∧ i.zero = some z ∧ i.size = k ∧ i.bytes = b := by
  cases e : P.info? t with
  | none => rw [e] at h; cases h
  | some i => rw [e] at h; simp at h; exact ⟨i, rfl, h.1, h.2.1, h.2.2⟩
theorem tyS.one {n : Nat} {cs : UD} {t : Nat} {q : Nat} (h : tyS 1 n cs t) (hq : q < n) : tyL (rowU cs 1 q) (uE t) := h.row hq
theorem row1 {w : World} {lo hi b off : Nat} {cs : UD} (h : uM w lo hi cs b off) (q : Nat) {v : Value} (hr : rowU cs 1 q = .p v .nil) : w.cell? ⟨b, off + q, none⟩ = some v := by
  have := h.row 1 q
  rw [hr, Nat.mul_one] at this
  exact this.1
theorem at1 {cs : UD} {k q : Nat} {v : Value} (hk : k = 1) (hr : rowU cs k q = .p v .nil) : cs.at? q = some (.p v) := by
  subst hk
  have := rowU_at cs 1 q 0 (by omega)
  rw [hr, Nat.mul_one, Nat.add_zero] at this
  rw [← this]; rfl
def plainF (fs : List UF) : Bool := fs.all fun f => match f with | .i _ => true | .b => true | _ => false
theorem wt_plainU {fs : List UF} (hp : plainF fs = true) : ∀ (d : UD) (i : Nat), tyU d fs i → wt d = 0
  | .nil, _, _ => rfl
  | .p v r, i, ⟨⟨f, h1, h2⟩, h3⟩ => by
    have hf := List.all_eq_true.1 hp f (List.mem_of_getElem? h1)
    rw [wt, wt_plainU hp r (i + 1) h3]
    cases f with
    | i k => obtain ⟨z, rfl, _⟩ := h2; rfl
    | s => cases hf
    | b => obtain ⟨z, rfl⟩ := h2; rfl
    | l k t => cases hf
  | .l k n cs r, i, ⟨⟨t, h1, h2⟩, h3⟩ => by
    have hf := List.all_eq_true.1 hp _ (List.mem_of_getElem? h1)
    cases hf
theorem wt_plain {k n : Nat} {cs : UD} {t : Nat} (h : tyS k n cs t) (hp : plainF (uE t) = true) : wt cs = 0 := wt_plainU hp cs 0 h.2.2.2.2
theorem uszStringS_any {lo hi : Nat} (n : Nat) (cs : UD) (c : Value) (left : Int) (w : World) (ht : tyS 1 n cs 0) (h0 : 0 ≤ left) (h1 : left ≤ 1048576) (hx : uS w lo hi 1 n cs c) :
    Calls Try.prog 76 #[c, .int .i64 left] w fun e w' => e = .returned (.int .i64 (leftI left (n + wt cs))) ∧ Below w.heap.size w w' := by
  obtain ⟨a, cap, rfl, hx2⟩ := hx
  have Hx : Hid (uS w lo hi 1 n cs (.slice a n cap)) := ⟨a, cap, rfl, hx2⟩
  have hmx := ht.2.2.1
  unfold maxLen at hmx
  have Ht := uhide ht
  clear hx2 ht
  by_cases c1 : left - (n : Int) < 0
  · have E : Hid (leftI left (n + wt cs) = -1) := by show _ = _; unfold leftI; rw [if_pos (by omega)]
    go_enter Try.func76, Try.ntmps76
    go_wp2
    go_ret
    exact ⟨ret_intU E.out.symm, Below.refl _ _⟩
  have E : Hid (leftI left (n + wt cs) = leftI (left - n) (wt (cs.dropN (0 * 1)))) := by
    show _ = _
    obtain ⟨g1, g2, g3⟩ := leftI_pos (x := left) (a := n) (wt cs) (by unfold leftI; split <;> omega)
    rw [g1, g2, Nat.zero_mul, UD.dropN_zero]
  go_enter Try.func76, Try.ntmps76
  go_wp2
  go_loopw [1, 5] (fun l i wr => ∃ (q : Nat) (x : Int), q ≤ n ∧ i = .int .i64 q ∧ l = .int .i64 x ∧ 0 ≤ x ∧ x ≤ 1048576 ∧ Hid (leftI left (n + wt cs) = leftI x (wt (cs.dropN (q * 1)))) ∧ Below w.heap.size w wr) (fun _ i _ => n - (intOf i).toNat)
  case atStart => exact ⟨0, _, Nat.zero_le _, rfl, rfl, by omega, by omega, E, Below.refl _ _⟩
  case round =>
    obtain ⟨q, x, hq, rfl, rfl, hx0, hx1, Hs, hbw⟩ := hrel
    by_cases hlt : q < n
    · obtain ⟨b, off, rfl, hbb, hm⟩ := (Hx.out.below hbw).cells (by omega)
      obtain ⟨z0, hR, hz⟩ := partsString (Ht.out.row hlt)
      have q0 := row1 hm q hR
      have hw : wt (cs.dropN (q * 1)) = z0.size + wt (cs.dropN ((q + 1) * 1)) := by rw [UD.drop_row cs 1 q, wt_app, hR]; rfl
      unfold maxLen at hz
      clear hm hR
      by_cases hneg : x - (z0.size : Int) < 0
      · have hr : Hid (leftI left (n + wt cs) = -1) := by rw [show Hid _ = _ from rfl, Hs.out, hw]; exact leftI_neg _ hx0 (by unfold leftI; split <;> omega)
        clear hw Hs E
        go_wp2
        go_ret
        exact ⟨ret_intU hr.out.symm, hbw⟩
      · have hr : Hid (leftI left (n + wt cs) = leftI (x - z0.size) (wt (cs.dropN ((q + 1) * 1)))) := by
          obtain ⟨g1, g2, g3⟩ := leftI_pos (x := x) (a := z0.size) (wt (cs.dropN ((q + 1) * 1))) (by unfold leftI; split <;> omega)
          show _ = _
          rw [Hs.out, hw, g1, g2]
        clear hw Hs E
        go_wp2
        go_roundw
        case rel => exact ⟨q + 1, _, by omega, by go_num, rfl, by omega, by omega, hr, hbw⟩
        case measure => simp [intOf]; omega
    · have e : q = n := by omega
      subst e
      have hr : Hid (leftI left (q + wt cs) = x) := by
        show _ = _
        rw [Hs.out, ← Ht.out.2.2.2.1, UD.dropN_all]
        exact leftI_zero hx0
      clear Hs E
      go_wp2
      go_ret
      exact ⟨ret_intU hr.out.symm, hbw⟩
theorem Try.infoUString : (Try.prog.info? 9).map (fun i => (i.zero, i.size, i.bytes)) = some (some (.string ByteArray.empty), 1, 16) := by kernel_rfl
theorem utoStringS_any {lo hi : Nat} (n : Nat) (cs : UD) (c : Value) (w : World) (ht : tyS 1 n cs 0) (hn : n ≤ 1048576) (hx : uS w lo hi 1 n cs c) :
    Calls Try.prog 78 #[c] w fun e w' => ∃ c' S, e = .returned c' ∧ oS w' 1 n cs c' S ∧ S.Nodup ∧ (∀ s ∈ S, w.heap.size ≤ s) ∧ Below w.heap.size w w' := by
  obtain ⟨i0, hinf, hz0, hz1, hz2⟩ := infoU Try.infoUString
  obtain ⟨a, cap, rfl, hx2⟩ := hx
  have Hx : Hid (uS w lo hi 1 n cs (.slice a n cap)) := ⟨a, cap, rfl, hx2⟩
  have Ht := uhide ht
  clear hx2 ht
  go_enter Try.func78, Try.ntmps78
  go_wp2_with (at_make; refine wpList_make_full _ rfl _ _ 32 rfl w.heap.size 9 i0 _ 1 Try.underlying32 hinf hz0 hz1 _ _ _ _ n rfl rfl rfl rfl (by rw [hz2]; omega) (by unfold maxLen; omega) (Nat.le_refl _) ?_; intro w1 hown hgrow)
  have T0 := uhide (TS.start (cs := cs) hown (Below.grown (Below.refl _ _) hgrow (Nat.le_refl _) (fun k hk => by cases hk)))
  clear hown hgrow
  go_loopw [4] (fun i wr => ∃ (q : Nat), q ≤ n ∧ i = .int .i64 q ∧ Hid (TS w wr 9 1 n cs q)) (fun i _ => n - (intOf i).toNat)
  case atStart => exact ⟨0, Nat.zero_le _, rfl, T0⟩
  case round =>
    clear T0
    obtain ⟨q, hq, rfl, HT⟩ := hrel
    by_cases hlt : q < n
    · obtain ⟨b, off, rfl, hbb, hm⟩ := (Hx.out.below HT.out.bel).cells (by omega)
      obtain ⟨z0, hR, hz⟩ := partsString (Ht.out.row hlt)
      have q0 := row1 hm q hR
      obtain ⟨o0, p0⟩ := HT.out.cell q (by omega)
      have f0 := HT.out.fz q
      have T1 : Hid (TS w (wSet wr w.heap.size (q * 1) [.string z0]) 9 1 n cs (q + 1)) := HT.out.step (Below.refl _ _) (T := []) (by rw [hR]; exact ⟨_, rfl, rfl, rfl⟩) List.nodup_nil (fun t ht => by cases ht) Ht.out.2.2.2.1 hlt
      rw [Nat.mul_one] at T1
      clear hm hR hz
      go_wp2
      go_roundw
      case rel => exact ⟨q + 1, by omega, by go_num, T1⟩
      case measure => simp [intOf]; omega
    · have e : q = n := by omega
      subst e
      obtain ⟨S, h1, h2, h3, h4⟩ := HT.out.done (by decide) Ht.out.2.2.2.1
      have HS : Hid (oS wr 1 q cs (.slice (some ⟨w.heap.size, 0, none⟩) q q) S ∧ S.Nodup ∧ (∀ s ∈ S, w.heap.size ≤ s) ∧ Below w.heap.size w wr) := ⟨h1, h2, h3, h4⟩
      clear h1 h2 h3 h4
      go_wp2
      go_ret
      exact ⟨_, S, rfl, HS.out⟩
theorem ueqStringS_any {lo hi lo' hi' : Nat} (n : Nat) (cs : UD) (c c' : Value) (w : World) (ht : tyS 1 n cs 0) (hx : uS w lo hi 1 n cs c) (hy : uS w lo' hi' 1 n cs c') :
    Calls Try.prog 80 #[c, c'] w fun e w' => e = .returned (.bool true) ∧ Below w.heap.size w w' := by
  obtain ⟨a, cap, rfl, hx2⟩ := hx
  obtain ⟨a', cap', rfl, hy2⟩ := hy
  have Hx : Hid (uS w lo hi 1 n cs (.slice a n cap)) := ⟨a, cap, rfl, hx2⟩
  have Hy : Hid (uS w lo' hi' 1 n cs (.slice a' n cap')) := ⟨a', cap', rfl, hy2⟩
  have hmx := ht.2.2.1
  unfold maxLen at hmx
  have Ht := uhide ht
  have hb0 : ((n : Int) != (n : Int)) = false := by simp
  clear hx2 hy2 ht
  go_enter Try.func80, Try.ntmps80
  go_wp2
  go_loopw [5] (fun i wr => ∃ (q : Nat), q ≤ n ∧ i = .int .i64 q ∧ Below w.heap.size w wr) (fun i _ => n - (intOf i).toNat)
  case atStart => exact ⟨0, Nat.zero_le _, rfl, Below.refl _ _⟩
  case round =>
    obtain ⟨q, hq, rfl, hbw⟩ := hrel
    by_cases hlt : q < n
    · obtain ⟨b, off, rfl, hbb, hm⟩ := (Hx.out.below hbw).cells (by omega)
      obtain ⟨b', off', rfl, hbb', hm'⟩ := (Hy.out.below hbw).cells (by omega)
      obtain ⟨z0, hR, hz⟩ := partsString (Ht.out.row hlt)
      have q0 := row1 hm q hR
      have q0' := row1 hm' q hR
      have he : (z0.toList == z0.toList) = true := by simp
      clear hm hm' hR hz Hx Hy Ht
      go_wp2
      go_quiet (fail)
      go_wp2
      go_roundw
      case rel => exact ⟨q + 1, by omega, by go_num, below_drewN hbw _⟩
      case measure => simp [intOf]; omega
    · have e : q = n := by omega
      subst e
      go_wp2
      go_ret
      exact ⟨rfl, hbw⟩
end Go.Proofs.Ytpmhmcekkppbhaa
