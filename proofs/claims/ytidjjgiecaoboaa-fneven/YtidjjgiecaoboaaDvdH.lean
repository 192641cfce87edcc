/- impl.handOut. -/
import Derived.Test.YtidjjgiecaoboaaDvdQ
namespace Go.Proofs.Ytidjjgiecaoboaa
open Go.RowKit Go.BigFrame
set_option linter.unusedVariables false
/-- what one gets of what it would -/
def minG (C out WT : Nat → Int) (p : Nat) : Int := if C p - out p < WT p then C p - out p else WT p
open Classical in
/-- the shares when those of a list have theirs -/
noncomputable def shareL (l : List Nat) (out G : Nat → Int) (p : Nat) : Int := if p ∈ l then out p + G p else out p
theorem shareL_in {l : List Nat} {out G : Nat → Int} {p : Nat} (h : p ∈ l) : shareL l out G p = out p + G p := if_pos h
theorem shareL_not {l : List Nat} {out G : Nat → Int} {p : Nat} (h : ¬ p ∈ l) : shareL l out G p = out p := if_neg h
theorem take_grow (l : List Nat) (q : Nat) (h : q < l.length) (p : Nat) : p ∈ l.take (q + 1) ↔ p ∈ l.take q ∨ p = l[q] := by
  rw [List.take_add_one, List.getElem?_eq_getElem h, List.mem_append]
  simp
theorem OutR.then_below {lo hi : Nat} {a b c : World} (h : OutR lo hi a b) (hb : Below b.heap.size b c) : OutR lo hi a c :=
  ⟨hb.os.trans h.os, hb.tape.trans h.tape, hb.output.trans h.output, Nat.le_trans h.size hb.size, fun k hk hr => (hb.block k (Nat.lt_of_lt_of_le hk h.size)).trans (h.block k hk hr)⟩
theorem OutR.at {b : Nat} {a w : World} (h : OutR b (b + 1) a w) (x : Nat) (v : Value) : OutR b (b + 1) a (w.setCell ⟨b, x, none⟩ v) :=
  ⟨h.os, h.tape, h.output, by simpa using h.size, fun k hk hr => by
    have hne : b ≠ k := by omega
    rw [← h.block k hk hr]
    simp [World.setCell, Array.getElem?_modify, hne]⟩
set_option maxRecDepth 20000 in
set_option maxHeartbeats 6400000 in
theorem handOut_any (k : Nat) (c2 : UD) (v2 : Value) (lo g cap bS : Nat) (d : Array Nat) (WT R out : Nat → Int) (w : World) (ht2 : tyS 1 k c2 1) (hx2 : uS w lo bS 1 k c2 v2) (hr : w.rowIs bS 3 k (fun j => .int .i64 (out j))) (h3 : R3 w g d.size (fun j => ((d[j]! : Int), WT d[j]!, R d[j]!))) (hg : g < w.heap.size) (hgb : g ≠ bS)
    (hd : ∀ j, j < d.size → d[j]! < k) (hnd : d.toList.Nodup) (h64 : d.size ≤ 64) (hb : ∀ p, p < k → (0 ≤ WT p ∧ WT p ≤ 10000) ∧ 0 ≤ out p ∧ out p ≤ gI (intL c2) p ∧ gI (intL c2) p ≤ 10000) :
    Calls Try.prog 27 #[.slice (some ⟨g, 0, none⟩) d.size cap, v2, .slice (some ⟨bS, 0, none⟩) k k] w fun e w' => e = .returned (.int .i64 (sumL d.toList (fun p => WT p - minG (gI (intL c2)) out WT p))) ∧ w'.rowIs bS 3 k (fun p => .int .i64 (shareL d.toList out (minG (gI (intL c2)) out WT) p)) ∧ OutR bS (bS + 1) w w' := by
  obtain ⟨a2, p2, rfl, hy2⟩ := hx2
  have H2 : Hid (uS w lo bS 1 k c2 (.slice a2 k p2)) := ⟨_, _, rfl, hy2⟩
  have T2 := uhide ht2
  have HD := uhide hd
  have HB := uhide hb
  have HSB : Hid (∀ q, 0 ≤ sumL (d.toList.take q) (fun p => WT p - minG (gI (intL c2)) out WT p) ∧ sumL (d.toList.take q) (fun p => WT p - minG (gI (intL c2)) out WT p) ≤ 640000) := fun q => by
    have h1 := sumL_bd (f := fun p => WT p - minG (gI (intL c2)) out WT p) (a := 10000) (d.toList.take q) (fun p hp => by
      obtain ⟨j, hj, hjd, e⟩ := mem_take.1 hp
      have := hb p (by rw [← e]; exact hd j hjd)
      show 0 ≤ WT p - minG (gI (intL c2)) out WT p ∧ WT p - minG (gI (intL c2)) out WT p ≤ 10000
      unfold minG
      split <;> omega)
    have h2 : (d.toList.take q).length ≤ 64 := by rw [List.length_take, Array.length_toList]; omega
    omega
  have HST : Hid (∀ q (h : q < d.size), sumL (d.toList.take (q + 1)) (fun p => WT p - minG (gI (intL c2)) out WT p) = sumL (d.toList.take q) (fun p => WT p - minG (gI (intL c2)) out WT p) + (WT d[q]! - minG (gI (intL c2)) out WT d[q]!)) := fun q h => by
    rw [sumL_take _ _ q (by rw [Array.length_toList]; exact h), getElem!_pos d q h]; simp
  have HNI : Hid (∀ q, q < d.size → ¬ d[q]! ∈ d.toList.take q) := fun q h hm => by
    have := (in_take hnd h).1 hm
    omega
  have HTG : Hid (∀ q, q < d.size → ∀ p, p ∈ d.toList.take (q + 1) ↔ p ∈ d.toList.take q ∨ p = d[q]!) := fun q h p => by
    rw [take_grow _ q (by rw [Array.length_toList]; exact h), getElem!_pos d q h]; simp
  have R0 : Hid (w.rowIs bS 3 k (fun p => .int .i64 (shareL (d.toList.take 0) out (minG (gI (intL c2)) out WT) p))) := hr.congr (fun p _ => by rw [shareL_not (by simp)])
  have HBL := uhide hr.lt
  have H3 := uhide h3
  clear hy2 ht2 hd hb hr h3 hnd
  go_enter Try.func27, Try.ntmps27
  go_wp2
  go_loopw [7, 13] (fun s i wr => ∃ q : Nat, q ≤ d.size ∧ i = .int .i64 q ∧ s = .int .i64 (sumL (d.toList.take q) (fun p => WT p - minG (gI (intL c2)) out WT p)) ∧ Hid (wr.rowIs bS 3 k (fun p => .int .i64 (shareL (d.toList.take q) out (minG (gI (intL c2)) out WT) p))) ∧ Hid (OutR bS (bS + 1) w wr)) (fun _ i _ => d.size - (intOf i).toNat)
  case atStart => exact ⟨0, Nat.zero_le _, rfl, rfl, R0, ⟨rfl, rfl, rfl, Nat.le_refl _, fun _ _ _ => rfl⟩⟩
  case round =>
    clear R0
    obtain ⟨q, hq, rfl, rfl, RW, HO⟩ := hrel
    by_cases hlt : q < d.size
    · have hdk := HD.out q hlt
      obtain ⟨b2, off2, rfl, hb2, -⟩ := (H2.out.out HO.out (.inl (Nat.le_refl _))).cells (by omega)
      have q2 := cell_int T2.out (H2.out.out HO.out (.inl (Nat.le_refl _))) d[q]! hdk
      have hb2s : b2 < bS := by
        obtain ⟨a9, p9, e9, -, h9⟩ := H2.out
        obtain ⟨b', o', e', -, hlt', -⟩ := h9 (by omega)
        cases e9; cases e'; exact hlt'
      have hne2 : b2 ≠ bS := by omega
      have R3q : Hid (R3 wr g d.size (fun j => ((d[j]! : Int), WT d[j]!, R d[j]!))) := fun j hj => by
        obtain ⟨⟨y0, y1, y2⟩, y3⟩ := H3.out j hj
        have hr' : g < bS ∨ bS + 1 ≤ g := by omega
        exact ⟨⟨(HO.out.cell (p := ⟨g, j * 3, none⟩) hg hr').trans y0, (HO.out.cell (p := ⟨g, j * 3 + 1, none⟩) hg hr').trans y1, (HO.out.cell (p := ⟨g, j * 3 + 2, none⟩) hg hr').trans y2⟩, (World.frozen?_of_block (w := w) (a := ⟨g, j * 3 + 1, none⟩) (HO.out.block g hg hr')).trans y3⟩
      obtain ⟨⟨x0, x1, x2⟩, -⟩ := R3q.out q hlt
      simp only at x0 x1 x2
      have xo := RW.out.cell hdk
      have fo := RW.out.frozen d[q]!
      rw [shareL_not (HNI.out q hlt)] at xo
      have hsb := HSB.out q
      have hsb2 := HSB.out (q + 1)
      rw [HST.out q hlt] at hsb2
      have HS := uhide (HST.out q hlt)
      have hbb := HB.out d[q]! hdk
      have HMG : Hid (minG (gI (intL c2)) out WT d[q]! = if gI (intL c2) d[q]! - out d[q]! < WT d[q]! then gI (intL c2) d[q]! - out d[q]! else WT d[q]!) := rfl
      have HRW : Hid (∀ (wx : World) z, wx.rowIs bS 3 k (fun p => .int .i64 (shareL (d.toList.take q) out (minG (gI (intL c2)) out WT) p)) → z = out d[q]! + minG (gI (intL c2)) out WT d[q]! → World.rowIs (wx.setCell ⟨bS, d[q]!, none⟩ (.int .i64 z)) bS 3 k (fun p => .int .i64 (shareL (d.toList.take (q + 1)) out (minG (gI (intL c2)) out WT) p))) := fun wx z h hz => (h.set d[q]! (.int .i64 z)).congr (fun p _ => by
        by_cases e : p = d[q]!
        · subst e
          rw [if_pos rfl, shareL_in ((HTG.out q hlt _).2 (.inr rfl)), hz]
        · rw [if_neg e]
          by_cases hm : p ∈ d.toList.take q
          · rw [shareL_in hm, shareL_in ((HTG.out q hlt _).2 (.inl hm))]
          · rw [shareL_not hm, shareL_not (fun h => ((HTG.out q hlt _).1 h).elim hm e)])
      have hbl : bS < wr.heap.size := RW.out.lt
      have hgl : g < wr.heap.size := by have := HO.out.size; omega
      generalize sumL (d.toList.take q) (fun p => WT p - minG (gI (intL c2)) out WT p) = SQ at *
      generalize minG (gI (intL c2)) out WT d[q]! = G at *
      generalize R d[q]! = RR at *
      generalize WT d[q]! = WW at *
      generalize out d[q]! = OO at *
      generalize gI (intL c2) d[q]! = CC at *
      generalize d[q]! = p at *
      clear H2 T2 HD HB HSB HST HNI HTG H3 R3q
      have hG : G = min WW (CC - OO) := by rw [HMG.out]; split <;> omega
      subst hG
      clear HMG
      go_wp2
      go_quiet (fail)
      go_wp2
      have HB2 : Hid (∀ j, Below wr.heap.size wr ((wr.alloc (.cells #[.int .i64 p, .int .i64 WW, .int .i64 RR] 56)).drewN j)) := fun j => below_drewN ((Below.refl _ _).alloc (Nat.le_refl _) _) j
      go_roundw
      case rel => exact ⟨q + 1, by omega, by go_num, by rw [HS.out], HRW.out _ _ (rowIs_below RW.out (HB2.out _)) rfl, (HO.out.then_below (HB2.out _)).at _ _⟩
      case measure => simp [intOf]; omega
    · have e : q = d.size := by omega
      subst e
      rw [show d.toList.take d.size = d.toList from by rw [← Array.length_toList, List.take_length]] at RW ⊢
      go_wp2
      go_ret
      exact ⟨rfl, RW.out, HO.out⟩
end Go.Proofs.Ytidjjgiecaoboaa
