/- Texts of one claim, joined: each in its own section, in build order. -/
import Derived.Test.YtdnodaoeflbfkaaGreatJ4
import Derived.Deep.RegionHeld3
import Derived.Test.YtdnodaoeflbfkaaGreatJ3
import Derived.Test.YtdnodaoeflbfkaaGreatJ2
import Derived.Test.YtdnodaoeflbfkaaGreatJ1
import Derived.Maps.AppendAt
import Derived.Sort.LotA
import Derived.WideShapes
import Derived.Shelf.SlSortCmp.KitK
import Derived.WalkKit
/- Rows of islands and wants that are all right, by the program: allOk. -/
namespace Go.Proofs.YtdnodaoeflbfkaaGreat
open Go.RowKit Go.BigFrame
set_option linter.unusedVariables false

theorem all_bad {α : Type} {p : α → Bool} {l : List α} {k : Nat} (hk : k < l.length) (h : p (l[k]'hk) = false) : l.all p = false := by
  rw [Bool.eq_false_iff]
  intro g
  have := List.all_eq_true.1 g _ (List.getElem_mem hk)
  rw [h] at this; cases this
theorem all_end {α : Type} {p : α → Bool} {l : List α} (h : ∀ j (hj : j < l.length), p (l[j]'hj) = true) : l.all p = true := by
  rw [List.all_eq_true]
  intro x hx
  obtain ⟨j, hj, rfl⟩ := List.getElem_of_mem hx
  exact h j hj
set_option maxHeartbeats 800000 in
theorem clIs_any (I : IsD) (ys : List Value) (b : Nat) (w : World) (hq : okIs1 I) (hx : isH w I ys) (hc : w.cell? ⟨b, 0, none⟩ = some (.func (.func 75) #[] #[])) :
    Calls Tryz.prog 151 #[.agg ys.toArray, .pointer (some ⟨b, 0, none⟩)] w fun e w' => e = .returned (.bool (!islB I)) ∧ Below w.heap.size w w' := by
  have HC0 : Hid (∀ wx, Below w.heap.size w wx → Calls Tryz.prog 75 #[.agg ys.toArray] wx fun e w' => e = .returned (.bool (islB I)) ∧ Below wx.heap.size wx w') := fun wx hb => iIslandOk_any I ys wx hq (hx.below hb)
  obtain ⟨d1, d2, rfl, ⟨b1, r1, rfl, g1⟩, b2, r2, rfl, g2⟩ := hx
  have OX : Hid (objU (w.alloc (.cells #[.string I.1, .slice b1 I.2.1.length r1, .slice b2 I.2.2.1.length r2, .int .i64 I.2.2.2] 111)) w.heap.size 111 [.string I.1, .slice b1 I.2.1.length r1, .slice b2 I.2.2.1.length r2, .int .i64 I.2.2.2]) := objU.new _ _ _
  have BX : Hid (Below w.heap.size w (w.alloc (.cells #[.string I.1, .slice b1 I.2.1.length r1, .slice b2 I.2.2.1.length r2, .int .i64 I.2.2.2] 111))) := (Below.refl _ _).alloc (Nat.le_refl _) _
  have hbl := World.block_lt_of_cell? _ _ hc
  clear hq g1 g2
  generalize islB I = r at *
  go_enter Tryz.func151, Tryz.ntmps151
  have x0 := OX.out.cell 0 _ rfl
  have x1 := OX.out.cell 1 _ rfl
  have x2 := OX.out.cell 2 _ rfl
  have x3 := OX.out.cell 3 _ rfl
  have cc := (BX.out.cell (p := ⟨b, 0, none⟩) hbl).trans hc
  go_wp2_with fail
  refine (HC0.out _ BX.out).mono ?_
  rintro e w1 ⟨rfl, hb1⟩
  have BX1 : Hid (Below w.heap.size w w1) := BX.out.trans (hb1.mono BX.out.size)
  clear OX BX hb1 x0 x1 x2 x3 cc
  go_wp2
  go_ret
  exact ⟨rfl, BX1.out⟩
set_option maxRecDepth 20000 in
set_option maxHeartbeats 800000 in
theorem ixIs_any (l : List IsD) (c : Value) (b : Nat) (w : World) (hl : l.length ≤ maxLen) (hq : ∀ I ∈ l, okIs1 I) (hx : isS w c l) (hc : w.cell? ⟨b, 0, none⟩ = some (.func (.func 75) #[] #[])) :
    Calls Tryz.prog 203 #[c, .func (.func 151) #[] #[.pointer (some ⟨b, 0, none⟩)]] w fun e w' => ∃ r : Int, e = .returned (.int .i64 r) ∧ ((l.all islB = true ∧ r = -1) ∨ (l.all islB = false ∧ 0 ≤ r)) ∧ Below w.heap.size w w' := by
  have HX := hide hx
  have HC : Hid (∀ (I : IsD) (ys : List Value) (wx : World), I ∈ l → isH wx I ys → Below w.heap.size w wx → Calls Tryz.prog 151 #[.agg ys.toArray, .pointer (some ⟨b, 0, none⟩)] wx fun e w' => e = .returned (.bool (!islB I)) ∧ Below wx.heap.size wx w') := fun I ys wx hI h hb => clIs_any I ys b wx (hq I hI) h ((hb.cell (p := ⟨b, 0, none⟩) (World.block_lt_of_cell? _ _ hc)).trans hc)
  unfold maxLen at hl
  obtain ⟨a, pc, rfl, -⟩ := hx
  clear hq hc
  go_enter Tryz.func203, Tryz.ntmps203
  go_wp2
  go_loopw [8] (fun i wr => ∃ (q : Nat), q ≤ l.length ∧ i = .int .i64 q ∧ Hid (∀ j (hj : j < l.length), j < q → islB (l[j]'hj) = true) ∧ Hid (Below w.heap.size w wr)) (fun i _ => l.length - (intOf i).toNat)
  case atStart => exact ⟨0, Nat.zero_le _, rfl, (fun j _ h => by omega), Below.refl _ _⟩
  case round =>
    obtain ⟨q, hq, rfl, Ho, Hb⟩ := hrel
    by_cases hlt : q < l.length
    · obtain ⟨a', p', e, hrows⟩ := HX.out.below Hb.out
      cases e
      obtain ⟨bb, off, rfl, hat⟩ := hrows (by omega)
      obtain ⟨d1, d2, c0, c1, c2, c3, ⟨b1, r1, rfl, g1⟩, b2, r2, rfl, g2⟩ := hat q hlt
      have HCx := hide (HC.out (l[q]'hlt) [.string (l[q]'hlt).1, .slice b1 (l[q]'hlt).2.1.length r1, .slice b2 (l[q]'hlt).2.2.1.length r2, .int .i64 (l[q]'hlt).2.2.2] wr (List.getElem_mem hlt) ⟨_, _, rfl, ⟨_, _, rfl, g1⟩, _, _, rfl, g2⟩ Hb.out)
      have Hy : Hid (islB (l[q]'hlt) = false → l.all islB = false) := fun h => all_bad hlt h
      have Hn : Hid (islB (l[q]'hlt) = true → ∀ j (hj : j < l.length), j < q + 1 → islB (l[j]'hj) = true) := fun h j hj hjq => by
        by_cases e : j = q
        · subst e; exact h
        · exact Ho.out j hj (by omega)
      clear Ho hat HC hrows g1 g2
      generalize islB (l[q]'hlt) = r at *
      generalize (l[q]'hlt).1 = z0 at *
      generalize (l[q]'hlt).2.1.length = z1 at *
      generalize (l[q]'hlt).2.2.1.length = z2 at *
      generalize (l[q]'hlt).2.2.2 = z3 at *
      cases r with
      | false =>
        have HN := hide (Hy.out (by first | rfl | trivial))
        clear Hy Hn
        go_wp2_with fail
        refine HCx.out.mono ?_
        rintro e w1 ⟨rfl, hb1⟩
        go_wp2
        go_ret
        exact ⟨_, rfl, .inr ⟨HN.out, by omega⟩, Hb.out.trans (hb1.mono Hb.out.size)⟩
      | true =>
        have HN := hide (Hn.out (by first | rfl | trivial))
        clear Hy Hn
        go_wp2_with fail
        refine HCx.out.mono ?_
        rintro e w1 ⟨rfl, hb1⟩
        go_wp2
        go_roundw
        case rel => exact ⟨q + 1, by omega, by go_num, HN, Hb.out.trans (hb1.mono Hb.out.size)⟩
        case measure => simp [intOf]; omega
    · have e : q = l.length := by omega
      subst e
      have HN := hide (all_end (p := islB) (fun j hj => Ho.out j hj hj))
      clear Ho HX HC
      go_wp2
      go_ret
      exact ⟨_, rfl, .inl ⟨HN.out, rfl⟩, Hb.out⟩
set_option maxHeartbeats 800000 in
theorem cfIs_any (l : List IsD) (c : Value) (b : Nat) (w : World) (hl : l.length ≤ maxLen) (hq : ∀ I ∈ l, okIs1 I) (hx : isS w c l) (hc : w.cell? ⟨b, 0, none⟩ = some (.func (.func 75) #[] #[])) :
    Calls Tryz.prog 150 #[c, .func (.func 151) #[] #[.pointer (some ⟨b, 0, none⟩)]] w fun e w' => e = .returned (.bool (!l.all islB)) ∧ Below w.heap.size w w' := by
  have HC := hide (ixIs_any l c b w hl hq hx hc)
  clear hq hx hc
  go_enter Tryz.func150, Tryz.ntmps150
  go_wp2_with fail
  refine HC.out.mono ?_
  rintro e w1 ⟨r, rfl, ⟨hr, rfl⟩ | ⟨hr, h0⟩, hb⟩
  · have HN := hide hr
    clear hr
    go_wp2
    go_ret
    exact ⟨ret_bool (by rw [HN.out]; rfl), hb⟩
  · have HN := hide hr
    clear hr
    go_wp2
    go_ret
    exact ⟨ret_bool (by rw [HN.out]; first | (simp; done) | (simp; omega)), hb⟩
set_option maxHeartbeats 800000 in
theorem allOkIs_any (l : List IsD) (c : Value) (m : Nat) (w : World) (hl : l.length ≤ maxLen) (hq : ∀ I ∈ l, okIs1 I) (hx : isS w c l) :
    Calls Tryz.prog 74 #[c, .int .i64 (m : Int), .func (.func 75) #[] #[]] w fun e w' => e = .returned (.bool (decide (l.length ≤ m) && l.all islB)) ∧ Below w.heap.size w w' := by
  have OX : Hid (objU (w.alloc (.cells #[.func (.func 75) #[] #[]] 108)) w.heap.size 108 [.func (.func 75) #[] #[]]) := objU.new _ _ _
  have BX : Hid (Below w.heap.size w (w.alloc (.cells #[.func (.func 75) #[] #[]] 108))) := (Below.refl _ _).alloc (Nat.le_refl _) _
  have HC := hide (cfIs_any l c w.heap.size _ hl hq (hx.below BX.out) (OX.out.cell 0 _ rfl))
  unfold maxLen at hl
  obtain ⟨a, pc, rfl, -⟩ := hx
  clear hq
  go_enter Tryz.func74, Tryz.ntmps74
  by_cases h4 : l.length ≤ m
  · have h4' : (l.length : Int) ≤ (m : Int) := by omega
    rw [decide_eq_true h4, Bool.true_and]
    clear h4
    generalize l.all islB = r at *
    go_wp2_with fail
    refine HC.out.mono ?_
    rintro e w1 ⟨rfl, hb1⟩
    have BX1 : Hid (Below w.heap.size w w1) := BX.out.trans (hb1.mono BX.out.size)
    clear hb1 OX BX
    go_wp2
    go_ret
    exact ⟨ret_bool (by simp), BX1.out⟩
  · have h4' : ¬ (l.length : Int) ≤ (m : Int) := by omega
    rw [decide_eq_false h4, Bool.false_and]
    clear h4 HC
    go_wp2
    go_ret
    exact ⟨rfl, BX.out⟩
set_option maxHeartbeats 800000 in
theorem clWa_any (I : WaD) (ys : List Value) (b : Nat) (w : World) (hq : okWa I) (hx : waH w I ys) (hc : w.cell? ⟨b, 0, none⟩ = some (.func (.func 73) #[] #[])) :
    Calls Tryz.prog 164 #[.agg ys.toArray, .pointer (some ⟨b, 0, none⟩)] w fun e w' => e = .returned (.bool (!wanB I)) ∧ Below w.heap.size w w' := by
  have HC0 : Hid (∀ wx, Below w.heap.size w wx → Calls Tryz.prog 73 #[.agg ys.toArray] wx fun e w' => e = .returned (.bool (wanB I)) ∧ Below wx.heap.size wx w') := fun wx hb => iWantOk_any I ys wx hq (hx.below hb)
  obtain ⟨d1, d2, d3, rfl, ⟨b1, r1, rfl, g1⟩, ⟨b2, r2, rfl, g2⟩, b3, r3, rfl, g3⟩ := hx
  have OX : Hid (objU (w.alloc (.cells #[.int .i64 I.1, .slice b1 I.2.1.length r1, .slice b2 I.2.2.1.length r2, .slice b3 I.2.2.2.length r3] 35)) w.heap.size 35 [.int .i64 I.1, .slice b1 I.2.1.length r1, .slice b2 I.2.2.1.length r2, .slice b3 I.2.2.2.length r3]) := objU.new _ _ _
  have BX : Hid (Below w.heap.size w (w.alloc (.cells #[.int .i64 I.1, .slice b1 I.2.1.length r1, .slice b2 I.2.2.1.length r2, .slice b3 I.2.2.2.length r3] 35))) := (Below.refl _ _).alloc (Nat.le_refl _) _
  have hbl := World.block_lt_of_cell? _ _ hc
  clear hq g1 g2 g3
  generalize wanB I = r at *
  go_enter Tryz.func164, Tryz.ntmps164
  have x0 := OX.out.cell 0 _ rfl
  have x1 := OX.out.cell 1 _ rfl
  have x2 := OX.out.cell 2 _ rfl
  have x3 := OX.out.cell 3 _ rfl
  have cc := (BX.out.cell (p := ⟨b, 0, none⟩) hbl).trans hc
  go_wp2_with fail
  refine (HC0.out _ BX.out).mono ?_
  rintro e w1 ⟨rfl, hb1⟩
  have BX1 : Hid (Below w.heap.size w w1) := BX.out.trans (hb1.mono BX.out.size)
  clear OX BX hb1 x0 x1 x2 x3 cc
  go_wp2
  go_ret
  exact ⟨rfl, BX1.out⟩
set_option maxRecDepth 20000 in
set_option maxHeartbeats 800000 in
theorem ixWa_any (l : List WaD) (c : Value) (b : Nat) (w : World) (hl : l.length ≤ maxLen) (hq : ∀ I ∈ l, okWa I) (hx : waS w c l) (hc : w.cell? ⟨b, 0, none⟩ = some (.func (.func 73) #[] #[])) :
    Calls Tryz.prog 212 #[c, .func (.func 164) #[] #[.pointer (some ⟨b, 0, none⟩)]] w fun e w' => ∃ r : Int, e = .returned (.int .i64 r) ∧ ((l.all wanB = true ∧ r = -1) ∨ (l.all wanB = false ∧ 0 ≤ r)) ∧ Below w.heap.size w w' := by
  have HX := hide hx
  have HC : Hid (∀ (I : WaD) (ys : List Value) (wx : World), I ∈ l → waH wx I ys → Below w.heap.size w wx → Calls Tryz.prog 164 #[.agg ys.toArray, .pointer (some ⟨b, 0, none⟩)] wx fun e w' => e = .returned (.bool (!wanB I)) ∧ Below wx.heap.size wx w') := fun I ys wx hI h hb => clWa_any I ys b wx (hq I hI) h ((hb.cell (p := ⟨b, 0, none⟩) (World.block_lt_of_cell? _ _ hc)).trans hc)
  unfold maxLen at hl
  obtain ⟨a, pc, rfl, -⟩ := hx
  clear hq hc
  go_enter Tryz.func212, Tryz.ntmps212
  go_wp2
  go_loopw [8] (fun i wr => ∃ (q : Nat), q ≤ l.length ∧ i = .int .i64 q ∧ Hid (∀ j (hj : j < l.length), j < q → wanB (l[j]'hj) = true) ∧ Hid (Below w.heap.size w wr)) (fun i _ => l.length - (intOf i).toNat)
  case atStart => exact ⟨0, Nat.zero_le _, rfl, (fun j _ h => by omega), Below.refl _ _⟩
  case round =>
    obtain ⟨q, hq, rfl, Ho, Hb⟩ := hrel
    by_cases hlt : q < l.length
    · obtain ⟨a', p', e, hrows⟩ := HX.out.below Hb.out
      cases e
      obtain ⟨bb, off, rfl, hat⟩ := hrows (by omega)
      obtain ⟨d1, d2, d3, c0, c1, c2, c3, ⟨b1, r1, rfl, g1⟩, ⟨b2, r2, rfl, g2⟩, b3, r3, rfl, g3⟩ := hat q hlt
      have HCx := hide (HC.out (l[q]'hlt) [.int .i64 (l[q]'hlt).1, .slice b1 (l[q]'hlt).2.1.length r1, .slice b2 (l[q]'hlt).2.2.1.length r2, .slice b3 (l[q]'hlt).2.2.2.length r3] wr (List.getElem_mem hlt) ⟨_, _, _, rfl, ⟨_, _, rfl, g1⟩, ⟨_, _, rfl, g2⟩, _, _, rfl, g3⟩ Hb.out)
      have Hy : Hid (wanB (l[q]'hlt) = false → l.all wanB = false) := fun h => all_bad hlt h
      have Hn : Hid (wanB (l[q]'hlt) = true → ∀ j (hj : j < l.length), j < q + 1 → wanB (l[j]'hj) = true) := fun h j hj hjq => by
        by_cases e : j = q
        · subst e; exact h
        · exact Ho.out j hj (by omega)
      clear Ho hat HC hrows g1 g2 g3
      generalize wanB (l[q]'hlt) = r at *
      generalize (l[q]'hlt).1 = z0 at *
      generalize (l[q]'hlt).2.1.length = z1 at *
      generalize (l[q]'hlt).2.2.1.length = z2 at *
      generalize (l[q]'hlt).2.2.2.length = z3 at *
      cases r with
      | false =>
        have HN := hide (Hy.out (by first | rfl | trivial))
        clear Hy Hn
        go_wp2_with fail
        refine HCx.out.mono ?_
        rintro e w1 ⟨rfl, hb1⟩
        go_wp2
        go_ret
        exact ⟨_, rfl, .inr ⟨HN.out, by omega⟩, Hb.out.trans (hb1.mono Hb.out.size)⟩
      | true =>
        have HN := hide (Hn.out (by first | rfl | trivial))
        clear Hy Hn
        go_wp2_with fail
        refine HCx.out.mono ?_
        rintro e w1 ⟨rfl, hb1⟩
        go_wp2
        go_roundw
        case rel => exact ⟨q + 1, by omega, by go_num, HN, Hb.out.trans (hb1.mono Hb.out.size)⟩
        case measure => simp [intOf]; omega
    · have e : q = l.length := by omega
      subst e
      have HN := hide (all_end (p := wanB) (fun j hj => Ho.out j hj hj))
      clear Ho HX HC
      go_wp2
      go_ret
      exact ⟨_, rfl, .inl ⟨HN.out, rfl⟩, Hb.out⟩
set_option maxHeartbeats 800000 in
theorem cfWa_any (l : List WaD) (c : Value) (b : Nat) (w : World) (hl : l.length ≤ maxLen) (hq : ∀ I ∈ l, okWa I) (hx : waS w c l) (hc : w.cell? ⟨b, 0, none⟩ = some (.func (.func 73) #[] #[])) :
    Calls Tryz.prog 163 #[c, .func (.func 164) #[] #[.pointer (some ⟨b, 0, none⟩)]] w fun e w' => e = .returned (.bool (!l.all wanB)) ∧ Below w.heap.size w w' := by
  have HC := hide (ixWa_any l c b w hl hq hx hc)
  clear hq hx hc
  go_enter Tryz.func163, Tryz.ntmps163
  go_wp2_with fail
  refine HC.out.mono ?_
  rintro e w1 ⟨r, rfl, ⟨hr, rfl⟩ | ⟨hr, h0⟩, hb⟩
  · have HN := hide hr
    clear hr
    go_wp2
    go_ret
    exact ⟨ret_bool (by rw [HN.out]; rfl), hb⟩
  · have HN := hide hr
    clear hr
    go_wp2
    go_ret
    exact ⟨ret_bool (by rw [HN.out]; first | (simp; done) | (simp; omega)), hb⟩
set_option maxHeartbeats 800000 in
theorem allOkWa_any (l : List WaD) (c : Value) (m : Nat) (w : World) (hl : l.length ≤ maxLen) (hq : ∀ I ∈ l, okWa I) (hx : waS w c l) :
    Calls Tryz.prog 86 #[c, .int .i64 (m : Int), .func (.func 73) #[] #[]] w fun e w' => e = .returned (.bool (decide (l.length ≤ m) && l.all wanB)) ∧ Below w.heap.size w w' := by
  have OX : Hid (objU (w.alloc (.cells #[.func (.func 73) #[] #[]] 107)) w.heap.size 107 [.func (.func 73) #[] #[]]) := objU.new _ _ _
  have BX : Hid (Below w.heap.size w (w.alloc (.cells #[.func (.func 73) #[] #[]] 107))) := (Below.refl _ _).alloc (Nat.le_refl _) _
  have HC := hide (cfWa_any l c w.heap.size _ hl hq (hx.below BX.out) (OX.out.cell 0 _ rfl))
  unfold maxLen at hl
  obtain ⟨a, pc, rfl, -⟩ := hx
  clear hq
  go_enter Tryz.func86, Tryz.ntmps86
  by_cases h4 : l.length ≤ m
  · have h4' : (l.length : Int) ≤ (m : Int) := by omega
    rw [decide_eq_true h4, Bool.true_and]
    clear h4
    generalize l.all wanB = r at *
    go_wp2_with fail
    refine HC.out.mono ?_
    rintro e w1 ⟨rfl, hb1⟩
    have BX1 : Hid (Below w.heap.size w w1) := BX.out.trans (hb1.mono BX.out.size)
    clear hb1 OX BX
    go_wp2
    go_ret
    exact ⟨ret_bool (by simp), BX1.out⟩
  · have h4' : ¬ (l.length : Int) ≤ (m : Int) := by omega
    rw [decide_eq_false h4, Bool.false_and]
    clear h4 HC
    go_wp2
    go_ret
    exact ⟨rfl, BX.out⟩
end Go.Proofs.YtdnodaoeflbfkaaGreat
/- Shares, by the specification. -/
namespace Go.Proofs.YtdnodaoeflbfkaaGreat
open Go.RowKit Go.BigFrame
set_option linter.unusedVariables false

theorem owns_oS {w : World} {base : Nat} {e : TypeId} {v : Value} {l : List Int} {n : Nat} (hn : l.length = n) (h : w.ownsRow base e 1 v n (l.map (Value.int .i64))) : oS w 1 n (ofInts l) v (blkOf v) := by
  refine ⟨by decide, e, _, [], ?_, ofInts_own l, by simp⟩
  refine ⟨h.1, ?_⟩
  rcases h.2 with hh | ⟨g, cap, cur, a1, a2, a3⟩
  · exact .inl hh
  · exact .inr ⟨g, cap, cur, a1, Nat.zero_le _, a3⟩
theorem owns_uS {w : World} {base : Nat} {e : TypeId} {v : Value} {l : List Int} {n : Nat} (hn : l.length = n) (h : w.ownsRow base e 1 v n (l.map (Value.int .i64))) : uS w 0 w.heap.size 1 n (ofInts l) v :=
  (owns_oS hn h).u (fun g hg => ⟨Nat.zero_le _, (ublk_lt h g hg).2⟩)
theorem wsOf_len (W : WaD) (l : List IsD) : (wsOf W l).length = l.length := by unfold wsOf; rw [List.length_map]
theorem ws_succ {W : WaD} {l : List IsD} {k : Nat} (hk : k < l.length) : ((wsOf W l).take (k + 1)).map (Value.int .i64) = ((wsOf W l).take k).map (Value.int .i64) ++ [.int .i64 (wOf W (l[k]'hk))] := by
  have h : k < (wsOf W l).length := by rw [wsOf_len]; exact hk
  rw [List.take_add_one, List.getElem?_eq_getElem h, List.map_append]
  simp [wsOf]
theorem ws_all (W : WaD) (l : List IsD) : (wsOf W l).take l.length = wsOf W l := by rw [← wsOf_len W l, List.take_length]
theorem ws_ty {W : WaD} {l : List IsD} (h : wanB W = true) (hl : l.length ≤ maxLen) : tyS 1 l.length (ofInts (wsOf W l)) 1 := by
  have := ofInts_tyS (l := wsOf W l) (fun z hz => by
    obtain ⟨I, _, rfl⟩ := List.mem_map.1 hz
    have := wOf_in h I
    exact ⟨by omega, by omega⟩) (by rw [wsOf_len]; exact hl)
  rwa [wsOf_len] at this
theorem shrL_want {W : WaD} {l : List IsD} {left : List Int} (h : wanB W = false) : shrL W l left = [] := by unfold shrL shrR; rw [h]; rfl
theorem shrL_long {W : WaD} {l : List IsD} {left : List Int} (h : ¬ l.length ≤ 12) : shrL W l left = [] := by unfold shrL shrR; rw [decide_eq_false h, Bool.and_false]; rfl
theorem shrL_bad {W : WaD} {l : List IsD} {left : List Int} {k : Nat} (hk : k < l.length) (h : islB (l[k]'hk) = false) : shrL W l left = [] := by unfold shrL shrR; rw [all_bad hk h, Bool.and_false]; rfl
theorem shrL_good {W : WaD} {l : List IsD} {left : List Int} (h1 : wanB W = true) (h2 : l.length ≤ 12) (h3 : l.all islB = true) : shrL W l left = dvdL W.1 (wsOf W l) left := by unfold shrL shrR; rw [h1, decide_eq_true h2, h3]; rfl
theorem uS_empty (w : World) (lo hi : Nat) (a : Addr) (cap : Nat) : uS w lo hi 1 0 (ofInts []) (.slice (some a) 0 cap) := ⟨_, _, rfl, ⟨Nat.zero_le _, (fun h => by cases h), by decide, rfl⟩, fun h => by omega⟩
set_option maxRecDepth 20000 in
set_option maxHeartbeats 3200000 in
theorem sShares_any (W : WaD) (l : List IsD) (k2 : Nat) (c2 : UD) (xs : List Value) (lv v2 : Value) (lo hi : Nat) (w : World) (hq : okWa W) (hql : ∀ I ∈ l, okIs1 I) (hll : l.length ≤ maxLen) (ht2 : tyS 1 k2 c2 1) (hx : waH w W xs) (hl : isS w lv l) (hx2 : uS w lo hi 1 k2 c2 v2) :
    Calls Tryz.prog 12 #[.agg xs.toArray, lv, v2] w fun e w' => ∃ c, e = .returned c ∧ uS w' 0 w'.heap.size 1 (shrL W l (intL c2)).length (ofInts (shrL W l (intL c2))) c ∧ Below w.heap.size w w' := by
  have hk2 := intL_len ht2
  obtain ⟨i0, hi0, hz0, hz1, hz2⟩ := infoD Tryz.infoDInt
  have HC0 : Hid (∀ wx, Below w.heap.size w wx → Calls Tryz.prog 65 #[.agg xs.toArray] wx fun e w' => e = .returned (.bool (wanB W)) ∧ Below wx.heap.size wx w') := fun wx hb => sWantOk_any W xs wx hq (hx.below hb)
  have HC1 : Hid (∀ (I : IsD) (ys : List Value) wx, I ∈ l → isH wx I ys → Calls Tryz.prog 66 #[.agg ys.toArray] wx fun e w' => e = .returned (.bool (islB I)) ∧ Below wx.heap.size wx w') := fun I ys wx hI h => sIslandOk_any I ys wx (hql I hI) h
  have HC2 : Hid (∀ (I : IsD) (ys : List Value) wx, I ∈ l → isH wx I ys → Below w.heap.size w wx → Calls Tryz.prog 67 #[.agg xs.toArray, .agg ys.toArray] wx fun e w' => e = .returned (.bool (eligB W I)) ∧ Below wx.heap.size wx w') := fun I ys wx hI h hb => sEligible_any W I xs ys wx hq (hql I hI) (hx.below hb) h
  have HC3 : Hid (∀ (s : ByteArray) wx, Below w.heap.size w wx → Calls Tryz.prog 68 #[.agg xs.toArray, .string s] wx fun e w' => e = .returned (.int .i64 (weighI W.2.2.2 s)) ∧ Below wx.heap.size wx w') := fun s wx hb => sWeightOf_any W.1 W.2.1 W.2.2.1 W.2.2.2 s xs wx hq.2.2.2.1 (hx.below hb)
  have HD : Hid (∀ (v1 : Value) wx, Below w.heap.size w wx → wanB W = true → uS wx 0 wx.heap.size 1 l.length (ofInts (wsOf W l)) v1 → Calls Tryz.prog 69 #[.int .i64 W.1, v1, v2] wx fun e w' => ∃ c, e = .returned c ∧ uS w' 0 w'.heap.size 1 (dvdL W.1 (wsOf W l) (intL c2)).length (ofInts (dvdL W.1 (wsOf W l) (intL c2))) c ∧ Below wx.heap.size wx w') := fun v1 wx hb hw h1 =>
    sDivide_any W.1 l.length k2 (ofInts (wsOf W l)) c2 v1 v2 0 wx.heap.size lo hi wx (ws_ty hw hll) ht2 h1 (hx2.below hb) _ (by rw [intL_of]; exact dvdL_says _ _ _)
  obtain ⟨z, hz⟩ : ∃ z, z = shrL W l (intL c2) := ⟨_, rfl⟩
  have E0 : Hid (wanB W = false → z = []) := fun h => hz.trans (shrL_want h)
  have E1 : Hid (¬ l.length ≤ 12 → z = []) := fun h => hz.trans (shrL_long h)
  have E2 : Hid (k2 ≠ l.length → z = []) := fun h => hz.trans (shrL_len (by rw [hk2]; exact h))
  have E3 : Hid (∀ (k : Nat) (hk : k < l.length), islB (l[k]'hk) = false → z = []) := fun k hk h => hz.trans (shrL_bad hk h)
  have E4 : Hid (wanB W = true → l.length ≤ 12 → l.all islB = true → z = dvdL W.1 (wsOf W l) (intL c2)) := fun h1 h2 h3 => hz.trans (shrL_good h1 h2 h3)
  rw [← hz]
  have HL := hide hl
  unfold maxLen at hll
  have hk2m := ht2.2.2.1
  unfold maxLen at hk2m
  obtain ⟨e1, e2, e3, rfl, ⟨a1, p1, rfl, -⟩, ⟨a2, p2, rfl, -⟩, a3, p3, rfl, -⟩ := hx
  obtain ⟨la, lp, rfl, -⟩ := hl
  obtain ⟨va, vp, rfl, -⟩ := hx2
  clear hz hk2 ht2 hq hql
  have OX : Hid (objU (w.alloc (.cells #[.int .i64 W.1, .slice a1 W.2.1.length p1, .slice a2 W.2.2.1.length p2, .slice a3 W.2.2.2.length p3] 35)) w.heap.size 35 [.int .i64 W.1, .slice a1 W.2.1.length p1, .slice a2 W.2.2.1.length p2, .slice a3 W.2.2.2.length p3]) := objU.new _ _ _
  have BX : Hid (Below w.heap.size w (w.alloc (.cells #[.int .i64 W.1, .slice a1 W.2.1.length p1, .slice a2 W.2.2.1.length p2, .slice a3 W.2.2.2.length p3] 35))) := (Below.refl _ _).alloc (Nat.le_refl _) _
  have HWOF : Hid (∀ I : IsD, wOf W I = if eligB W I = true then weighI W.2.2.2 I.1 else 0) := fun I => rfl
  generalize hwan : wanB W = q0 at *
  go_enter Tryz.func12, Tryz.ntmps12
  have x0 := OX.out.cell 0 _ rfl
  have x1 := OX.out.cell 1 _ rfl
  have x2 := OX.out.cell 2 _ rfl
  have x3 := OX.out.cell 3 _ rfl
  go_wp2_with fail
  refine (HC0.out _ BX.out).mono ?_
  rintro e w1 ⟨rfl, hb1⟩
  have OX1 := hide (OX.out.below hb1)
  have BX1 : Hid (Below w.heap.size w w1) := BX.out.trans (hb1.mono BX.out.size)
  clear OX BX hb1 x0 x1 x2 x3
  cases q0 with
  | false =>
    have Hn := E0.out rfl
    subst Hn
    clear OX1 E0 E1 E2 E3 E4
    go_wp2
    go_ret
    exact ⟨_, rfl, uS_empty _ _ _ _ _, BX1.out.alloc BX1.out.size _⟩
  | true =>
    by_cases h12 : l.length ≤ 12
    rotate_left
    · have h12' : (12 : Int) < (l.length : Int) := by omega
      have Hn := E1.out h12
      subst Hn
      clear OX1 E0 E1 E2 E3 E4
      go_wp2
      go_ret
      exact ⟨_, rfl, uS_empty _ _ _ _ _, BX1.out.alloc BX1.out.size _⟩
    by_cases hkl : k2 = l.length
    rotate_left
    · have h12' : ¬ (12 : Int) < (l.length : Int) := by omega
      have hne : ((k2 : Int) != (l.length : Int)) = true := by simp; omega
      have Hn := E2.out hkl
      subst Hn
      clear OX1 E0 E1 E2 E3 E4
      go_wp2
      go_ret
      exact ⟨_, rfl, uS_empty _ _ _ _ _, BX1.out.alloc BX1.out.size _⟩
    have h12' : ¬ (12 : Int) < (l.length : Int) := by omega
    subst hkl
    have hne : ((l.length : Int) != (l.length : Int)) = false := by simp
    go_wp2
    have R0 : Hid ((w1.alloc (.cells #[] 3)).ownsRow w1.heap.size 3 1 (.slice (some ⟨w1.heap.size, 0, none⟩) 0 0) 0 (((wsOf W l).take 0).map (Value.int .i64))) := World.ownsRow_lit w1 #[] 0 (Nat.le_refl _) (by decide) rfl
    go_loopw [7, 8] (fun s i wr => ∃ (k : Nat), k ≤ l.length ∧ i = .int .i64 k ∧ Hid (s ≠ .slice none 0 0) ∧ Hid (wr.ownsRow w1.heap.size 3 1 s k (((wsOf W l).take k).map (Value.int .i64))) ∧ Hid (∀ j (hj : j < l.length), j < k → islB (l[j]'hj) = true) ∧ Hid (Below w1.heap.size w1 wr)) (fun _ i _ => l.length - (intOf i).toNat)
    case atStart => exact ⟨0, Nat.zero_le _, rfl, (fun h => by cases h), R0, fun j _ hj => by omega, (Below.refl _ _).alloc (Nat.le_refl _) _⟩
    case round =>
      clear R0
      obtain ⟨k, hk, rfl, Hnn, How, Hx, HB⟩ := hrel
      have HW : Hid (Below w.heap.size w wr) := BX1.out.trans (HB.out.mono BX1.out.size)
      have HOX : Hid (∀ wx, Below wr.heap.size wr wx → objU wx w.heap.size 35 [.int .i64 W.1, .slice a1 W.2.1.length p1, .slice a2 W.2.2.1.length p2, .slice a3 W.2.2.2.length p3]) := fun wx hb => OX1.out.below (HB.out.trans (hb.mono HB.out.size))
      by_cases hlt : k < l.length
      · obtain ⟨la', lp', e, hrows⟩ := HL.out.below HW.out
        cases e
        obtain ⟨bb, off, rfl, hat⟩ := hrows (by omega)
        obtain ⟨d1, d2, c0, c1, c2', c3, ⟨b1, r1, rfl, g1⟩, b2, r2, rfl, g2⟩ := hat k hlt
        have hbb := World.block_lt_of_cell? _ _ c0
        have HIs := hide (HC1.out (l[k]'hlt) [.string (l[k]'hlt).1, .slice b1 (l[k]'hlt).2.1.length r1, .slice b2 (l[k]'hlt).2.2.1.length r2, .int .i64 (l[k]'hlt).2.2.2] wr (List.getElem_mem hlt) ⟨_, _, rfl, ⟨_, _, rfl, g1⟩, _, _, rfl, g2⟩)
        have HEl : Hid (∀ wx, Below wr.heap.size wr wx → Calls Tryz.prog 67 #[.agg #[.int .i64 W.1, .slice a1 W.2.1.length p1, .slice a2 W.2.2.1.length p2, .slice a3 W.2.2.2.length p3], .agg #[.string (l[k]'hlt).1, .slice b1 (l[k]'hlt).2.1.length r1, .slice b2 (l[k]'hlt).2.2.1.length r2, .int .i64 (l[k]'hlt).2.2.2]] wx fun e w' => e = .returned (.bool (eligB W (l[k]'hlt))) ∧ Below wx.heap.size wx w') := fun wx hb => HC2.out (l[k]'hlt) [.string (l[k]'hlt).1, .slice b1 (l[k]'hlt).2.1.length r1, .slice b2 (l[k]'hlt).2.2.1.length r2, .int .i64 (l[k]'hlt).2.2.2] wx (List.getElem_mem hlt) (isH.below ⟨_, _, rfl, ⟨_, _, rfl, g1⟩, _, _, rfl, g2⟩ hb) (HW.out.trans (hb.mono HW.out.size))
        have HWe : Hid (∀ wx, Below wr.heap.size wr wx → Calls Tryz.prog 68 #[.agg #[.int .i64 W.1, .slice a1 W.2.1.length p1, .slice a2 W.2.2.1.length p2, .slice a3 W.2.2.2.length p3], .string (l[k]'hlt).1] wx fun e w' => e = .returned (.int .i64 (weighI W.2.2.2 (l[k]'hlt).1)) ∧ Below wx.heap.size wx w') := fun wx hb => HC3.out _ wx (HW.out.trans (hb.mono HW.out.size))
        have Hsu := hide (ws_succ (W := W) hlt)
        have HwI := hide (HWOF.out (l[k]'hlt))
        have Hbad : Hid (islB (l[k]'hlt) = false → z = []) := E3.out k hlt
        have Hnx : Hid (islB (l[k]'hlt) = true → ∀ j (hj : j < l.length), j < k + 1 → islB (l[j]'hj) = true) := fun h j hj hjk => by
          by_cases e : j = k
          · subst e; exact h
          · exact Hx.out j hj (by omega)
        have HR4 : Hid (∀ wx, Below wr.heap.size wr wx → wx.cell? ⟨bb, off + k * 4, none⟩ = some (.string (l[k]'hlt).1) ∧ wx.cell? ⟨bb, off + k * 4 + 1, none⟩ = some (.slice b1 (l[k]'hlt).2.1.length r1) ∧ wx.cell? ⟨bb, off + k * 4 + 2, none⟩ = some (.slice b2 (l[k]'hlt).2.2.1.length r2) ∧ wx.cell? ⟨bb, off + k * 4 + 3, none⟩ = some (.int .i64 (l[k]'hlt).2.2.2)) := fun wx hb => ⟨(hb.cell (p := ⟨bb, off + k * 4, none⟩) hbb).trans c0, (hb.cell (p := ⟨bb, off + k * 4 + 1, none⟩) hbb).trans c1, (hb.cell (p := ⟨bb, off + k * 4 + 2, none⟩) hbb).trans c2', (hb.cell (p := ⟨bb, off + k * 4 + 3, none⟩) hbb).trans c3⟩
        clear hat hrows g1 g2 Hx HL hbb E0 E1 E2 E3 E4 HD
        generalize wOf W (l[k]'hlt) = NW at *
        generalize islB (l[k]'hlt) = ri at *
        generalize eligB W (l[k]'hlt) = re at *
        generalize weighI W.2.2.2 (l[k]'hlt).1 = wi at *
        generalize (l[k]'hlt).1 = z0 at *
        generalize (l[k]'hlt).2.1.length = z1 at *
        generalize (l[k]'hlt).2.2.1.length = z2 at *
        generalize (l[k]'hlt).2.2.2 = z3 at *
        cases ri with
        | false =>
          have Hn := Hbad.out (by first | rfl | trivial)
          subst Hn
          clear Hbad Hnx HEl HWe HOX HR4
          go_wp2_with fail
          refine HIs.out.mono ?_
          rintro e w2 ⟨rfl, hb2⟩
          have HB2 : Hid (Below w.heap.size w w2) := HW.out.trans (hb2.mono HW.out.size)
          go_wp2
          go_ret
          exact ⟨_, rfl, uS_empty _ _ _ _ _, HB2.out.alloc HB2.out.size _⟩
        | true =>
          have HN := hide (Hnx.out (by first | rfl | trivial))
          go_wp2_with fail
          refine HIs.out.mono ?_
          rintro e w2 ⟨rfl, hb2⟩
          have hb0d := hide hb2
          clear hb2 c0 c1 c2' c3 HIs
          have y0 := (HOX.out w2 hb0d.out).cell 0 _ rfl
          have y1 := (HOX.out w2 hb0d.out).cell 1 _ rfl
          have y2 := (HOX.out w2 hb0d.out).cell 2 _ rfl
          have y3 := (HOX.out w2 hb0d.out).cell 3 _ rfl
          obtain ⟨v0, v1, v2', v3⟩ := HR4.out w2 hb0d.out
          go_wp2
          go_region_held3 (fun w' => w'.cell? ⟨w.heap.size, 0, none⟩ = some (.int .i64 W.1) ∧ w'.cell? ⟨w.heap.size, 1, none⟩ = some (.slice a1 W.2.1.length p1) ∧ w'.cell? ⟨w.heap.size, 2, none⟩ = some (.slice a2 W.2.2.1.length p2) ∧ w'.cell? ⟨w.heap.size, 3, none⟩ = some (.slice a3 W.2.2.2.length p3) ∧ w'.cell? ⟨bb, off + k * 4, none⟩ = some (.string z0) ∧ w'.cell? ⟨bb, off + k * 4 + 1, none⟩ = some (.slice b1 z1 r1) ∧ w'.cell? ⟨bb, off + k * 4 + 2, none⟩ = some (.slice b2 z2 r2) ∧ w'.cell? ⟨bb, off + k * 4 + 3, none⟩ = some (.int .i64 z3)) (first | assumption | exact ⟨y0, y1, y2, y3, v0, v1, v2', v3⟩ | go_keep)
            (first | (go_at_call 67; refine (HEl.out _ (show Below wr.heap.size wr _ from (by repeat (first | with_reducible exact hb0d.out | with_reducible refine Below.drew ?_ | with_reducible refine below_drewN ?_ _)))).mono ?_; rintro e w3 ⟨rfl, hc⟩; have hb3 : Hid (Below wr.heap.size wr w3) := Below.trans (show Below wr.heap.size wr _ from (by repeat (first | with_reducible exact hb0d.out | with_reducible refine Below.drew ?_ | with_reducible refine below_drewN ?_ _))) (hc.mono (by (try simp) <;> first | done | exact hb0d.out.size | (have := hb0d.out.size; omega))); clear hc; have u0 := (HOX.out w3 hb3.out).cell 0 _ rfl; have u1 := (HOX.out w3 hb3.out).cell 1 _ rfl; have u2 := (HOX.out w3 hb3.out).cell 2 _ rfl; have u3 := (HOX.out w3 hb3.out).cell 3 _ rfl; obtain ⟨q0, q1, q2, q3⟩ := HR4.out w3 hb3.out))
          clear y0 y1 y2 y3 v0 v1 v2' v3 hb0d
          cases re with
          | false =>
            clear u0 u1 u2 u3 q0 q1 q2 q3
            have Howw3 := hide (owns_below_any How.out hb3.out)
            have HBw : Hid (Below w1.heap.size w1 w3) := HB.out.trans (hb3.out.mono HB.out.size)
            have Hln : Hid (((wsOf W l).take (k + 1)).map (Value.int .i64) = ((wsOf W l).take k).map (Value.int .i64) ++ [.int .i64 (0 : Int)]) := by show _ = _; rw [Hsu.out, HwI.out]; rfl
            clear Hsu HwI HOX HR4 Hnx Hbad HC0 HC1 HC2 HC3 HEl HWe
            go_wp2_with (at_builtin; refine wpList_append_own _ rfl _ _ 28 rfl w1.heap.size 3 i0 _ 1 8 Tryz.underlying28 hi0 hz0 hz1 hz2 rfl (by decide) _ _ _ rfl (Howw3.out.alloc _) ⟨w3.heap.size, 0, none⟩ 1 1 [.int .i64 (0 : Int)] rfl rfl (cell_one_at1 _ _ (by simp) _ _) (fun x hx => by simp at hx; rcases hx with rfl; rfl) (by unfold maxLen; omega) (by omega) (by have := HBw.out.size; simp; omega) ?_; intro v' w5 hown' hgrow3 hnil3)
            go_roundw
            case rel => exact ⟨k + 1, by omega, by go_num, (fun h => Hnn.out (hnil3.1 h).1), by rw [Hln.out]; exact hown', HN, Below.grown (HBw.out.alloc HBw.out.size _) hgrow3 (by have := HBw.out.size; simp; omega) (fun j hj => (How.out.lt _ hj).1)⟩
            case measure => simp [intOf]; omega
          | true =>
            have y0 := (HOX.out w3 hb3.out).cell 0 _ rfl
            have y1 := (HOX.out w3 hb3.out).cell 1 _ rfl
            have y2 := (HOX.out w3 hb3.out).cell 2 _ rfl
            have y3 := (HOX.out w3 hb3.out).cell 3 _ rfl
            obtain ⟨v0, v1, v2', v3⟩ := HR4.out w3 hb3.out
            clear u0 u1 u2 u3 q0 q1 q2 q3
            go_wp2
            go_region_held3 (fun w' => w'.cell? ⟨w.heap.size, 0, none⟩ = some (.int .i64 W.1) ∧ w'.cell? ⟨w.heap.size, 1, none⟩ = some (.slice a1 W.2.1.length p1) ∧ w'.cell? ⟨w.heap.size, 2, none⟩ = some (.slice a2 W.2.2.1.length p2) ∧ w'.cell? ⟨w.heap.size, 3, none⟩ = some (.slice a3 W.2.2.2.length p3) ∧ w'.cell? ⟨bb, off + k * 4, none⟩ = some (.string z0) ∧ w'.cell? ⟨bb, off + k * 4 + 1, none⟩ = some (.slice b1 z1 r1) ∧ w'.cell? ⟨bb, off + k * 4 + 2, none⟩ = some (.slice b2 z2 r2) ∧ w'.cell? ⟨bb, off + k * 4 + 3, none⟩ = some (.int .i64 z3)) (first | assumption | exact ⟨y0, y1, y2, y3, v0, v1, v2', v3⟩ | go_keep)
              (first | (go_at_call 68; refine (HWe.out _ (show Below wr.heap.size wr _ from (by repeat (first | with_reducible exact hb3.out | with_reducible refine Below.drew ?_ | with_reducible refine below_drewN ?_ _)))).mono ?_; rintro e w4 ⟨rfl, hc⟩; have hb4 : Hid (Below wr.heap.size wr w4) := Below.trans (show Below wr.heap.size wr _ from (by repeat (first | with_reducible exact hb3.out | with_reducible refine Below.drew ?_ | with_reducible refine below_drewN ?_ _))) (hc.mono (by (try simp) <;> first | done | exact hb3.out.size | (have := hb3.out.size; omega))); clear hc; have u0 := (HOX.out w4 hb4.out).cell 0 _ rfl; have u1 := (HOX.out w4 hb4.out).cell 1 _ rfl; have u2 := (HOX.out w4 hb4.out).cell 2 _ rfl; have u3 := (HOX.out w4 hb4.out).cell 3 _ rfl; obtain ⟨q0, q1, q2, q3⟩ := HR4.out w4 hb4.out))
            clear y0 y1 y2 y3 v0 v1 v2' v3 hb3 u0 u1 u2 u3 q0 q1 q2 q3
            have Howw4 := hide (owns_below_any How.out hb4.out)
            have HBw : Hid (Below w1.heap.size w1 w4) := HB.out.trans (hb4.out.mono HB.out.size)
            have Hln : Hid (((wsOf W l).take (k + 1)).map (Value.int .i64) = ((wsOf W l).take k).map (Value.int .i64) ++ [.int .i64 wi]) := by show _ = _; rw [Hsu.out, HwI.out]; rfl
            clear Hsu HwI HOX HR4 Hnx Hbad HC0 HC1 HC2 HC3 HEl HWe
            go_wp2_with (at_builtin; refine wpList_append_own _ rfl _ _ 28 rfl w1.heap.size 3 i0 _ 1 8 Tryz.underlying28 hi0 hz0 hz1 hz2 rfl (by decide) _ _ _ rfl (Howw4.out.alloc _) ⟨w4.heap.size, 0, none⟩ 1 1 [.int .i64 wi] rfl rfl (cell_one_at1 _ _ (by simp) _ _) (fun x hx => by simp at hx; rcases hx with rfl; rfl) (by unfold maxLen; omega) (by omega) (by have := HBw.out.size; simp; omega) ?_; intro v' w5 hown' hgrow3 hnil3)
            go_roundw
            case rel => exact ⟨k + 1, by omega, by go_num, (fun h => Hnn.out (hnil3.1 h).1), by rw [Hln.out]; exact hown', HN, Below.grown (HBw.out.alloc HBw.out.size _) hgrow3 (by have := HBw.out.size; simp; omega) (fun j hj => (How.out.lt _ hj).1)⟩
            case measure => simp [intOf]; omega
      · have e : k = l.length := by omega
        subst e
        have Hf : Hid (∃ g cap, u7 = Value.slice (some ⟨g, 0, none⟩) l.length cap) := by
          rcases How.out.2 with ⟨h, _⟩ | ⟨g, cap, cur, h, _⟩
          · exact absurd h Hnn.out
          · exact ⟨g, cap, h⟩
        obtain ⟨g, cp, hv⟩ := Hf.out
        subst hv
        have Hn := E4.out (by first | rfl | trivial) h12 (all_end (fun j hj => Hx.out j hj hj))
        have HDv := hide (HD.out (.slice (some ⟨g, 0, none⟩) l.length cp) wr HW.out (by first | rfl | trivial) (owns_uS (wsOf_len W l) (by rw [← ws_all W l]; exact How.out)))
        rw [← Hn] at HDv
        have y0 := (HOX.out wr (Below.refl _ _)).cell 0 _ rfl
        clear Hn Hx HL How Hnn Hf E0 E1 E2 E3 E4 HD HC0 HC1 HC2 HC3 HOX
        go_wp2_with fail
        refine HDv.out.mono ?_
        rintro e w2 ⟨c, rfl, hc, hb2⟩
        have HB2 : Hid (Below w.heap.size w w2) := HW.out.trans (hb2.mono HW.out.size)
        go_wp2
        go_ret
        exact ⟨_, rfl, hc, HB2.out⟩
end Go.Proofs.YtdnodaoeflbfkaaGreat
/- spec.FairOk. -/
namespace Go.Proofs.YtdnodaoeflbfkaaGreat
open Go.RowKit Go.BigFrame
set_option linter.unusedVariables false
/-- one share is as told -/
def okRow (ws cs sh : List Int) (i : Nat) : Prop := (0 ≤ gI sh i ∧ gI sh i ≤ gI cs i) ∧ ¬ (gI ws i = 0 ∧ 0 < gI sh i)
/-- of two nobody lacks what the other has too much -/
def okPair (ws cs sh : List Int) (i k : Nat) : Prop := ¬ (k ≠ i ∧ 0 < gI ws i ∧ 0 < gI ws k ∧ gI sh i < gI cs i ∧ (0 ≤ gI sh k ∧ gI sh k ≤ gI cs k) ∧ (gI sh i + 1) * gI ws k < (gI sh k - 1) * gI ws i)
def okAll (ws cs sh : List Int) (i : Nat) : Prop := okRow ws cs sh i ∧ ∀ k, k < ws.length → okPair ws cs sh i k
def fairP (n : Int) (ws cs sh : List Int) : Prop := rightP n ws cs ∧ sh.length = ws.length ∧ (∀ i, i < ws.length → okAll ws cs sh i) ∧ sumTo (gI sh) ws.length = totI n ws cs
theorem prod_bd {a b m n : Int} (ha : 0 ≤ a) (ha' : a ≤ m) (hb : 0 ≤ b) (hb' : b ≤ n) : 0 ≤ a * b ∧ a * b ≤ m * n := ⟨Int.mul_nonneg ha hb, Int.mul_le_mul ha' hb' hb (by omega)⟩
end Go.Proofs.YtdnodaoeflbfkaaGreat
/- impl.Total, impl.FairOk. -/
namespace Go.Proofs.YtdnodaoeflbfkaaGreat
open Go.RowKit Go.BigFrame
set_option linter.unusedVariables false
theorem no_of {r : Bool} {p : Prop} (h : r = true ↔ p) (hp : ¬ p) : r = false := by
  cases r
  · rfl
  · exact (hp (h.1 rfl)).elim
theorem within_any (n m : Int) (w : World) : Calls Tryz.prog 146 #[.int .i64 n, .int .i64 m] w fun e w' => e = .returned (.bool (inB n 0 m)) ∧ w' = w := by
  go_enter Tryz.func146, Tryz.ntmps146
  go_wp2
  all_goals go_ret
  all_goals exact ⟨ret_bool (by rw [Bool.eq_iff_iff]; simp [inB]; omega), rfl⟩
set_option maxRecDepth 20000 in
set_option maxHeartbeats 3200000 in
theorem allWithin_any (m : Int) (k1 : Nat) (c1 : UD) (v1 : Value) (lo hi : Nat) (w : World) (r : Bool) (ht1 : tyS 1 k1 c1 1) (hx1 : uS w lo hi 1 k1 c1 v1) (hr : r = true ↔ ∀ i, i < k1 → 0 ≤ gI (intL c1) i ∧ gI (intL c1) i ≤ m) :
    Calls Tryz.prog 208 #[v1, .int .i64 m] w fun e w' => e = .returned (.bool r) ∧ w' = w := by
  obtain ⟨a1, p1, rfl, hy1⟩ := hx1
  have H1 : Hid (uS w lo hi 1 k1 c1 (.slice a1 k1 p1)) := ⟨_, _, rfl, hy1⟩
  have T1 := uhide ht1
  have hm1 := ht1.2.2.1
  unfold maxLen at hm1
  have NO : Hid (∀ i, i < k1 → ¬ (0 ≤ gI (intL c1) i ∧ gI (intL c1) i ≤ m) → r = false) := fun i hi hg => no_of hr (fun h => hg (h i hi))
  have YES : Hid ((∀ i, i < k1 → 0 ≤ gI (intL c1) i ∧ gI (intL c1) i ≤ m) → r = true) := hr.2
  clear hy1 ht1 hr
  go_enter Tryz.func208, Tryz.ntmps208
  go_wp2
  go_loopw [9] (fun i wr => ∃ (q : Nat), q ≤ k1 ∧ i = .int .i64 q ∧ Hid (∀ j, j < q → 0 ≤ gI (intL c1) j ∧ gI (intL c1) j ≤ m) ∧ wr = w) (fun i _ => k1 - (intOf i).toNat)
  case atStart => exact ⟨0, Nat.zero_le _, rfl, (fun j h => by omega), rfl⟩
  case round =>
    obtain ⟨q, hq, rfl, HE, rfl⟩ := hrel
    by_cases hlt : q < k1
    · obtain ⟨b1, off1, rfl, hb1, -⟩ := H1.out.cells (by omega)
      have q1 := cell_int T1.out H1.out q hlt
      have HX := uhide (within_any (gI (intL c1) q) m)
      by_cases hx : 0 ≤ gI (intL c1) q ∧ gI (intL c1) q ≤ m
      · rw [inB_t hx] at HX
        have HN : Hid (∀ j, j < q + 1 → 0 ≤ gI (intL c1) j ∧ gI (intL c1) j ≤ m) := fun j hj => by
          by_cases e : j = q
          · subst e; exact hx
          · exact HE.out j (by omega)
        clear HE hx NO
        generalize gI (intL c1) q = X at *
        go_wp2_with fail
        refine (HX.out _).mono ?_
        rintro e w1 ⟨rfl, rfl⟩
        go_wp2
        go_roundw
        case rel => exact ⟨q + 1, by omega, by go_num, HN, trivial⟩
        case measure => simp [intOf]; omega
      · have hrf := NO.out q hlt hx
        subst hrf
        rw [inB_f hx] at HX
        clear HE hx NO YES
        generalize gI (intL c1) q = X at *
        go_wp2_with fail
        refine (HX.out _).mono ?_
        rintro e w1 ⟨rfl, rfl⟩
        go_wp2
        go_ret
        exact ⟨rfl, rfl⟩
    · have e : q = k1 := by omega
      subst e
      have hrt := YES.out HE.out
      subst hrt
      go_wp2
      go_ret
      exact ⟨rfl, rfl⟩
set_option maxRecDepth 20000 in
set_option maxHeartbeats 3200000 in
theorem divisionOk_any (n : Int) (k1 k2 : Nat) (c1 c2 : UD) (v1 v2 : Value) (lo hi lo' hi' : Nat) (w : World) (r : Bool) (ht1 : tyS 1 k1 c1 1) (ht2 : tyS 1 k2 c2 1) (hx1 : uS w lo hi 1 k1 c1 v1) (hx2 : uS w lo' hi' 1 k2 c2 v2) (hr : r = true ↔ rightP n (intL c1) (intL c2)) :
    Calls Tryz.prog 156 #[.int .i64 n, v1, v2] w fun e w' => e = .returned (.bool r) ∧ w' = w := by
  obtain ⟨r1, hr1⟩ := bool_iff (∀ i, i < k1 → 0 ≤ gI (intL c1) i ∧ gI (intL c1) i ≤ 1000)
  obtain ⟨r2, hr2⟩ := bool_iff (∀ i, i < k2 → 0 ≤ gI (intL c2) i ∧ gI (intL c2) i ≤ 10000)
  have A1 := uhide (allWithin_any 1000 k1 c1 v1 lo hi w r1 ht1 hx1 hr1)
  have A2 := uhide (allWithin_any 10000 k2 c2 v2 lo' hi' w r2 ht2 hx2 hr2)
  have HI := uhide (within_any n 10000)
  obtain ⟨a1, p1, rfl, hy1⟩ := hx1
  obtain ⟨a2, p2, rfl, hy2⟩ := hx2
  have hl1 := intL_len ht1
  have hl2 := intL_len ht2
  have hm1 := ht1.2.2.1
  have hm2 := ht2.2.2.1
  unfold maxLen at hm1 hm2
  unfold rightP at hr
  rw [hl1, hl2] at hr
  clear hy1 hy2 ht1 ht2 hl1 hl2
  by_cases h64 : 64 < k1
  · have hrf := no_of hr (fun h => by omega)
    subst hrf
    clear hr hr1 hr2 A1 A2 HI
    go_enter Tryz.func156, Tryz.ntmps156
    go_wp2
    go_ret
    exact ⟨rfl, rfl⟩
  by_cases hk : k1 = k2
  rotate_left
  · have hrf := no_of hr (fun h => hk h.1.2.2)
    subst hrf
    have hk' : ((k2 : Int) != (k1 : Int)) = true := by rw [bne_iff_ne]; omega
    clear hr hr1 hr2 A1 A2 HI
    go_enter Tryz.func156, Tryz.ntmps156
    go_wp2
    go_ret
    exact ⟨rfl, rfl⟩
  subst hk
  have hk' : ((k1 : Int) != (k1 : Int)) = false := by simp
  by_cases hn : 0 ≤ n ∧ n ≤ 10000
  rotate_left
  · have hrf := no_of hr (fun h => hn h.1.1)
    subst hrf
    rw [inB_f hn] at HI
    clear hr hr1 hr2 A1 A2 hn
    go_enter Tryz.func156, Tryz.ntmps156
    go_wp2_with fail
    refine (HI.out _).mono ?_
    rintro e w1 ⟨rfl, rfl⟩
    go_wp2
    go_ret
    exact ⟨rfl, rfl⟩
  rw [inB_t hn] at HI
  have hr3 : r = (r1 && r2) := by
    rw [Bool.eq_iff_iff, Bool.and_eq_true, hr1, hr2, hr]
    exact ⟨fun h => ⟨fun i hi => (h.2 i hi).1, fun i hi => (h.2 i hi).2⟩, fun h => ⟨⟨hn, by omega, rfl⟩, fun i hi => ⟨h.1 i hi, h.2 i hi⟩⟩⟩
  subst hr3
  clear hr hr1 hr2 hn
  cases r1
  · go_enter Tryz.func156, Tryz.ntmps156
    clear A2
    go_wp2_with fail
    refine (HI.out _).mono ?_
    rintro e w1 ⟨rfl, rfl⟩
    go_wp2_with fail
    refine (A1.out).mono ?_
    rintro e w1 ⟨rfl, rfl⟩
    go_wp2
    go_ret
    exact ⟨rfl, rfl⟩
  · go_enter Tryz.func156, Tryz.ntmps156
    go_wp2_with fail
    refine (HI.out _).mono ?_
    rintro e w1 ⟨rfl, rfl⟩
    go_wp2_with fail
    refine (A1.out).mono ?_
    rintro e w1 ⟨rfl, rfl⟩
    go_wp2_with fail
    refine (A2.out).mono ?_
    rintro e w1 ⟨rfl, rfl⟩
    go_wp2
    go_ret
    exact ⟨rfl, rfl⟩
end Go.Proofs.YtdnodaoeflbfkaaGreat
/- Rows of numbers that a call builds by append. -/
namespace Go.Proofs.YtdnodaoeflbfkaaGreat
open Go.RowKit Go.BigFrame
set_option linter.unusedVariables false
/-- a row of numbers of the call's own, from base on -/
def IR (w : World) (base : Nat) (v : Value) (l : List Int) : Prop := w.ownsRow base 3 1 v l.length (l.map (Value.int .i64)) ∧ ∃ g, v.ownBlock = some g ∧ base ≤ g ∧ g < w.heap.size
theorem IR.frame {w w' : World} {base : Nat} {v : Value} {l : List Int} (h : IR w base v l) (hs : w.heap.size ≤ w'.heap.size) (hf : ∀ g, v.ownBlock = some g → w'.heap[g]? = w.heap[g]?) : IR w' base v l := by
  obtain ⟨h1, g, h2, h3, h4⟩ := h
  refine ⟨uowns_frame h1 (fun x hx => ?_), g, h2, h3, by omega⟩
  unfold blkOf at hx
  rw [h2] at hx
  have : x = g := by simpa using hx
  subst this
  exact hf x h2
theorem IR.below {w w' : World} {base : Nat} {v : Value} {l : List Int} (h : IR w base v l) (hb : Below w.heap.size w w') : IR w' base v l :=
  h.frame hb.size (fun g hg => hb.block g (by obtain ⟨g', h2, h3, h4⟩ := h.2; rw [h2] at hg; cases hg; exact h4))
theorem IR.grown {w w' : World} {base : Nat} {v u : Value} {l : List Int} (h : IR w base v l) (hg : w.grownBy w' u.ownBlock) (hne : v.ownBlock ≠ u.ownBlock) : IR w' base v l :=
  h.frame hg.size (fun g hv => by
    obtain ⟨g', h2, h3, h4⟩ := h.2
    rw [h2] at hv; cases hv
    exact hg.block g h4 (by rw [← h2]; exact hne))
theorem IR.lit (w : World) (base : Nat) (hb : base ≤ w.heap.size) : IR (w.alloc (.cells #[] 3)) base (.slice (some ⟨w.heap.size, 0, none⟩) 0 0) [] :=
  ⟨World.ownsRow_lit w #[] 0 hb (by decide) rfl, w.heap.size, rfl, hb, by simp⟩
theorem IR.snoc {w w' : World} {base : Nat} {v v' : Value} {l : List Int} {x : Int} (h : IR w base v l) (hown : w'.ownsRow base 3 1 v' (l.length + 1) (l.map (Value.int .i64) ++ [.int .i64 x])) (hat : v'.ownBlock = v.ownBlock ∨ v'.ownBlock = some w.heap.size) : IR w' base v' (l ++ [x]) := by
  refine ⟨by rw [List.length_append, List.map_append]; exact hown, ?_⟩
  obtain ⟨g, h2, h3, h4⟩ := h.2
  rcases hat with e | e
  · rw [h2] at e; exact ⟨g, e, uowns_blk hown e⟩
  · exact ⟨_, e, uowns_blk hown e⟩
theorem IR.row {w : World} {base : Nat} {v : Value} {l : List Int} (h : IR w base v l) : ∀ k, v.ownBlock = some k → base ≤ k := fun k e => by
  obtain ⟨g, h2, h3, h4⟩ := h.2
  rw [h2] at e; cases e; exact h3
theorem IR.apart {w : World} {base : Nat} {u v v' : Value} {l : List Int} (hu : IR w base u l) (hne : v.ownBlock ≠ u.ownBlock) (hat : v'.ownBlock = v.ownBlock ∨ v'.ownBlock = some w.heap.size) : v'.ownBlock ≠ u.ownBlock := by
  rcases hat with e | e
  · rw [e]; exact hne
  · obtain ⟨g, h2, h3, h4⟩ := hu.2
    rw [e, h2]
    intro hh; cases hh; omega
/-- numbers in range, not more than so many -/
def goodI (l : List Int) (k : Nat) : Prop := l.length ≤ k ∧ ∀ x ∈ l, -9223372036854775808 ≤ x ∧ x ≤ 9223372036854775807
theorem goodI.snoc {l : List Int} {k : Nat} {x : Int} (h : goodI l k) (hx : -9223372036854775808 ≤ x ∧ x ≤ 9223372036854775807) : goodI (l ++ [x]) (k + 1) :=
  ⟨by rw [List.length_append, List.length_singleton]; have := h.1; omega, fun y hy => by
    rcases List.mem_append.1 hy with hy | hy
    · exact h.2 y hy
    · simp at hy; rw [hy]; exact hx⟩
theorem goodI.mono {l : List Int} {k k' : Nat} (h : goodI l k) (hk : k ≤ k') : goodI l k' := ⟨by have := h.1; omega, h.2⟩
end Go.Proofs.YtdnodaoeflbfkaaGreat
/- Shares: what is divided is Total in all; who weighs nothing has nothing: plain numbers. -/
namespace Go.Proofs.YtdnodaoeflbfkaaGreat
open Go.RowKit
set_option linter.unusedVariables false
theorem gets_zero {L : Nat} {n : Int} {w c out : Nat → Int} (hn : 0 < n) (hw : ∀ i, 0 ≤ w i) (ho : ∀ i, i < L → 0 ≤ out i ∧ out i ≤ c i) (hs : 0 < openS L w c out) (i : Nat) (hi : i < L) (h0 : w i = 0) : getsF L n w c out i = 0 := by
  have hb := (wants_bd (L := L) (m := n) (O := openF L w c out) (w := w) (by omega) hw hs rfl i).2.2 (by unfold openF; rw [decide_eq_false_iff_not]; omega)
  have hb' : wantsF L n (openS L w c out) w (openF L w c out) i = 0 := hb
  have := ho i hi
  unfold getsF
  rw [hb', if_neg (by omega)]
def capK (w c : Nat → Int) : Nat → Int := fun i => if 0 < w i then c i else 0
theorem none_open {L : Nat} {w c out : Nat → Int} (hw : ∀ i, 0 ≤ w i) (hs : ¬ 0 < openS L w c out) (i : Nat) (hi : i < L) (hp : 0 < w i) : c i ≤ out i := by
  refine Int.not_lt.1 (fun h => ?_)
  have hs' : 0 ≤ openS L w c out := onO_nn hw
  have h1 : onO (openF L w c out) w i ≤ openS L w c out := sumTo_at L (fun j _ => by unfold onO; split <;> first | exact hw j | exact Int.le_refl _) i hi
  have h2 : onO (openF L w c out) w i = w i := by
    unfold onO openF
    rw [if_pos (by rw [decide_eq_true_eq]; exact ⟨hi, hp, h⟩)]
  omega
theorem divF_sum {L : Nat} {w c : Nat → Int} (hw : ∀ i, 0 ≤ w i) : ∀ (f : Nat) (n : Int) (out : Nat → Int), n.toNat ≤ f → 0 ≤ n → (∀ i, i < L → 0 ≤ out i ∧ out i ≤ c i) → (∀ i, i < L → w i = 0 → out i = 0) →
    sumTo (divF L w c f n out) L = (if n + sumTo out L < sumTo (capK w c) L then n + sumTo out L else sumTo (capK w c) L) ∧ ∀ i, i < L → w i = 0 → divF L w c f n out i = 0 := by
  intro f
  induction f with
  | zero =>
    intro n out hf hn ho h0
    have e : n = 0 := by omega
    have hle := sumTo_le (f := out) (g := capK w c) L (fun i hi => by
      have := ho i hi
      have := hw i
      unfold capK
      split
      · omega
      · have := h0 i hi (by omega); omega)
    refine ⟨?_, fun i hi h => h0 i hi h⟩
    show sumTo out L = _
    split <;> omega
  | succ f ih =>
    intro n out hf hn ho h0
    have hle := sumTo_le (f := out) (g := capK w c) L (fun i hi => by
      have := ho i hi
      have := hw i
      unfold capK
      split
      · omega
      · have := h0 i hi (by omega); omega)
    by_cases hg : 0 < n ∧ 0 < openS L w c out
    · rw [divF_go hg]
      obtain ⟨h1, h2, h3⟩ := gets_all hg.1 hw ho hg.2
      have hz := gets_zero hg.1 hw ho hg.2
      have := ih (n - sumTo (getsF L n w c out) L) (fun i => out i + getsF L n w c out i) (by omega) (by omega) (fun i hi => by
        have := h1 i hi
        have := ho i hi
        show 0 ≤ out i + getsF L n w c out i ∧ out i + getsF L n w c out i ≤ c i
        omega) (fun i hi hwi => by
        have := h0 i hi hwi
        have := hz i hi hwi
        show out i + getsF L n w c out i = 0
        omega)
      rw [sumTo_add] at this
      refine ⟨?_, this.2⟩
      rw [this.1, show n - sumTo (getsF L n w c out) L + (sumTo out L + sumTo (getsF L n w c out) L) = n + sumTo out L by omega]
    · rw [divF_end hg]
      refine ⟨?_, fun i hi h => h0 i hi h⟩
      by_cases hn0 : 0 < n
      · have hge := sumTo_le (f := capK w c) (g := out) L (fun i hi => by
          have := ho i hi
          unfold capK
          split
          · rename_i hp; exact none_open hw (fun h => hg ⟨hn0, h⟩) i hi hp
          · omega)
        split <;> omega
      · split <;> omega
/-- what is divided is Total in all -/
theorem divide_total {n : Int} {ws cs : List Int} (h : rightP n ws cs) : sumTo (divF ws.length (gI ws) (gI cs) n.toNat n (fun _ => 0)) ws.length = totI n ws cs := by
  unfold rightP at h
  have hw : ∀ i, 0 ≤ gI ws i := fun i => by
    by_cases hi : i < ws.length
    · exact (h.2 i hi).1.1
    · unfold gI; rw [List.getD_eq_getElem?_getD, List.getElem?_eq_none (by omega)]; exact Int.le_refl _
  have hz : ∀ k, sumTo (fun _ => 0) k = 0 := fun k => by
    induction k with
    | zero => rfl
    | succ k ih => unfold sumTo; rw [ih]; rfl
  have := (divF_sum (L := ws.length) (c := gI cs) hw n.toNat n (fun _ => 0) (Nat.le_refl _) h.1.1.1 (fun i hi => ⟨Int.le_refl _, (h.2 i hi).2.1⟩) (fun i hi _ => rfl)).1
  rw [hz, Int.add_zero] at this
  exact this
/-- one more to divide: one more in all, or as many -/
theorem tot_more (n : Int) (ws cs : List Int) : totI (n + 1) ws cs = totI n ws cs ∨ totI (n + 1) ws cs = totI n ws cs + 1 := by
  unfold totI
  split <;> split <;> omega
end Go.Proofs.YtdnodaoeflbfkaaGreat
/- A stable sort that merges in place: plain arrays. -/
namespace Go.Proofs.YtdnodaoeflbfkaaGreat
open Go.Sort
set_option linter.unusedVariables false
/-- less, or alike and earlier -/
def stT {α : Type} (lt : α → α → Bool) (pos : α → Nat) (x y : α) : Bool := lt x y || (!lt y x && decide (pos x < pos y))
theorem stT_iff {α : Type} {lt : α → α → Bool} {pos : α → Nat} {x y : α} : stT lt pos x y = true ↔ lt x y = true ∨ (lt y x = false ∧ pos x < pos y) := by
  unfold stT; simp
theorem stT_not {α : Type} {lt : α → α → Bool} {pos : α → Nat} {x y : α} : stT lt pos x y = false ↔ lt x y = false ∧ (lt y x = true ∨ pos y ≤ pos x) := by
  unfold stT
  cases lt x y <;> cases lt y x <;> simp
theorem stT_late {α : Type} {lt : α → α → Bool} {pos : α → Nat} {x y : α} (h : pos y < pos x) : stT lt pos x y = lt x y := by
  unfold stT; rw [decide_eq_false (by omega)]; simp
theorem stT_swo {α : Type} {lt : α → α → Bool} {pos : α → Nat} (h : SWO lt) : SWO (stT lt pos) where
  irrefl x := by rw [stT_not]; exact ⟨h.irrefl x, .inr (Nat.le_refl _)⟩
  trans x y z h1 h2 := by
    rw [stT_iff] at *
    rcases h1 with h1 | ⟨h1, p1⟩ <;> rcases h2 with h2 | ⟨h2, p2⟩
    · exact .inl (h.trans _ _ _ h1 h2)
    · left
      cases e : lt x z
      · have := h.ntrans _ _ _ e h2; rw [h1] at this; cases this
      · rfl
    · left
      cases e : lt x z
      · have := h.ntrans _ _ _ h1 e; rw [h2] at this; cases this
      · rfl
    · exact .inr ⟨h.ntrans _ _ _ h2 h1, by omega⟩
  ntrans x y z h1 h2 := by
    rw [stT_not] at *
    obtain ⟨h1, p1⟩ := h1
    obtain ⟨h2, p2⟩ := h2
    refine ⟨h.ntrans _ _ _ h1 h2, ?_⟩
    cases e : lt z x
    · right
      have q1 : pos y ≤ pos x := by
        rcases p1 with p1 | p1
        · have := h.ntrans _ _ _ h2 e; rw [p1] at this; cases this
        · exact p1
      have q2 : pos z ≤ pos y := by
        rcases p2 with p2 | p2
        · have := h.ntrans _ _ _ e h1; rw [p2] at this; cases this
        · exact p2
      omega
    · exact .inl rfl

section
variable {α : Type} [Inhabited α]

/-- two parts, each sorted, all of the first earlier -/
def Mrg (T : α → α → Bool) (pos : α → Nat) (a m b : Nat) (d : Array α) : Prop :=
  SortedIn T a m d ∧ SortedIn T m b d ∧ ∀ i j, a ≤ i → i < m → m ≤ j → j < b → pos d[i]! < pos d[j]!
theorem Mrg.congr {T : α → α → Bool} {pos : α → Nat} {a m b : Nat} {d d' : Array α} (h : Mrg T pos a m b d) (he : ∀ i, a ≤ i → i < b → d'[i]! = d[i]!) (ham : a ≤ m) (hmb : m ≤ b) : Mrg T pos a m b d' := by
  refine ⟨fun i j h1 h2 h3 => ?_, fun i j h1 h2 h3 => ?_, fun i j h1 h2 h3 h4 => ?_⟩
  · rw [he i (by omega) (by omega), he j (by omega) (by omega)]; exact h.1 i j h1 h2 h3
  · rw [he i (by omega) (by omega), he j (by omega) (by omega)]; exact h.2.1 i j h1 h2 h3
  · rw [he i (by omega) (by omega), he j (by omega) (by omega)]; exact h.2.2 i j h1 h2 h3 h4
/-- d' is d with s .. m and m .. e in each other's place -/
structure RotP (d : Array α) (s m e : Nat) (d' : Array α) : Prop where
  perm : PermIn s e d d'
  fst : ∀ k, k < e - m → d'[s + k]! = d[m + k]!
  snd : ∀ k, k < m - s → d'[s + (e - m) + k]! = d[s + k]!
theorem RotP.none {d : Array α} {s m e : Nat} (h : s = m ∨ m = e) (h1 : s ≤ m) (h2 : m ≤ e) : RotP d s m e d := by
  refine ⟨permIn_refl _ _ _, fun k hk => ?_, fun k hk => ?_⟩
  · rw [show s + k = m + k by omega]
  · rw [show s + (e - m) + k = s + k by omega]
theorem RotP.lo {d d' : Array α} {s m e : Nat} (h : RotP d s m e d') {i : Nat} (hi : i < s) : d'[i]! = d[i]! := h.perm.2.1 i (.inl hi)
theorem RotP.hi {d d' : Array α} {s m e : Nat} (h : RotP d s m e d') {i : Nat} (hi : e ≤ i) : d'[i]! = d[i]! := h.perm.2.1 i (.inr hi)
theorem RotP.one {d d' : Array α} {s m e : Nat} (h : RotP d s m e d') {i : Nat} (h1 : s ≤ i) (h2 : i < s + (e - m)) : d'[i]! = d[i - s + m]! := by
  have := h.fst (i - s) (by omega)
  rw [show s + (i - s) = i by omega, Nat.add_comm] at this
  exact this
theorem RotP.two {d d' : Array α} {s m e : Nat} (h : RotP d s m e d') {i : Nat} (h1 : s + (e - m) ≤ i) (h2 : i < e) (hs : s ≤ m) : d'[i]! = d[i - (e - m)]! := by
  have := h.snd (i - (s + (e - m))) (by omega)
  rw [show s + (e - m) + (i - (s + (e - m))) = i by omega, show s + (i - (s + (e - m))) = i - (e - m) by omega] at this
  exact this
theorem RotP.split {T : α → α → Bool} {pos : α → Nat} (hS : SWO T) {a s m e b : Nat} {d d1 : Array α} (hp : Mrg T pos a m b d) (ha : a ≤ s) (hs : s ≤ m) (hm : m ≤ e) (he : e ≤ b)
    (c1 : a < s → e < b → T d[e]! d[s - 1]! = false) (c2 : s < m → m < e → T d[e - 1]! d[s]! = true) (hr : RotP d s m e d1) :
    Mrg T pos a s (s + (e - m)) d1 ∧ Mrg T pos (s + (e - m)) e b d1 ∧ ∀ i j, a ≤ i → i < s + (e - m) → s + (e - m) ≤ j → j < b → T d1[j]! d1[i]! = false := by
  obtain ⟨p1, p2, p3⟩ := hp
  have l1 : ∀ i j, a ≤ i → i ≤ j → j < m → T d[j]! d[i]! = false := fun i j h1 h2 h3 => by
    by_cases e : i = j
    · subst e; exact hS.irrefl _
    · exact p1 i j h1 (by omega) h3
  have l2 : ∀ i j, m ≤ i → i ≤ j → j < b → T d[j]! d[i]! = false := fun i j h1 h2 h3 => by
    by_cases e : i = j
    · subst e; exact hS.irrefl _
    · exact p2 i j h1 (by omega) h3
  have hAD : ∀ i j, a ≤ i → i < s → e ≤ j → j < b → T d[j]! d[i]! = false := fun i j h1 h2 h3 h4 =>
    hS.ntrans _ _ _ (hS.ntrans _ _ _ (l2 e j (by omega) (by omega) h4) (c1 (by omega) (by omega))) (l1 i (s - 1) h1 (by omega) (by omega))
  have hCB : ∀ i j, m ≤ i → i < e → s ≤ j → j < m → T d[j]! d[i]! = false := fun i j h1 h2 h3 h4 =>
    hS.ntrans _ _ _ (hS.ntrans _ _ _ (l1 s j (by omega) (by omega) h4) (SWO.asymmA hS (c2 (by omega) (by omega)))) (l2 i (e - 1) h1 (by omega) (by omega))
  refine ⟨⟨fun i j h1 h2 h3 => ?_, fun i j h1 h2 h3 => ?_, fun i j h1 h2 h3 h4 => ?_⟩, ⟨fun i j h1 h2 h3 => ?_, fun i j h1 h2 h3 => ?_, fun i j h1 h2 h3 h4 => ?_⟩, fun i j h1 h2 h3 h4 => ?_⟩
  · rw [hr.lo (i := i) (by omega), hr.lo (i := j) (by omega)]; exact l1 _ _ h1 (by omega) (by omega)
  · rw [hr.one (i := i) (by omega) (by omega), hr.one (i := j) (by omega) (by omega)]; exact l2 _ _ (by omega) (by omega) (by omega)
  · rw [hr.lo (i := i) (by omega), hr.one (i := j) (by omega) (by omega)]; exact p3 _ _ h1 (by omega) (by omega) (by omega)
  · rw [hr.two (i := i) (by omega) (by omega) hs, hr.two (i := j) (by omega) (by omega) hs]; exact l1 _ _ (by omega) (by omega) (by omega)
  · rw [hr.hi (i := i) (by omega), hr.hi (i := j) (by omega)]; exact l2 _ _ (by omega) (by omega) (by omega)
  · rw [hr.two (i := i) (by omega) (by omega) hs, hr.hi (i := j) (by omega)]; exact p3 _ _ (by omega) (by omega) (by omega) (by omega)
  · by_cases hi : i < s <;> by_cases hj : j < e
    · rw [hr.lo hi, hr.two (i := j) h3 hj hs]; exact l1 _ _ h1 (by omega) (by omega)
    · rw [hr.lo hi, hr.hi (i := j) (by omega)]; exact hAD _ _ h1 hi (by omega) h4
    · rw [hr.one (i := i) (by omega) h2, hr.two (i := j) h3 hj hs]; exact hCB _ _ (by omega) (by omega) (by omega) (by omega)
    · rw [hr.one (i := i) (by omega) h2, hr.hi (i := j) (by omega)]; exact l2 _ _ (by omega) (by omega) (by omega)
theorem sorted_join {T : α → α → Bool} {a mid b : Nat} {d : Array α} (h1 : SortedIn T a mid d) (h2 : SortedIn T mid b d) (h3 : ∀ i j, a ≤ i → i < mid → mid ≤ j → j < b → T d[j]! d[i]! = false) : SortedIn T a b d := fun i j g1 g2 g3 => by
  by_cases hj : j < mid
  · exact h1 i j g1 g2 hj
  · by_cases hi : i < mid
    · exact h3 i j g1 hi (by omega) g3
    · exact h2 i j (by omega) g2 g3
theorem merge_join {T : α → α → Bool} {a mid b : Nat} {d d1 d2 d3 : Array α} (hab : PermIn a b d d1) (ha : a ≤ mid) (hmb : mid ≤ b) (hb : b ≤ d.size) (h2 : PermIn a mid d1 d2) (s2 : SortedIn T a mid d2) (h3 : PermIn mid b d2 d3) (s3 : SortedIn T mid b d3)
    (hc : ∀ i j, a ≤ i → i < mid → mid ≤ j → j < b → T d1[j]! d1[i]! = false) : PermIn a b d d3 ∧ SortedIn T a b d3 := by
  have e1 : d1.size = d.size := hab.1
  have e2 : d2.size = d.size := h2.1.trans e1
  refine ⟨permIn_trans _ _ _ _ _ hab (permIn_trans _ _ _ _ _ (permIn_mono _ _ _ _ _ _ (Nat.le_refl _) hmb (by omega) h2) (permIn_mono _ _ _ _ _ _ ha (Nat.le_refl _) (by omega) h3)), ?_⟩
  refine sorted_join (mid := mid) (fun i j g1 g2 g3 => by rw [h3.2.1 i (.inl (by omega)), h3.2.1 j (.inl (by omega))]; exact s2 i j g1 g2 g3) s3 (fun i j g1 g2 g3 g4 => ?_)
  rw [h3.2.1 i (.inl g2)]
  refine permIn_all d2 d3 mid b (fun x => T x d2[i]! = false) (by omega) h3 (fun k q1 q2 => ?_) j g3 g4
  rw [h2.2.1 k (.inr q1)]
  exact permIn_all d1 d2 a mid (fun x => T d1[k]! x = false) (by omega) h2 (fun l r1 r2 => hc l k r1 r2 q1 q2) i g1 g2
/-- one is put in among those behind it -/
theorem RotP.up {d dk : Array α} {a k : Nat} (h : RotP d a (a + 1) (k + 1) dk) (ha : a ≤ k) (hk : k + 1 < d.size) : RotP d a (a + 1) (k + 2) (swp dk k (k + 1)) := by
  have hs : dk.size = d.size := h.perm.1
  refine ⟨permIn_trans _ _ _ _ _ (permIn_mono _ _ _ _ _ _ (Nat.le_refl _) (by omega) (by omega) h.perm) (swp_permIn _ _ _ _ _ (by omega) (by omega) (by omega) (by omega) (by omega)), fun q hq => ?_, fun q hq => ?_⟩
  · by_cases e : a + q = k
    · rw [e, swp_left _ _ _ (by omega) (by omega), h.hi (by omega)]
      congr 1; omega
    · rw [swp_other _ _ _ _ e (by omega)]
      exact h.fst q (by omega)
  · have e : q = 0 := by omega
    subst e
    have := h.snd 0 (by omega)
    rw [show a + (k + 1 - (a + 1)) + 0 = k by omega] at this
    rw [show a + (k + 2 - (a + 1)) + 0 = k + 1 by omega, swp_right _ _ _ (by omega)]
    exact this
/-- one is put in among those ahead of it -/
theorem RotP.down {d dk : Array α} {m k : Nat} (h : RotP d (k + 1) m (m + 1) dk) (hk : k + 1 ≤ m) (hm : m < d.size) : RotP d k m (m + 1) (swp dk (k + 1) k) := by
  have hs : dk.size = d.size := h.perm.1
  refine ⟨permIn_trans _ _ _ _ _ (permIn_mono _ _ _ _ _ _ (by omega) (Nat.le_refl _) (by omega) h.perm) (swp_permIn _ _ _ _ _ (by omega) (by omega) (by omega) (by omega) (by omega)), fun q hq => ?_, fun q hq => ?_⟩
  · have e : q = 0 := by omega
    subst e
    have := h.fst 0 (by omega)
    simp only [Nat.add_zero] at this ⊢
    rw [swp_right _ _ _ (by omega)]
    exact this
  · by_cases e : q = 0
    · subst e
      rw [show k + (m + 1 - m) + 0 = k + 1 by omega, Nat.add_zero, swp_left _ _ _ (by omega) (by omega)]
      exact h.lo (by omega)
    · rw [swp_other _ _ _ _ (by omega) (by omega)]
      have := h.snd (q - 1) (by omega)
      rw [show k + 1 + (m + 1 - m) + (q - 1) = k + (m + 1 - m) + q by omega, show k + 1 + (q - 1) = k + q by omega] at this
      exact this
/-- two rows of n in each other's place -/
structure SwR (d : Array α) (a b n : Nat) (d' : Array α) : Prop where
  perm : PermIn a (b + n) d d'
  fst : ∀ k, k < n → d'[a + k]! = d[b + k]!
  snd : ∀ k, k < n → d'[b + k]! = d[a + k]!
  oth : ∀ i, (i < a ∨ a + n ≤ i) → (i < b ∨ b + n ≤ i) → d'[i]! = d[i]!
theorem SwR.zero (d : Array α) (a b : Nat) : SwR d a b 0 d := ⟨permIn_refl _ _ _, fun k h => by omega, fun k h => by omega, fun i _ _ => rfl⟩
theorem SwR.succ {d dk : Array α} {a b n : Nat} (h : SwR d a b n dk) (hab : a + n < b) (hb : b + n < d.size) : SwR d a b (n + 1) (swp dk (a + n) (b + n)) := by
  have hs : dk.size = d.size := h.perm.1
  refine ⟨permIn_trans _ _ _ _ _ (permIn_mono _ _ _ _ _ _ (Nat.le_refl _) (by omega) (by omega) h.perm) (swp_permIn _ _ _ _ _ (by omega) (by omega) (by omega) (by omega) (by omega)), fun k hk => ?_, fun k hk => ?_, fun i h1 h2 => ?_⟩
  · by_cases e : k = n
    · subst e; rw [swp_left _ _ _ (by omega) (by omega)]; exact h.oth _ (by omega) (by omega)
    · rw [swp_other _ _ _ _ (by omega) (by omega)]; exact h.fst k (by omega)
  · by_cases e : k = n
    · subst e; rw [swp_right _ _ _ (by omega)]; exact h.oth _ (by omega) (by omega)
    · rw [swp_other _ _ _ _ (by omega) (by omega)]; exact h.snd k (by omega)
  · rw [swp_other _ _ _ _ (by omega) (by omega)]; exact h.oth i (by omega) (by omega)
theorem rot_gt {d d2 d' : Array α} {m i j : Nat} (hij : j < i) (him : i ≤ m) (hs : m + j ≤ d.size) (h : SwR d (m - i) m j d2) (hr : RotP d2 (m - (i - j)) m (m + j) d') : RotP d (m - i) m (m + j) d' := by
  have e2 : d2.size = d.size := h.perm.1
  refine ⟨permIn_trans _ _ _ _ _ h.perm (permIn_mono _ _ _ _ _ _ (by omega) (Nat.le_refl _) (by omega) hr.perm), fun k hk => ?_, fun k hk => ?_⟩
  · rw [hr.lo (by omega)]; exact h.fst k (by omega)
  · by_cases e : k < j
    · have h1 := hr.fst k (by omega)
      rw [h.snd k e] at h1
      rw [show m - i + (m + j - m) + k = m - (i - j) + k by omega]; exact h1
    · have h1 := hr.snd (k - j) (by omega)
      rw [h.oth (m - (i - j) + (k - j)) (by omega) (by omega)] at h1
      rw [show m - i + (m + j - m) + k = m - (i - j) + (m + j - m) + (k - j) by omega, show m - i + k = m - (i - j) + (k - j) by omega]; exact h1
theorem rot_lt {d d2 d' : Array α} {m i j : Nat} (hij : i < j) (him : i ≤ m) (hs : m + j ≤ d.size) (h : SwR d (m - i) (m + j - i) i d2) (hr : RotP d2 (m - i) m (m + (j - i)) d') : RotP d (m - i) m (m + j) d' := by
  have e2 : d2.size = d.size := h.perm.1
  have hp := h.perm
  rw [show m + j - i + i = m + j by omega] at hp
  refine ⟨permIn_trans _ _ _ _ _ hp (permIn_mono _ _ _ _ _ _ (Nat.le_refl _) (by omega) (by omega) hr.perm), fun k hk => ?_, fun k hk => ?_⟩
  · by_cases e : k < j - i
    · have h1 := hr.fst k (by omega)
      rw [h.oth (m + k) (by omega) (by omega)] at h1
      exact h1
    · have h1 := hr.snd (k - (j - i)) (by omega)
      rw [h.fst (k - (j - i)) (by omega)] at h1
      rw [show m - i + k = m - i + (m + (j - i) - m) + (k - (j - i)) by omega, show m + k = m + j - i + (k - (j - i)) by omega]; exact h1
  · have h1 := h.snd k (by omega)
    rw [show m - i + (m + j - m) + k = m + j - i + k by omega, hr.hi (by omega)]; exact h1
theorem rot_eq {d d2 : Array α} {m i : Nat} (him : i ≤ m) (h : SwR d (m - i) m i d2) : RotP d (m - i) m (m + i) d2 :=
  ⟨h.perm, fun k hk => h.fst k (by omega), fun k hk => by rw [show m - i + (m + i - m) + k = m + k by omega]; exact h.snd k (by omega)⟩

/-- the first alone is put in its place -/
theorem merge_left {T : α → α → Bool} {pos : α → Nat} (hS : SWO T) {a i b : Nat} {d d1 : Array α} (hp : Mrg T pos a (a + 1) b d) (h1 : a + 1 ≤ i) (h2 : i ≤ b) (hb : b ≤ d.size) (c1 : i = a + 1 ∨ T d[i - 1]! d[a]! = true) (c2 : i = b ∨ T d[i]! d[a]! = false) (hr : RotP d a (a + 1) i d1) : PermIn a b d d1 ∧ SortedIn T a b d1 := by
  obtain ⟨g1, g2, g3⟩ := hr.split hS hp (Nat.le_refl _) (by omega) h1 h2 (fun h => by omega) (fun _ h => c1.elim (fun e => by omega) id)
  refine ⟨permIn_mono _ _ _ _ _ _ (Nat.le_refl _) h2 hb hr.perm, sorted_join g1.2.1 (fun x y q1 q2 q3 => ?_) g3⟩
  by_cases hx : x < i
  · rw [hr.two (i := x) q1 hx (by omega), hr.hi (i := y) (by omega), show x - (i - (a + 1)) = a by omega]
    rcases c2 with c2 | c2
    · omega
    · by_cases e : y = i
      · subst e; exact c2
      · exact hS.ntrans _ _ _ (hp.2.1 i y h1 (by omega) q3) c2
  · rw [hr.hi (i := x) (by omega), hr.hi (i := y) (by omega)]
    exact hp.2.1 x y (by omega) q2 q3
/-- the last alone is put in its place -/
theorem merge_right {T : α → α → Bool} {pos : α → Nat} (hS : SWO T) {a i m : Nat} {d d1 : Array α} (hp : Mrg T pos a m (m + 1) d) (h1 : a ≤ i) (h2 : i ≤ m) (hb : m + 1 ≤ d.size) (c1 : i = a ∨ T d[m]! d[i - 1]! = false) (c2 : i = m ∨ T d[m]! d[i]! = true) (hr : RotP d i m (m + 1) d1) : PermIn a (m + 1) d d1 ∧ SortedIn T a (m + 1) d1 := by
  obtain ⟨g1, g2, g3⟩ := hr.split hS hp h1 h2 (by omega) (Nat.le_refl _) (fun _ h => by omega) (fun h _ => c2.elim (fun e => by omega) id)
  refine ⟨permIn_mono _ _ _ _ _ _ h1 (Nat.le_refl _) hb hr.perm, sorted_join (fun x y q1 q2 q3 => ?_) g2.1 g3⟩
  by_cases hy : y < i
  · rw [hr.lo hy, hr.lo (i := x) (by omega)]
    exact hp.1 x y q1 q2 (by omega)
  · rw [hr.lo (i := x) (by omega), hr.one (i := y) (by omega) q3, show y - i + m = m by omega]
    rcases c1 with c1 | c1
    · omega
    · by_cases e : x = i - 1
      · subst e; exact c1
      · exact hS.ntrans _ _ _ c1 (hp.1 x (i - 1) q1 (by omega) (by omega))

theorem Mrg.flat {T : α → α → Bool} {pos : α → Nat} {a m b : Nat} {d : Array α} (h : Mrg T pos a m b d) (he : a = m ∨ m = b) : PermIn a b d d ∧ SortedIn T a b d := by
  refine ⟨permIn_refl _ _ _, ?_⟩
  rcases he with rfl | rfl
  · exact h.2.1
  · exact h.1
/-- the two halves, each merged by itself -/
theorem merge_tail {T : α → α → Bool} {pos : α → Nat} (hS : SWO T) {a s m e b M : Nat} {d : Array α} (hp : Mrg T pos a m b d) (ha : a ≤ s) (hs : s ≤ m) (hm : m ≤ e) (he : e ≤ b) (hb : b ≤ d.size) (hM : M = s + (e - m))
    (c1 : a < s → e < b → T d[e]! d[s - 1]! = false) (c2 : s < m → m < e → T d[e - 1]! d[s]! = true) :
    (∀ d1, RotP d s m e d1 → Mrg T pos a s M d1) ∧ (∀ d1 d2, RotP d s m e d1 → PermIn a M d1 d2 → Mrg T pos M e b d2) ∧
    ∀ d1 d2 d3, RotP d s m e d1 → PermIn a M d1 d2 ∧ SortedIn T a M d2 → PermIn M b d2 d3 ∧ SortedIn T M b d3 → PermIn a b d d3 ∧ SortedIn T a b d3 := by
  subst hM
  refine ⟨fun d1 hr => (hr.split hS hp ha hs hm he c1 c2).1, fun d1 d2 hr h2 => ?_, fun d1 d2 d3 hr h2 h3 => ?_⟩
  · exact (hr.split hS hp ha hs hm he c1 c2).2.1.congr (fun i h1 _ => h2.2.1 i (.inr h1)) (by omega) he
  · have hab := permIn_mono _ _ _ _ a b ha he hb hr.perm
    exact merge_join hab (by omega) (by omega) hb h2.1 h2.2 h3.1 h3.2 (hr.split hS hp ha hs hm he c1 c2).2.2

/-! the insertion sort is stable -/
theorem insInner_perm {T : α → α → Bool} {a : Nat} : ∀ (j : Nat) (d : Array α), a ≤ j → j < d.size → PermIn a (j + 1) d (insInner T a j d)
  | 0, d, _, _ => permIn_refl _ _ _
  | j + 1, d, ha, hj => by
    unfold insInner
    split
    · rename_i hc
      have hg : a ≤ j := by simp at hc; omega
      exact permIn_trans _ _ _ _ _ (swp_permIn d a (j + 1 + 1) (j + 1) j (by omega) (by omega) (by omega) (by omega) (by omega)) (permIn_mono _ _ _ _ _ _ (Nat.le_refl _) (by omega) (by rw [size_swp]; omega) (insInner_perm j _ hg (by rw [size_swp]; omega)))
    · exact permIn_refl _ _ _
theorem insInner_congr {lt T : α → α → Bool} {a : Nat} : ∀ (j : Nat) (d : Array α), j < d.size → (∀ k, a ≤ k → k < j → T d[j]! d[k]! = lt d[j]! d[k]!) → insInner lt a j d = insInner T a j d
  | 0, d, _, _ => rfl
  | j + 1, d, hj, h => by
    unfold insInner
    by_cases hg : j + 1 > a
    · rw [h j (by omega) (by omega)]
      split
      · refine insInner_congr j _ (by rw [size_swp]; omega) (fun k h1 h2 => ?_)
        rw [swp_right _ _ _ (by omega), swp_other _ _ _ _ (by omega) (by omega)]
        exact h k h1 (by omega)
      · rfl
    · simp [hg]
/-- each is later than those ahead of it -/
def AscP (pos : α → Nat) (a b : Nat) (d : Array α) : Prop := ∀ x y, a ≤ x → x < y → y < b → pos d[x]! < pos d[y]!
theorem insOuter_congr {lt : α → α → Bool} {pos : α → Nat} {a b : Nat} : ∀ (f i : Nat) (d : Array α), b - i ≤ f → a ≤ i → b ≤ d.size → (∀ x y, a ≤ x → x < y → y < b → i ≤ y → pos d[x]! < pos d[y]!) → insOuter lt a b i d = insOuter (stT lt pos) a b i d
  | f, i, d, hf, ha, hb, h => by
    unfold insOuter
    by_cases hi : i < b
    · rw [if_pos hi, if_pos hi]
      cases f with
      | zero => omega
      | succ f =>
        have e : insInner lt a i d = insInner (stT lt pos) a i d := insInner_congr i d (by omega) (fun k h1 h2 => stT_late (h k i h1 h2 hi (Nat.le_refl _)))
        rw [e]
        have hp := insInner_perm (T := stT lt pos) i d ha (by omega)
        refine insOuter_congr f (i + 1) _ (by omega) (by omega) (by rw [hp.1]; exact hb) (fun x y h1 h2 h3 h4 => ?_)
        rw [hp.2.1 y (.inr (by omega))]
        by_cases hx : x < i + 1
        · exact permIn_all d _ a (i + 1) (fun v => pos v < pos d[y]!) (by omega) hp (fun k q1 q2 => h k y q1 (by omega) h3 (by omega)) x h1 hx
        · rw [hp.2.1 x (.inr (by omega))]
          exact h x y h1 h2 h3 (by omega)
    · rw [if_neg hi, if_neg hi]
theorem ins_stable {lt : α → α → Bool} {pos : α → Nat} (hS : SWO lt) {a b : Nat} {d : Array α} (hab : a ≤ b) (hb : b ≤ d.size) (h : AscP pos a b d) : PermIn a b d (insertionSort lt d a b) ∧ SortedIn (stT lt pos) a b (insertionSort lt d a b) := by
  have e : insertionSort lt d a b = insertionSort (stT lt pos) d a b := insOuter_congr b (a + 1) d (by omega) (by omega) hb (fun x y h1 h2 h3 _ => h x y h1 h2 h3)
  rw [e]
  exact insertionSort_holds (stT_swo hS) d a b hab hb

/-! blocks -/
/-- all ahead of c are earlier than those from c on -/
def CrossP (pos : α → Nat) (n c : Nat) (d : Array α) : Prop := ∀ i j, i < c → c ≤ j → j < n → pos d[i]! < pos d[j]!
theorem CrossP.perm {pos : α → Nat} {n c a b : Nat} {d d' : Array α} (h : CrossP pos n c d) (hp : PermIn a b d d') (hc : c ≤ a ∨ b ≤ c) (hb : b ≤ n) (hn : n ≤ d.size) (hab : a ≤ b) : CrossP pos n c d' := by
  have key : ∀ i j, i < c → c ≤ j → j < n → pos d[i]! < pos d'[j]! := fun i j h1 h2 h3 => by
    by_cases hj : a ≤ j ∧ j < b
    · exact permIn_all d d' a b (fun v => pos d[i]! < pos v) (by omega) hp (fun k q1 q2 => h i k h1 (by omega) (by omega)) j hj.1 hj.2
    · rw [hp.2.1 j (by omega)]; exact h i j h1 h2 h3
  intro i j h1 h2 h3
  by_cases hi : a ≤ i ∧ i < b
  · exact permIn_all d d' a b (fun v => pos v < pos d'[j]!) (by omega) hp (fun k q1 q2 => key k j (by omega) h2 h3) i hi.1 hi.2
  · rw [hp.2.1 i (by omega)]; exact key i j h1 h2 h3
theorem SortedIn.keep {T : α → α → Bool} {a b x y : Nat} {d d' : Array α} (h : SortedIn T x y d) (hp : PermIn a b d d') (hd : y ≤ a ∨ b ≤ x) : SortedIn T x y d' := fun i j h1 h2 h3 => by
  rw [hp.2.1 i (by omega), hp.2.1 j (by omega)]; exact h i j h1 h2 h3
theorem SortedIn.shrink {T : α → α → Bool} {x y x' y' : Nat} {d : Array α} (h : SortedIn T x y d) (h1 : x ≤ x') (h2 : y' ≤ y) : SortedIn T x' y' d := fun i j g1 g2 g3 => h i j (by omega) g2 (by omega)
/-- the first loop: q blocks of 20 are sorted -/
structure BlkA (T : α → α → Bool) (pos : α → Nat) (d0 : Array α) (q : Nat) (d : Array α) : Prop where
  perm : PermIn 0 d0.size d0 d
  srt : ∀ r, r < q → SortedIn T (r * 20) (r * 20 + 20) d
  crs : ∀ r, CrossP pos d0.size (r * 20) d
  asc : AscP pos (q * 20) d0.size d
theorem BlkA.zero {T : α → α → Bool} {pos : α → Nat} {d0 : Array α} (h : AscP pos 0 d0.size d0) : BlkA T pos d0 0 d0 :=
  ⟨permIn_refl _ _ _, fun r hr => by omega, fun r i j h1 h2 h3 => h i j (Nat.zero_le _) (by omega) h3, by rw [Nat.zero_mul]; exact h⟩
theorem BlkA.succ {lt : α → α → Bool} {pos : α → Nat} (hS : SWO lt) {d0 d : Array α} {q : Nat} (h : BlkA (stT lt pos) pos d0 q d) (hb : q * 20 + 20 ≤ d0.size) : BlkA (stT lt pos) pos d0 (q + 1) (insertionSort lt d (q * 20) (q * 20 + 20)) := by
  have hs : d.size = d0.size := h.perm.1
  obtain ⟨h1, h2⟩ := ins_stable hS (a := q * 20) (b := q * 20 + 20) (d := d) (by omega) (by omega) (fun x y g1 g2 g3 => h.asc x y g1 g2 (by omega))
  refine ⟨permIn_trans _ _ _ _ _ h.perm (permIn_mono _ _ _ _ _ _ (Nat.zero_le _) hb (by omega) h1), fun r hr => ?_, fun r => (h.crs r).perm h1 (by omega) hb (by omega) (by omega), fun x y g1 g2 g3 => ?_⟩
  · by_cases e : r = q
    · subst e; exact h2
    · exact SortedIn.keep (h.srt r (by omega)) h1 (by omega)
  · rw [h1.2.1 x (by omega), h1.2.1 y (by omega)]; exact h.asc x y (by omega) g2 g3
/-- blocks of s are sorted, the first ones (up to a) of twice that -/
structure BlkB (T : α → α → Bool) (pos : α → Nat) (d0 : Array α) (s q : Nat) (d : Array α) : Prop where
  perm : PermIn 0 d0.size d0 d
  two : ∀ r, r < q → SortedIn T (r * (2 * s)) (min (r * (2 * s) + 2 * s) d0.size) d
  one : ∀ r, 2 * q ≤ r → SortedIn T (r * s) (min (r * s + s) d0.size) d
  crs2 : ∀ r, CrossP pos d0.size (r * (2 * s)) d
  crs1 : ∀ r, 2 * q ≤ r → CrossP pos d0.size (r * s) d
theorem BlkA.done {lt : α → α → Bool} {pos : α → Nat} (hS : SWO lt) {d0 d : Array α} {q : Nat} (h : BlkA (stT lt pos) pos d0 q d) (hq : q * 20 ≤ d0.size) (hb : d0.size < q * 20 + 20) : BlkB (stT lt pos) pos d0 20 0 (insertionSort lt d (q * 20) d0.size) := by
  have hs : d.size = d0.size := h.perm.1
  obtain ⟨h1, h2⟩ := ins_stable hS (a := q * 20) (b := d0.size) (d := d) hq (by omega) (fun x y g1 g2 g3 => h.asc x y g1 g2 (by omega))
  have hc : ∀ r, CrossP pos d0.size (r * 20) (insertionSort lt d (q * 20) d0.size) := fun r => by
    by_cases e : r * 20 ≤ d0.size
    · exact (h.crs r).perm h1 (by omega) (Nat.le_refl _) (by omega) hq
    · exact fun i j g1 g2 g3 => by omega
  refine ⟨permIn_trans _ _ _ _ _ h.perm (permIn_mono _ _ _ _ _ _ (Nat.zero_le _) (Nat.le_refl _) (by omega) h1), fun r hr => by omega, fun r _ => ?_, fun r => ?_, fun r _ => hc r⟩
  · by_cases e : r < q
    · exact SortedIn.keep (SortedIn.shrink (h.srt r e) (Nat.le_refl _) (by omega)) h1 (by omega)
    · by_cases e2 : r = q
      · subst e2; exact SortedIn.shrink h2 (Nat.le_refl _) (by omega)
      · exact fun i j g1 g2 g3 => by omega
  · have := hc (2 * r)
    rw [show 2 * r * 20 = r * (2 * 20) by omega] at this
    exact this
theorem mul2 (q s : Nat) : q * (2 * s) = 2 * q * s := by rw [← Nat.mul_assoc, Nat.mul_comm q 2]
theorem mul21 (q s : Nat) : (2 * q + 1) * s = 2 * q * s + s := Nat.succ_mul _ _
theorem BlkB.mrg {T : α → α → Bool} {pos : α → Nat} {d0 d : Array α} {s q b : Nat} (h : BlkB T pos d0 s q d) (hb : b ≤ q * (2 * s) + 2 * s) (hb2 : b ≤ d0.size) (hm : q * (2 * s) + s < b) (h0 : 0 < s) : Mrg T pos (q * (2 * s)) (q * (2 * s) + s) b d := by
  have e1 := mul2 q s
  have e2 := mul21 q s
  have h1 := h.one (2 * q) (Nat.le_refl _)
  have h2 := h.one (2 * q + 1) (by omega)
  have h3 := h.crs1 (2 * q + 1) (by omega)
  rw [e2, ← e1] at h2 h3
  rw [← e1] at h1
  exact ⟨SortedIn.shrink h1 (Nat.le_refl _) (by omega), SortedIn.shrink h2 (Nat.le_refl _) (by omega), fun i j g1 g2 g3 g4 => h3 i j g2 g3 (by omega)⟩
theorem mul_step (r q t : Nat) (h : r < q) : r * t + t ≤ q * t := by
  have := Nat.mul_le_mul_right t (show r + 1 ≤ q from h)
  rwa [Nat.succ_mul] at this
theorem BlkB.succ {T : α → α → Bool} {pos : α → Nat} {d0 d d' : Array α} {s q b : Nat} (h : BlkB T pos d0 s q d) (hb : b = min (q * (2 * s) + 2 * s) d0.size) (hm : q * (2 * s) ≤ b) (h0 : 0 < s) (hp : PermIn (q * (2 * s)) b d d') (hs : SortedIn T (q * (2 * s)) b d') : BlkB T pos d0 s (q + 1) d' := by
  have hsz : d.size = d0.size := h.perm.1
  have hbn : b ≤ d0.size := by omega
  refine ⟨permIn_trans _ _ _ _ _ h.perm (permIn_mono _ _ _ _ _ _ (Nat.zero_le _) hbn (by omega) hp), fun r hr => ?_, fun r hr => ?_, fun r => ?_, fun r hr => ?_⟩
  · by_cases e : r = q
    · subst e; rw [← hb]; exact hs
    · have := mul_step r q (2 * s) (by omega)
      exact SortedIn.keep (h.two r (by omega)) hp (.inl (by omega))
  · have e1 := mul2 (q + 1) s
    have e3 : (q + 1) * (2 * s) = q * (2 * s) + 2 * s := Nat.succ_mul q (2 * s)
    have e2 : 2 * (q + 1) * s ≤ r * s := Nat.mul_le_mul_right s hr
    exact SortedIn.keep (h.one r (by omega)) hp (.inr (by omega))
  · by_cases e : r ≤ q
    · exact (h.crs2 r).perm hp (.inl (Nat.mul_le_mul_right _ e)) hbn (by omega) hm
    · have := mul_step q r (2 * s) (by omega)
      exact (h.crs2 r).perm hp (.inr (by omega)) hbn (by omega) hm
  · have e1 := mul2 (q + 1) s
    have e3 : (q + 1) * (2 * s) = q * (2 * s) + 2 * s := Nat.succ_mul q (2 * s)
    have e2 : 2 * (q + 1) * s ≤ r * s := Nat.mul_le_mul_right s hr
    exact (h.crs1 r (by omega)).perm hp (.inr (by omega)) hbn (by omega) hm
/-- what is behind the last pair is one block, or nothing -/
theorem BlkB.done {T : α → α → Bool} {pos : α → Nat} {d0 d : Array α} {s q : Nat} (h : BlkB T pos d0 s q d) (hb : d0.size ≤ q * (2 * s) + s) (h0 : 0 < s) : BlkB T pos d0 (2 * s) 0 d := by
  have hsz : d.size = d0.size := h.perm.1
  refine ⟨h.perm, fun r hr => by omega, fun r _ => ?_, fun r => ?_, fun r _ => h.crs2 r⟩
  · by_cases e : r < q
    · exact h.two r e
    · by_cases e2 : r = q
      · subst e2
        have := h.one (2 * r) (Nat.le_refl _)
        rw [← mul2] at this
        exact SortedIn.shrink this (Nat.le_refl _) (by omega)
      · have := mul_step q r (2 * s) (by omega)
        exact fun i j g1 g2 g3 => by omega
  · have := h.crs2 (2 * r)
    rw [show 2 * r * (2 * s) = r * (2 * (2 * s)) by rw [mul2 r (2 * s)]] at this
    exact this
theorem BlkB.end {T : α → α → Bool} {pos : α → Nat} {d0 d : Array α} {s : Nat} (h : BlkB T pos d0 s 0 d) (hs : d0.size ≤ s) : PermIn 0 d0.size d0 d ∧ SortedIn T 0 d0.size d := by
  refine ⟨h.perm, ?_⟩
  have := h.one 0 (Nat.le_refl _)
  rw [Nat.zero_mul] at this
  exact SortedIn.shrink this (Nat.le_refl _) (by omega)
end
end Go.Proofs.YtdnodaoeflbfkaaGreat
/- Shares: what the program reckons in a round: plain numbers and lists. -/
namespace Go.Proofs.YtdnodaoeflbfkaaGreat
open Go.RowKit
set_option linter.unusedVariables false
/-- the places that are open, in order -/
def opensL (k : Nat) (O : Nat → Bool) : List Nat := (List.range k).filter O
theorem opensL_succ (k : Nat) (O : Nat → Bool) : opensL (k + 1) O = opensL k O ++ (if O k = true then [k] else []) := by
  unfold opensL
  rw [List.range_succ, List.filter_append]
  congr 1
  by_cases h : O k = true
  · rw [if_pos h]; simp [h]
  · rw [if_neg h]; simp [h]
theorem mem_opensL {k : Nat} {O : Nat → Bool} {p : Nat} : p ∈ opensL k O ↔ p < k ∧ O p = true := by
  unfold opensL; rw [List.mem_filter, List.mem_range]
theorem opensL_le (k : Nat) (O : Nat → Bool) : (opensL k O).length ≤ k := by
  have := List.length_filter_le O (List.range k)
  rw [List.length_range] at this
  exact this
theorem opensL_asc (O : Nat → Bool) : ∀ k, (opensL k O).Pairwise (· < ·)
  | 0 => by unfold opensL; simp
  | k + 1 => by
    rw [opensL_succ, List.pairwise_append]
    refine ⟨opensL_asc O k, by split <;> simp, fun a ha b hb => ?_⟩
    have := (mem_opensL.1 ha).1
    split at hb
    · simp at hb; omega
    · cases hb
theorem opensL_nodup (k : Nat) (O : Nat → Bool) : (opensL k O).Nodup := (opensL_asc O k).imp (fun h => Nat.ne_of_lt h)
theorem opensL_len (O : Nat → Bool) : ∀ k, (opensL k O).length = nOf O k
  | 0 => rfl
  | k + 1 => by
    rw [opensL_succ, List.length_append, opensL_len O k]
    show nOf O k + _ = nOf O k + (if O k = true then 1 else 0)
    split <;> rfl
/-- a sum over places -/
def sumL : List Nat → (Nat → Int) → Int
  | [], _ => 0
  | p :: r, f => f p + sumL r f
theorem sumL_app (f : Nat → Int) : ∀ a b, sumL (a ++ b) f = sumL a f + sumL b f
  | [], b => by show sumL b f = 0 + _; omega
  | p :: a, b => by show f p + sumL (a ++ b) f = f p + sumL a f + _; rw [sumL_app f a b]; omega
theorem sumL_perm {f : Nat → Int} {a b : List Nat} (h : a.Perm b) : sumL a f = sumL b f := by
  induction h with
  | nil => rfl
  | cons x _ ih => show f x + _ = f x + _; rw [ih]
  | swap x y l => show f y + (f x + sumL l f) = f x + (f y + sumL l f); omega
  | trans _ _ h1 h2 => exact h1.trans h2
theorem sumL_take (f : Nat → Int) (l : List Nat) (q : Nat) (h : q < l.length) : sumL (l.take (q + 1)) f = sumL (l.take q) f + f (l[q]'h) := by
  rw [List.take_add_one, sumL_app, List.getElem?_eq_getElem h]
  show _ + (f _ + 0) = _
  omega
theorem sumL_opens (O : Nat → Bool) (f : Nat → Int) : ∀ k, sumL (opensL k O) f = sumTo (onO O f) k
  | 0 => rfl
  | k + 1 => by
    rw [opensL_succ, sumL_app, sumL_opens O f k]
    show sumTo (onO O f) k + _ = sumTo (onO O f) k + onO O f k
    by_cases h : O k = true
    · rw [if_pos h, show onO O f k = f k from if_pos h]
      show _ + (f k + 0) = _; omega
    · rw [if_neg h, show onO O f k = 0 from if_neg h]; rfl
theorem sumL_bd {f : Nat → Int} {a : Int} : ∀ (l : List Nat), (∀ p ∈ l, 0 ≤ f p ∧ f p ≤ a) → 0 ≤ sumL l f ∧ sumL l f ≤ a * l.length
  | [], _ => by simp [sumL]
  | p :: r, h => by
    have h1 := h p (by simp)
    have h2 := sumL_bd r (fun q hq => h q (by simp [hq]))
    show 0 ≤ f p + sumL r f ∧ f p + sumL r f ≤ _
    have : a * ((p :: r).length : Int) = a * (r.length : Int) + a := by rw [List.length_cons]; push_cast; rw [Int.mul_add, Int.mul_one]
    rw [this]; omega
theorem nOf_list : ∀ (l : List Nat) (k : Nat), l.Nodup → (∀ p ∈ l, p < k) → nOf (fun i => decide (i ∈ l)) k = l.length
  | [], k, _, _ => by
    have e : (fun i => decide (i ∈ ([] : List Nat))) = (fun _ => false) := by funext i; simp
    rw [e]; exact (Seg.none k (fun _ => true) (fun _ => 0)).2
  | p :: r, k, h, hk => by
    have e : (fun i => decide (i ∈ p :: r)) = upB (fun i => decide (i ∈ r)) p := by
      funext i
      unfold upB
      rw [Bool.eq_iff_iff]
      simp [Or.comm]
    have hn := List.nodup_cons.1 h
    rw [e, nOf_up (by rw [decide_eq_false_iff_not]; exact hn.1), nOf_list r k hn.2 (fun q hq => hk q (by simp [hq])), if_pos (hk p (by simp)), List.length_cons]
theorem mem_take {d : Array Nat} {t i : Nat} : i ∈ d.toList.take t ↔ ∃ x, x < t ∧ x < d.size ∧ d[x]! = i := by
  rw [List.mem_take_iff_getElem]
  constructor
  · rintro ⟨x, hx, e⟩
    have hx' : x < t ∧ x < d.size := by rw [Array.length_toList] at hx; omega
    refine ⟨x, hx'.1, hx'.2, ?_⟩
    rw [getElem!_pos d x hx'.2, ← e]; simp
  · rintro ⟨x, h1, h2, e⟩
    refine ⟨x, by rw [Array.length_toList]; omega, ?_⟩
    rw [getElem!_pos d x h2] at e
    simpa using e
theorem perm_whole {d d' : Array Nat} (h : Go.Sort.PermIn 0 d.size d d') : d'.toList.Perm d.toList := by
  have h1 := h.2.2
  have h0 := h.1
  have e1 : d'.extract 0 d.size = d' := by rw [← h0]; simp
  have e2 : d.extract 0 d.size = d := by simp
  rw [e1, e2] at h1
  exact h1
/-- the first of those that are sorted are those that are served -/
theorem served {k t : Nat} {O : Nat → Bool} {r : Nat → Int} {lt : Nat → Nat → Bool} {d' : Array Nat} (hlt : ∀ i j, lt i j = decide (r j < r i)) (hp : Go.Sort.PermIn 0 (opensL k O).length (opensL k O).toArray d') (hs : Go.Sort.SortedIn (stT lt id) 0 (opensL k O).length d') (ht : t ≤ (opensL k O).length) :
    Seg k O r (fun i => decide (i ∈ d'.toList.take t)) ∧ nOf (fun i => decide (i ∈ d'.toList.take t)) k = t := by
  have hsz : d'.size = (opensL k O).length := hp.1
  have hpm : d'.toList.Perm (opensL k O) := perm_whole (d := (opensL k O).toArray) hp
  have hnd : d'.toList.Nodup := hpm.nodup_iff.2 (opensL_nodup k O)
  have hmem : ∀ i, i ∈ d'.toList ↔ i < k ∧ O i = true := fun i => hpm.mem_iff.trans mem_opensL
  refine ⟨⟨fun i hi => ?_, fun i j hj hi ho ha => ?_⟩, ?_⟩
  · rw [decide_eq_true_eq] at hi
    exact (hmem i).1 (List.mem_of_mem_take hi)
  · rw [decide_eq_true_eq] at hj ⊢
    obtain ⟨y, hy, hyd, ey⟩ := mem_take.1 hj
    have hi' := (hmem i).2 ⟨hi, ho⟩
    rw [← List.take_length (l := d'.toList)] at hi'
    obtain ⟨x, hx, hxd, ex⟩ := mem_take.1 hi'
    rw [Array.length_toList] at hx
    refine mem_take.2 ⟨x, Nat.not_le.1 (fun hxt => ?_), hxd, ex⟩
    have := hs y x (Nat.zero_le _) (by omega) (by omega)
    rw [ex, ey, stT_not, hlt, hlt] at this
    unfold ahead at ha
    simp only [decide_eq_false_iff_not, decide_eq_true_eq, id] at this
    omega
  · rw [nOf_list _ _ (hnd.sublist (List.take_sublist _ _)) (fun p hq => ((hmem p).1 (List.mem_of_mem_take hq)).1), List.length_take, Array.length_toList]
    omega
theorem in_take {d : Array Nat} {t j : Nat} (hn : d.toList.Nodup) (hj : j < d.size) : d[j]! ∈ d.toList.take t ↔ j < t := by
  rw [mem_take]
  constructor
  · rintro ⟨x, h1, h2, e⟩
    rw [getElem!_pos d x h2, getElem!_pos d j hj] at e
    have h0 := List.pairwise_iff_getElem.1 hn
    have h5 : x < d.toList.length := by rw [Array.length_toList]; exact h2
    have h6 : j < d.toList.length := by rw [Array.length_toList]; exact hj
    rcases Nat.lt_trichotomy x j with h | h | h
    · exact (h0 x j h5 h6 h (by simpa using e)).elim
    · omega
    · exact (h0 j x h6 h5 h (by simpa using e.symm)).elim
  · intro h; exact ⟨j, h, hj, rfl⟩
theorem asc_arr {l : List Nat} (h : l.Pairwise (· < ·)) : AscP id 0 l.toArray.size l.toArray := by
  intro x y h1 h2 h3
  have hy : y < l.length := by simpa using h3
  rw [getElem!_pos l.toArray x (by simp; omega), getElem!_pos l.toArray y h3]
  have := List.pairwise_iff_getElem.1 h x y (by omega) hy h2
  simpa using this
end Go.Proofs.YtdnodaoeflbfkaaGreat
/- impl.openPlaces. -/
namespace Go.Proofs.YtdnodaoeflbfkaaGreat
open Go.RowKit Go.BigFrame
set_option linter.unusedVariables false
def natI (l : List Nat) : List Int := l.map (fun (p : Nat) => (p : Int))
theorem natI_len (l : List Nat) : (natI l).length = l.length := by unfold natI; rw [List.length_map]
theorem IR.shape {w : World} {base : Nat} {v : Value} {l : List Int} (h : IR w base v l) : ∃ g cap, v = .slice (some ⟨g, 0, none⟩) l.length cap ∧ base ≤ g ∧ g < w.heap.size := by
  obtain ⟨h1, g, h2, h3, h4⟩ := h
  rcases h1.2 with ⟨e, _⟩ | ⟨g', cap, cur, e, hb, hh, _⟩
  · rw [e] at h2; cases h2
  · subst e
    have : g' = g := by simpa [Value.ownBlock] using h2
    subst this
    exact ⟨g', cap, rfl, h3, h4⟩
theorem cell_new1 {w wx : World} {x : Value} {t : TypeId} (hb : Below (w.heap.size + 1) (w.alloc (.cells #[x] t)) wx) : ∀ j u, [x][j]? = some u → wx.cell? ((⟨w.heap.size, 0, none⟩ : Addr).add j) = some u := fun j u h =>
  (hb.cell (p := (⟨w.heap.size, 0, none⟩ : Addr).add j) (by rw [Go.WideShapes.add_plain]; show w.heap.size < _; omega)).trans (cell_one_new w x t j u h)
set_option maxRecDepth 20000 in
set_option maxHeartbeats 3200000 in
theorem openPlaces_any (k : Nat) (c1 c2 : UD) (v1 v2 : Value) (lo hi lo' hi' bS : Nat) (out : Nat → Int) (w : World) (ht1 : tyS 1 k c1 1) (ht2 : tyS 1 k c2 1) (hx1 : uS w lo hi 1 k c1 v1) (hx2 : uS w lo' hi' 1 k c2 v2) (h64 : k ≤ 64) (hr : w.rowIs bS 3 k (fun j => .int .i64 (out j))) :
    Calls Tryz.prog 157 #[v1, v2, .slice (some ⟨bS, 0, none⟩) k k] w fun e w' => ∃ v, e = .returned v ∧ IR w' w.heap.size v (natI (opensL k (openF k (gI (intL c1)) (gI (intL c2)) out))) ∧ Below w.heap.size w w' := by
  obtain ⟨a1, p1, rfl, hy1⟩ := hx1
  obtain ⟨a2, p2, rfl, hy2⟩ := hx2
  have H1 : Hid (uS w lo hi 1 k c1 (.slice a1 k p1)) := ⟨_, _, rfl, hy1⟩
  have H2 : Hid (uS w lo' hi' 1 k c2 (.slice a2 k p2)) := ⟨_, _, rfl, hy2⟩
  have T1 := uhide ht1
  have T2 := uhide ht2
  have HR := uhide hr
  obtain ⟨i0, hi0, hz0, hz1, hz2⟩ := infoD Tryz.infoDInt
  have HO : Hid (∀ q, q < k → (openF k (gI (intL c1)) (gI (intL c2)) out q = true ↔ 0 < gI (intL c1) q ∧ out q < gI (intL c2) q)) := fun q hq => by
    unfold openF; rw [decide_eq_true_eq]; exact ⟨fun h => h.2, fun h => ⟨hq, h⟩⟩
  generalize openF k (gI (intL c1)) (gI (intL c2)) out = O at *
  have I0 : Hid (IR (w.alloc (.cells #[] 3)) w.heap.size (.slice (some ⟨w.heap.size, 0, none⟩) 0 0) (natI (opensL 0 O))) := IR.lit w w.heap.size (Nat.le_refl _)
  have B0 : Hid (Below w.heap.size w (w.alloc (.cells #[] 3))) := (Below.refl _ _).alloc (Nat.le_refl _) _
  clear hy1 hy2 ht1 ht2 hr
  go_enter Tryz.func157, Tryz.ntmps157
  go_wp2
  go_loopw [7, 13] (fun v i wr => ∃ (q n cap : Nat) (g : Nat), q ≤ k ∧ i = .int .i64 q ∧ v = .slice (some ⟨g, 0, none⟩) n cap ∧ Hid (n = (opensL q O).length) ∧ n ≤ q ∧ Hid (IR wr w.heap.size (.slice (some ⟨g, 0, none⟩) n cap) (natI (opensL q O))) ∧ Hid (Below w.heap.size w wr)) (fun _ i _ => k - (intOf i).toNat)
  case atStart => exact ⟨0, 0, 0, w.heap.size, Nat.zero_le _, rfl, rfl, rfl, Nat.le_refl _, I0, B0⟩
  case round =>
    clear I0 B0
    obtain ⟨q, n, cap, g, hq, rfl, rfl, HN, hnq, V, HB⟩ := hrel
    by_cases hlt : q < k
    · obtain ⟨b1, off1, rfl, hb1, -⟩ := (H1.out.below HB.out).cells (by omega)
      obtain ⟨b2, off2, rfl, hb2, -⟩ := (H2.out.below HB.out).cells (by omega)
      have q1 := cell_int T1.out (H1.out.below HB.out) q hlt
      have q2 := cell_int T2.out (H2.out.below HB.out) q hlt
      have q3 := (rowIs_below HR.out HB.out).cell hlt
      have HOQ := uhide (HO.out q hlt)
      have HSU : Hid (opensL (q + 1) O = opensL q O ++ (if O q = true then [q] else [])) := opensL_succ q O
      generalize gI (intL c1) q = X at *
      generalize gI (intL c2) q = Y at *
      generalize out q = Z at *
      by_cases hx : 0 < X
      rotate_left
      · have z0 : decide ((0 : Int) < X) = false := by rw [decide_eq_false_iff_not]; exact hx
        have hop : ¬ O q = true := fun h => hx (HOQ.out.1 h).1
        have e := HSU.out
        rw [if_neg hop, List.append_nil] at e
        have E := uhide e
        have V2 : Hid (∀ j, IR (wr.drewN j) w.heap.size (.slice (some ⟨g, 0, none⟩) n cap) (natI (opensL q O))) := fun j => V.out.below (below_drewN (Below.refl _ _) j)
        clear e HSU HOQ hop H1 H2 T1 T2 HR HO
        go_wp2
        go_region
        all_goals (
          go_wp2
          go_roundw
          case rel => exact ⟨q + 1, n, cap, g, by omega, by go_num, rfl, (by show n = _; rw [E.out]; exact HN.out), by omega, by rw [E.out]; (first | exact V | exact V2.out _), by first | exact HB | exact below_drewN HB.out _⟩
          case measure => simp [intOf]; omega)
      by_cases hzy : Z < Y
      rotate_left
      · have z0 : decide (Z < Y) = false := by rw [decide_eq_false_iff_not]; exact hzy
        have hop : ¬ O q = true := fun h => hzy (HOQ.out.1 h).2
        have e := HSU.out
        rw [if_neg hop, List.append_nil] at e
        have E := uhide e
        have V2 : Hid (∀ j, IR (wr.drewN j) w.heap.size (.slice (some ⟨g, 0, none⟩) n cap) (natI (opensL q O))) := fun j => V.out.below (below_drewN (Below.refl _ _) j)
        clear e HSU HOQ hop H1 H2 T1 T2 HR HO
        go_wp2
        go_region
        all_goals (
          go_wp2
          go_roundw
          case rel => exact ⟨q + 1, n, cap, g, by omega, by go_num, rfl, (by show n = _; rw [E.out]; exact HN.out), by omega, by rw [E.out]; (first | exact V | exact V2.out _), by first | exact HB | exact below_drewN HB.out _⟩
          case measure => simp [intOf]; omega)
      have hop : O q = true := HOQ.out.2 ⟨hx, hzy⟩
      have e := HSU.out
      rw [if_pos hop] at e
      have E := uhide e
      clear e HSU HOQ hop H1 H2 T1 T2 HR HO
      go_wp2
      go_region
      all_goals (
        have Bd : Hid (∀ j, Below w.heap.size w (wr.drewN j)) := fun j => below_drewN HB.out j
        have hws : w.heap.size ≤ wr.heap.size := HB.out.size
        have hnl : (natI (opensL q O)).length = n := by rw [natI_len]; exact HN.out.symm
        have VN : Hid (∀ wx, Below wr.heap.size wr wx → wx.ownsRow w.heap.size 3 1 (.slice (some ⟨g, 0, none⟩) n cap) n ((natI (opensL q O)).map (Value.int .i64))) := fun wx hb => by
          have := (V.out.below hb).1
          rw [hnl] at this; exact this
        clear hnl
        go_wp2_with (at_builtin; refine wpList_append_own_at _ rfl _ _ 28 rfl w.heap.size 3 i0 _ 1 8 Tryz.underlying28 hi0 hz0 hz1 hz2 rfl (by decide) _ _ _ rfl (VN.out _ (by repeat (first | with_reducible exact Below.refl _ _ | with_reducible refine Below.drew ?_ | with_reducible refine below_drewN ?_ _ | with_reducible refine Below.alloc ?_ (by simp) _))) ⟨wr.heap.size, 0, none⟩ 1 1 [.int .i64 q] rfl rfl (cell_new1 (t := 3) (by repeat (first | with_reducible exact Below.refl _ _ | with_reducible refine Below.drew ?_ | with_reducible refine below_drewN ?_ _))) (fun x hx => by simp at hx; rcases hx with rfl; rfl) (by unfold maxLen; omega) (by omega) (by simp; omega) ?_; intro v3 w3 hown hgrow hnil hat)
        have I3 : Hid (IR w3 w.heap.size v3 (natI (opensL (q + 1) O))) := by
          have h0 : IR ((wr.alloc (.cells #[.int .i64 (q : Int)] 3)).drew) w.heap.size (.slice (some ⟨g, 0, none⟩) n cap) (natI (opensL q O)) := V.out.below (by repeat (first | with_reducible exact Below.refl _ _ | with_reducible refine Below.drew ?_ | with_reducible refine Below.alloc ?_ (by simp) _))
          have e1 : natI (opensL (q + 1) O) = natI (opensL q O) ++ [(q : Int)] := by rw [E.out]; unfold natI; rw [List.map_append]; rfl
          rw [e1]
          exact h0.snoc (by rw [natI_len, ← HN.out]; exact hown) hat
        have HB3 : Hid (Below w.heap.size w w3) := Below.grown ((HB.out.alloc hws _).drew) hgrow (by simp; omega) (fun j hj => V.out.row j hj)
        have HN3 : Hid (n + 1 = (opensL (q + 1) O).length) := by
          show _ = _
          rw [E.out, List.length_append, ← HN.out]; rfl
        obtain ⟨g3, cap3, e3, -, -⟩ := I3.out.shape
        rw [natI_len, ← HN3.out] at e3
        subst e3
        clear hown hgrow hnil hat VN V HB HN E Bd
        go_roundw
        case rel => exact ⟨q + 1, n + 1, cap3, g3, by omega, by go_num, rfl, HN3, by omega, I3, HB3⟩
        case measure => simp [intOf]; omega)
    · have e : q = k := by omega
      subst e
      go_wp2
      go_ret
      exact ⟨_, rfl, V.out, HB.out⟩
end Go.Proofs.YtdnodaoeflbfkaaGreat
/- The library's stable sort at a row of structs of three numbers, walked. -/
namespace Go.Proofs.YtdnodaoeflbfkaaGreat
open Go.RowKit Go.Lib Go.Sort Go.BigFrame
set_option linter.unusedVariables false
theorem stMixed : Tryz.prog.follows .mixedOrders = true := by kernel_rfl
/-- three numbers in a row -/
def enc3 {α : Type} (f : α → Int × Int × Int) (x : α) : List Value := [.int .i64 (f x).1, .int .i64 (f x).2.1, .int .i64 (f x).2.2]
theorem shide {p : Prop} (h : p) : Hid p := h
theorem enc3_len {α : Type} (f : α → Int × Int × Int) (x : α) : (enc3 f x).length = 3 := rfl
theorem enc3_one {α : Type} (f : α → Int × Int × Int) (x : α) : ∀ v ∈ enc3 f x, v.oneCell' = true := fun v hv => by
  simp [enc3] at hv; rcases hv with rfl | rfl | rfl <;> rfl
section
variable {α : Type} [Inhabited α]
theorem holds3 {f : α → Int × Int × Int} {w : World} {blk off : Nat} {d : Array α} (h : HoldsK (enc3 f) 3 w blk off d) (i : Nat) (hi : i < d.size) :
    (w.cell? ⟨blk, off + i * 3, none⟩ = some (.int .i64 (f d[i]!).1) ∧ w.cell? ⟨blk, off + i * 3 + 1, none⟩ = some (.int .i64 (f d[i]!).2.1) ∧ w.cell? ⟨blk, off + i * 3 + 2, none⟩ = some (.int .i64 (f d[i]!).2.2)) ∧
    (w.frozen? ⟨blk, off + i * 3, none⟩ = false ∧ w.frozen? ⟨blk, off + i * 3 + 1, none⟩ = false ∧ w.frozen? ⟨blk, off + i * 3 + 2, none⟩ = false) := by
  have hb := rowK_bnd d 3 i hi
  have hc : ∀ c, c < 3 → w.cell? ⟨blk, off + i * 3 + c, none⟩ = some (enc3 f d[i]!)[c]! ∧ w.frozen? ⟨blk, off + i * 3 + c, none⟩ = false := fun c hc => by
    have h1 := h (i * 3 + c) (by rw [size_flatK]; omega)
    rw [← Nat.add_assoc, get_flatK _ _ _ _ (by omega)] at h1
    rw [show (i * 3 + c) / 3 = i by omega, show (i * 3 + c) % 3 = c by omega] at h1
    exact h1
  exact ⟨⟨(hc 0 (by omega)).1, (hc 1 (by omega)).1, (hc 2 (by omega)).1⟩, (hc 0 (by omega)).2, (hc 1 (by omega)).2, (hc 2 (by omega)).2⟩
/-- what is known of the row, and of the function that compares -/
structure StK (P : Program) (f : α → Int × Int × Int) (g : Nat) (cb : Array Value) (cf : α → α → Int) (w0 : World) (blk off : Nat) (d0 : Array α) : Prop where
  R : RowK (enc3 f) 3 w0 blk off d0
  C : CmpLays P g cb (enc3 f) 3 cf blk off d0.size w0
  eg : ∀ args w, (callFunc g args).run P w = .ok (.enter g args) w
  small : d0.size ≤ 1048576
theorem StK.at3 {P : Program} {f : α → Int × Int × Int} {g : Nat} {cb : Array Value} {cf : α → α → Int} {w0 : World} {blk off : Nat} {d0 dk : Array α} {W : World} (K : StK P f g cb cf w0 blk off d0) (h : SWK (enc3 f) 3 w0 blk off dk W) (hs : dk.size = d0.size) (i : Nat) (hi : i < dk.size) :
    (W.cell? ⟨blk, off + i * 3, none⟩ = some (.int .i64 (f dk[i]!).1) ∧ W.cell? ⟨blk, off + i * 3 + 1, none⟩ = some (.int .i64 (f dk[i]!).2.1) ∧ W.cell? ⟨blk, off + i * 3 + 2, none⟩ = some (.int .i64 (f dk[i]!).2.2)) ∧
    (W.frozen? ⟨blk, off + i * 3, none⟩ = false ∧ W.frozen? ⟨blk, off + i * 3 + 1, none⟩ = false ∧ W.frozen? ⟨blk, off + i * 3 + 2, none⟩ = false) := holds3 (h.holds K.R.hblk K.R.hH hs) i hi
/-- two rows of the row in each other's place, number by number -/
theorem StK.swp3 {P : Program} {f : α → Int × Int × Int} {g : Nat} {cb : Array Value} {cf : α → α → Int} {w0 : World} {blk off : Nat} {d0 dk : Array α} {W : World} (K : StK P f g cb cf w0 blk off d0) (h : SWK (enc3 f) 3 w0 blk off dk W) (i j : Nat) (hi : i < dk.size) (hj : j < dk.size) {x0 x1 x2 y0 y1 y2 : Int} (hx : f dk[i]! = (x0, x1, x2)) (hy : f dk[j]! = (y0, y1, y2)) :
    SWK (enc3 f) 3 w0 blk off (swp dk i j) (((((((W.setCell ⟨blk, off + i * 3, none⟩ (.int .i64 y0)).setCell ⟨blk, off + i * 3 + 1, none⟩ (.int .i64 y1)).setCell ⟨blk, off + i * 3 + 2, none⟩ (.int .i64 y2)).setCell ⟨blk, off + j * 3, none⟩ (.int .i64 x0)).setCell ⟨blk, off + j * 3 + 1, none⟩ (.int .i64 x1)).setCell ⟨blk, off + j * 3 + 2, none⟩ (.int .i64 x2)).drew) := by
  have := h.swap K.R.hk K.R.hblk i j hi hj
  unfold enc3 at this
  rw [hx, hy] at this
  exact SWK.drew this
theorem StK.cmp3 {P : Program} {f : α → Int × Int × Int} {g : Nat} {cb : Array Value} {cf : α → α → Int} {w0 : World} {blk off : Nat} {d0 dk : Array α} {W : World} (K : StK P f g cb cf w0 blk off d0) (h : SWK (enc3 f) 3 w0 blk off dk W) (hs : dk.size = d0.size) {x y : α} {x0 x1 x2 y0 y1 y2 : Int} (hx : f x = (x0, x1, x2)) (hy : f y = (y0, y1, y2)) (n : Nat) (os : Array Obj) :
    Calls P g (#[.agg #[.int .i64 x0, .int .i64 x1, .int .i64 x2], .agg #[.int .i64 y0, .int .i64 y1, .int .i64 y2]] ++ cb) (grow (W.drewN n) os) fun e w' => e = .returned (.int .i64 (cf x y)) ∧ ∃ q os', w' = grow ((grow (W.drewN n) os).drewN q) os' := by
  have := h.cmp K.C hs x y n os
  unfold enc3 at this
  rw [hx, hy] at this
  exact this
theorem StK.in3 {P : Program} {f : α → Int × Int × Int} {g : Nat} {cb : Array Value} {cf : α → α → Int} {w0 : World} {blk off : Nat} {d0 dk : Array α} {W : World} (K : StK P f g cb cf w0 blk off d0) (h : SWK (enc3 f) 3 w0 blk off dk W) (hs : dk.size = d0.size) (i : Nat) (hi : i < dk.size) {x0 x1 x2 : Int} (hx : f dk[i]! = (x0, x1, x2)) :
    (∀ n os, (grow (W.drewN n) os).cell? ⟨blk, off + i * 3, none⟩ = some (.int .i64 x0)) ∧ (∀ n os, (grow (W.drewN n) os).cell? ⟨blk, off + i * 3 + 1, none⟩ = some (.int .i64 x1)) ∧ (∀ n os, (grow (W.drewN n) os).cell? ⟨blk, off + i * 3 + 2, none⟩ = some (.int .i64 x2)) := by
  have h1 := fun n os => (K.at3 (h.grown n os) hs i hi).1
  rw [hx] at h1
  exact ⟨fun n os => (h1 n os).1, fun n os => (h1 n os).2.1, fun n os => (h1 n os).2.2⟩

set_option maxRecDepth 20000 in
set_option maxHeartbeats 3200000 in
theorem swapRange_any {f : α → Int × Int × Int} {g : Nat} {cb : Array Value} {cf : α → α → Int} {w0 : World} {blk off : Nat} {d0 : Array α} (K : StK Tryz.prog f g cb cf w0 blk off d0) (a b n cap : Nat) (dk : Array α) (W : World) (hs : dk.size = d0.size) (hw : SWK (enc3 f) 3 w0 blk off dk W) (hab : a + n ≤ b) (hb : b + n ≤ d0.size) :
    Calls Tryz.prog 270 #[.slice (some ⟨blk, off, none⟩) d0.size cap, .int .i64 a, .int .i64 b, .int .i64 n, .func (.func g) #[] cb] W fun e w' => e = .returned (.tuple #[]) ∧ ∃ d', SwR dk a b n d' ∧ SWK (enc3 f) 3 w0 blk off d' w' := by
  have hsm := K.small
  have HW := shide hw
  go_enter Tryz.func270, Tryz.ntmps270
  go_wp2
  go_loopw [10] (fun i wr => ∃ (q : Nat) (dj : Array α), q ≤ n ∧ i = .int .i64 q ∧ Hid (SwR dk a b q dj) ∧ Hid (SWK (enc3 f) 3 w0 blk off dj wr)) (fun i _ => n - (intOf i).toNat)
  case atStart => exact ⟨0, dk, Nat.zero_le _, rfl, SwR.zero _ _ _, HW.out⟩
  case round =>
    obtain ⟨q, dj, hq, rfl, HR, HS⟩ := hrel
    have hsj : dj.size = d0.size := HR.out.perm.1.trans hs
    by_cases hlt : q < n
    · obtain ⟨⟨i0, i1, i2⟩, g0, g1, g2⟩ := K.at3 HS.out hsj (a + q) (by omega)
      obtain ⟨⟨j0, j1, j2⟩, k0, k1, k2⟩ := K.at3 HS.out hsj (b + q) (by omega)
      have HN := shide (HR.out.succ (by omega) (by omega))
      have HSW : Hid (∀ x0 x1 x2 y0 y1 y2, f dj[a + q]! = (x0, x1, x2) → f dj[b + q]! = (y0, y1, y2) → _) := fun x0 x1 x2 y0 y1 y2 hx hy => K.swp3 HS.out (a + q) (b + q) (by omega) (by omega) hx hy
      generalize hx : f dj[a + q]! = X at *
      generalize hy : f dj[b + q]! = Y at *
      obtain ⟨x0, x1, x2⟩ := X
      obtain ⟨y0, y1, y2⟩ := Y
      have HZ := shide (HSW.out x0 x1 x2 y0 y1 y2 rfl rfl)
      simp only at i0 i1 i2 j0 j1 j2
      clear HSW
      go_wp2
      go_region
      all_goals go_wp2
      go_roundw
      case rel => exact ⟨q + 1, _, by omega, by go_num, HN, by with_reducible exact HZ⟩
      case measure => simp [intOf]; omega
    · have e : q = n := by omega
      subst e
      go_wp2
      go_end0
      exact ⟨rfl, dj, HR.out, HS.out⟩

set_option maxRecDepth 20000 in
set_option maxHeartbeats 3200000 in
theorem rotate_any {f : α → Int × Int × Int} {g : Nat} {cb : Array Value} {cf : α → α → Int} {w0 : World} {blk off : Nat} {d0 : Array α} (K : StK Tryz.prog f g cb cf w0 blk off d0) (a m b cap : Nat) (dk : Array α) (W : World) (hs : dk.size = d0.size) (hw : SWK (enc3 f) 3 w0 blk off dk W) (ham : a < m) (hmb : m < b) (hb : b ≤ d0.size) :
    Calls Tryz.prog 264 #[.slice (some ⟨blk, off, none⟩) d0.size cap, .int .i64 a, .int .i64 m, .int .i64 b, .func (.func g) #[] cb] W fun e w' => e = .returned (.tuple #[]) ∧ ∃ d', RotP dk a m b d' ∧ SWK (enc3 f) 3 w0 blk off d' w' := by
  have hsm := K.small
  have HW := shide hw
  have HSR := shide (fun a b n dk W => swapRange_any K a b n cap dk W)
  go_enter Tryz.func264, Tryz.ntmps264
  go_wp2
  go_loopw [10, 11] (fun vi vj wr => ∃ (i j : Nat) (dj : Array α), (0 < i ∧ 0 < j ∧ i ≤ m ∧ i + a ≤ m ∧ m + j ≤ b) ∧ vi = .int .i64 i ∧ vj = .int .i64 j ∧ dj.size = d0.size ∧ Hid (∀ d', RotP dj (m - i) m (m + j) d' → RotP dk a m b d') ∧ Hid (SWK (enc3 f) 3 w0 blk off dj wr)) (fun i j _ => (intOf i).toNat + (intOf j).toNat)
  case atStart => exact ⟨m - a, b - m, dk, ⟨by omega, by omega, by omega, by omega, by omega⟩, by go_num, by go_num, hs, (fun d' h => by rw [show m - (m - a) = a by omega, show m + (b - m) = b by omega] at h; exact h), HW.out⟩
  case round =>
    obtain ⟨i, j, dj, ⟨hi, hj, him, hia, hjb⟩, rfl, rfl, hsj, HC, HS⟩ := hrel
    rcases Nat.lt_trichotomy i j with hij | hij | hij
    · have e1 : ((i : Int) != (j : Int)) = true := by rw [bne_iff_ne]; omega
      have HX := HSR.out (m - i) (m + j - i) i dj wr hsj HS.out (by omega) (by omega)
      rw [show ((m - i : Nat) : Int) = (m : Int) - (i : Int) by omega, show ((m + j - i : Nat) : Int) = (m : Int) + (j : Int) - (i : Int) by omega] at HX
      replace HX := shide HX
      clear HSR
      go_wp2_with fail
      refine HX.out.mono ?_
      rintro e w1 ⟨rfl, d2, h1, h2⟩
      have H1 := shide h1
      have H2 := shide h2
      clear h1 h2 HX
      go_wp2
      go_roundw
      case rel => exact ⟨i, j - i, d2, ⟨by omega, by omega, by omega, by omega, by omega⟩, by go_num, by go_num, H1.out.perm.1.trans hsj, (fun d' h => HC.out _ (rot_lt hij him (by omega) H1.out h)), H2.out⟩
      case measure => simp [intOf]; omega
    · subst hij
      have e1 : ((i : Int) != (i : Int)) = false := by simp
      have HX := HSR.out (m - i) m i dj wr hsj HS.out (by omega) (by omega)
      rw [show ((m - i : Nat) : Int) = (m : Int) - (i : Int) by omega] at HX
      replace HX := shide HX
      clear HSR
      go_wp2_with fail
      refine HX.out.mono ?_
      rintro e w1 ⟨rfl, d2, h1, h2⟩
      have H1 := shide h1
      have H2 := shide h2
      clear h1 h2 HX
      go_wp2
      go_end0
      exact ⟨rfl, d2, HC.out _ (rot_eq him H1.out), H2.out⟩
    · have e1 : ((i : Int) != (j : Int)) = true := by rw [bne_iff_ne]; omega
      have HX := HSR.out (m - i) m j dj wr hsj HS.out (by omega) (by omega)
      rw [show ((m - i : Nat) : Int) = (m : Int) - (i : Int) by omega] at HX
      replace HX := shide HX
      clear HSR
      go_wp2_with fail
      refine HX.out.mono ?_
      rintro e w1 ⟨rfl, d2, h1, h2⟩
      have H1 := shide h1
      have H2 := shide h2
      clear h1 h2 HX
      go_wp2
      go_roundw
      case rel => exact ⟨i - j, j, d2, ⟨by omega, by omega, by omega, by omega, by omega⟩, by go_num, by go_num, H1.out.perm.1.trans hsj, (fun d' h => HC.out _ (rot_gt hij him (by omega) H1.out h)), H2.out⟩
      case measure => simp [intOf]; omega

set_option maxRecDepth 20000 in
set_option maxHeartbeats 3200000 in
theorem symMerge_one {f : α → Int × Int × Int} {g : Nat} {cb : Array Value} {cf : α → α → Int} {w0 : World} {blk off : Nat} {d0 : Array α} (K : StK Tryz.prog f g cb cf w0 blk off d0) (hS : SWO (ltOf cf)) (pos : α → Nat) (a b cap : Nat) (dk : Array α) (W : World) (hs : dk.size = d0.size) (hw : SWK (enc3 f) 3 w0 blk off dk W) (hab : a + 1 < b) (hb : b ≤ d0.size) (hp : Mrg (stT (ltOf cf) pos) pos a (a + 1) b dk) :
    Calls Tryz.prog 252 #[.slice (some ⟨blk, off, none⟩) d0.size cap, .int .i64 a, .int .i64 (a + 1 : Nat), .int .i64 b, .func (.func g) #[] cb] W fun e w' => e = .returned (.tuple #[]) ∧ ∃ d', (PermIn a b dk d' ∧ SortedIn (stT (ltOf cf) pos) a b d') ∧ SWK (enc3 f) 3 w0 blk off d' w' := by
  have hsm := K.small
  have HW := shide hw
  have eg := K.eg
  have mixed := stMixed
  have FIN : Hid (∀ i d1, a + 1 ≤ i → i ≤ b → (i = a + 1 ∨ stT (ltOf cf) pos dk[i - 1]! dk[a]! = true) → (i = b ∨ stT (ltOf cf) pos dk[i]! dk[a]! = false) → RotP dk a (a + 1) i d1 → PermIn a b dk d1 ∧ SortedIn (stT (ltOf cf) pos) a b d1) := fun i d1 h1 h2 c1 c2 hr => merge_left (stT_swo hS) hp h1 h2 (by omega) c1 c2 hr
  have LT : Hid (∀ h, a + 1 ≤ h → h < b → stT (ltOf cf) pos dk[h]! dk[a]! = decide (cf dk[h]! dk[a]! < 0)) := fun h h1 h2 => stT_late (hp.2.2 a h (Nat.le_refl _) (by omega) h1 h2)
  clear hp hw hS
  go_enter Tryz.func252, Tryz.ntmps252
  have e1 : (((a : Int) + 1 - (a : Int)) == 1) = true := by rw [beq_iff_eq]; omega
  push_cast
  go_wp2
  go_loopw [10, 11] (fun vi vj wr => ∃ (i j : Nat), (a + 1 ≤ i ∧ i ≤ j ∧ j ≤ b) ∧ vi = .int .i64 i ∧ vj = .int .i64 j ∧ Hid (i = a + 1 ∨ stT (ltOf cf) pos dk[i - 1]! dk[a]! = true) ∧ Hid (j = b ∨ stT (ltOf cf) pos dk[j]! dk[a]! = false) ∧ Hid (SWK (enc3 f) 3 w0 blk off dk wr)) (fun i j _ => (intOf j).toNat - (intOf i).toNat)
  case atStart => exact ⟨a + 1, b, ⟨by omega, by omega, by omega⟩, by go_num, rfl, .inl rfl, .inl rfl, HW.out⟩
  case round =>
    obtain ⟨i, j, ⟨h1, h2, h3⟩, rfl, rfl, HI, HJ, HS⟩ := hrel
    have hsj := hs
    by_cases hlt : i < j
    · obtain ⟨h, hh⟩ : ∃ h, (i + j) / 2 = h := ⟨_, rfl⟩
      have hz : ((i : Int) + (j : Int)) / 2 = (h : Int) := by omega
      have hL := LT.out h (by omega) (by omega)
      have HL : Hid (stT (ltOf cf) pos dk[h]! dk[a]! = decide (cf dk[h]! dk[a]! < 0)) := hL
      clear hL
      generalize hx : f dk[h]! = X at *
      generalize hy : f dk[a]! = Y at *
      obtain ⟨x0, x1, x2⟩ := X
      obtain ⟨y0, y1, y2⟩ := Y
      have bp : h < d0.size := by omega
      have bq : a < d0.size := by omega
      obtain ⟨i0, i1, i2⟩ := K.in3 HS.out hsj (h) (by omega) hx
      obtain ⟨j0, j1, j2⟩ := K.in3 HS.out hsj (a) (by omega) hy
      have hcg := K.cmp3 HS.out hsj hx hy
      have HG : Hid (∀ n os, SWK (enc3 f) 3 w0 blk off dk (grow (wr.drewN n) os)) := fun n os => HS.out.grown n os
      generalize cf dk[h]! dk[a]! = c at *
      clear hx hy

      by_cases hc : c < 0
      · have HI2 : Hid (h + 1 = a + 1 ∨ stT (ltOf cf) pos dk[h + 1 - 1]! dk[a]! = true) := .inr (by rw [Nat.add_sub_cancel, HL.out]; exact decide_eq_true hc)
        clear HL LT FIN HI
        go_wp2
        go_quiet_grown (first | (go_at_fn g; refine Calls.grown_of (hcg _ _)))
        go_wp2
        go_roundw
        case rel => exact ⟨h + 1, j, ⟨by omega, by omega, by omega⟩, by go_num, rfl, HI2, HJ, HG.out _ _⟩
        case measure => simp [intOf]; omega
      · have HJ2 : Hid (h = b ∨ stT (ltOf cf) pos dk[h]! dk[a]! = false) := .inr (by rw [HL.out]; exact decide_eq_false hc)
        clear HL LT FIN HJ
        go_wp2
        go_quiet_grown (first | (go_at_fn g; refine Calls.grown_of (hcg _ _)))
        go_wp2
        go_roundw
        case rel => exact ⟨i, h, ⟨by omega, by omega, by omega⟩, rfl, by go_num, HI, HJ2, HG.out _ _⟩
        case measure => simp [intOf]; omega
    · have e : j = i := by omega
      subst e
      have FIN2 : Hid (∀ d1, RotP dk a (a + 1) j d1 → PermIn a b dk d1 ∧ SortedIn (stT (ltOf cf) pos) a b d1) := fun d1 hr => FIN.out j d1 h1 h3 HI.out HJ.out hr
      clear FIN LT HI HJ
      go_wp2
      go_loopw [13] (fun vk wr => ∃ (k : Nat) (dj : Array α), (a ≤ k ∧ k + 1 ≤ j) ∧ vk = .int .i64 k ∧ Hid (RotP dk a (a + 1) (k + 1) dj) ∧ Hid (SWK (enc3 f) 3 w0 blk off dj wr)) (fun k _ => j - (intOf k).toNat)
      case atStart => exact ⟨a, dk, ⟨by omega, by omega⟩, rfl, RotP.none (.inr rfl) (by omega) (by omega), HS.out⟩
      case round =>
        clear HS
        obtain ⟨k, dj, ⟨hk1, hk2⟩, rfl, HR, HS⟩ := hrel
        have hsj : dj.size = d0.size := HR.out.perm.1.trans hs
        by_cases hlt2 : k + 1 < j
        · have HN := shide (HR.out.up hk1 (by omega))
          obtain ⟨⟨i0, i1, i2⟩, g0, g1, g2⟩ := K.at3 HS.out hsj (k) (by omega)
          obtain ⟨⟨j0, j1, j2⟩, k0, k1, k2⟩ := K.at3 HS.out hsj (k + 1) (by omega)
          have HSW : Hid (∀ x0 x1 x2 y0 y1 y2, f dj[k]! = (x0, x1, x2) → f dj[k + 1]! = (y0, y1, y2) → _) := fun x0 x1 x2 y0 y1 y2 hx hy => K.swp3 HS.out (k) (k + 1) (by omega) (by omega) hx hy
          generalize hx : f dj[k]! = X at *
          generalize hy : f dj[k + 1]! = Y at *
          obtain ⟨x0, x1, x2⟩ := X
          obtain ⟨y0, y1, y2⟩ := Y
          have HZ := shide (HSW.out x0 x1 x2 y0 y1 y2 rfl rfl)
          simp only at i0 i1 i2 j0 j1 j2
          clear HSW hx hy
          go_wp2
          go_region
          all_goals go_wp2

          go_roundw
          case rel => exact ⟨k + 1, _, ⟨by omega, by omega⟩, by go_num, HN, by with_reducible exact HZ⟩
          case measure => simp [intOf]; omega
        · have e : j = k + 1 := by omega
          subst e
          go_wp2
          (try simp only [Exit.inBlock, Exit.then])
          refine bodyPost_ret (results_none rfl _ _ _) rfl ?_
          exact ⟨rfl, dj, FIN2.out _ HR.out, HS.out⟩

set_option maxRecDepth 20000 in
set_option maxHeartbeats 3200000 in
theorem symMerge_last {f : α → Int × Int × Int} {g : Nat} {cb : Array Value} {cf : α → α → Int} {w0 : World} {blk off : Nat} {d0 : Array α} (K : StK Tryz.prog f g cb cf w0 blk off d0) (hS : SWO (ltOf cf)) (pos : α → Nat) (a m cap : Nat) (dk : Array α) (W : World) (hs : dk.size = d0.size) (hw : SWK (enc3 f) 3 w0 blk off dk W) (ham : a + 1 < m) (hb : m + 1 ≤ d0.size) (hp : Mrg (stT (ltOf cf) pos) pos a m (m + 1) dk) :
    Calls Tryz.prog 252 #[.slice (some ⟨blk, off, none⟩) d0.size cap, .int .i64 a, .int .i64 m, .int .i64 (m + 1 : Nat), .func (.func g) #[] cb] W fun e w' => e = .returned (.tuple #[]) ∧ ∃ d', (PermIn a (m + 1) dk d' ∧ SortedIn (stT (ltOf cf) pos) a (m + 1) d') ∧ SWK (enc3 f) 3 w0 blk off d' w' := by
  have hsm := K.small
  have HW := shide hw
  have eg := K.eg
  have mixed := stMixed
  have FIN : Hid (∀ i d1, a ≤ i → i ≤ m → (i = a ∨ stT (ltOf cf) pos dk[m]! dk[i - 1]! = false) → (i = m ∨ stT (ltOf cf) pos dk[m]! dk[i]! = true) → RotP dk i m (m + 1) d1 → PermIn a (m + 1) dk d1 ∧ SortedIn (stT (ltOf cf) pos) a (m + 1) d1) := fun i d1 h1 h2 c1 c2 hr => merge_right (stT_swo hS) hp h1 h2 (by omega) c1 c2 hr
  have LT : Hid (∀ h, a ≤ h → h < m → stT (ltOf cf) pos dk[m]! dk[h]! = decide (cf dk[m]! dk[h]! < 0)) := fun h h1 h2 => stT_late (hp.2.2 h m h1 h2 (Nat.le_refl _) (by omega))
  clear hp hw hS
  have e0 : (((m : Int) - (a : Int)) == 1) = false := by rw [beq_eq_false_iff_ne]; omega
  have e1 : (((m : Int) + 1 - (m : Int)) == 1) = true := by rw [beq_iff_eq]; omega
  go_enter Tryz.func252, Tryz.ntmps252
  push_cast
  go_wp2
  go_loopw [14, 15] (fun vi vj wr => ∃ (i j : Nat), (a ≤ i ∧ i ≤ j ∧ j ≤ m) ∧ vi = .int .i64 i ∧ vj = .int .i64 j ∧ Hid (i = a ∨ stT (ltOf cf) pos dk[m]! dk[i - 1]! = false) ∧ Hid (j = m ∨ stT (ltOf cf) pos dk[m]! dk[j]! = true) ∧ Hid (SWK (enc3 f) 3 w0 blk off dk wr)) (fun i j _ => (intOf j).toNat - (intOf i).toNat)
  case atStart => exact ⟨a, m, ⟨by omega, by omega, by omega⟩, rfl, rfl, .inl rfl, .inl rfl, HW.out⟩
  case round =>
    obtain ⟨i, j, ⟨h1, h2, h3⟩, rfl, rfl, HI, HJ, HS⟩ := hrel
    have hsj := hs
    by_cases hlt : i < j
    · obtain ⟨h, hh⟩ : ∃ h, (i + j) / 2 = h := ⟨_, rfl⟩
      have hz : ((i : Int) + (j : Int)) / 2 = (h : Int) := by omega
      have hL := LT.out h (by omega) (by omega)
      have HL : Hid (stT (ltOf cf) pos dk[m]! dk[h]! = decide (cf dk[m]! dk[h]! < 0)) := hL
      clear hL
      generalize hx : f dk[m]! = X at *
      generalize hy : f dk[h]! = Y at *
      obtain ⟨x0, x1, x2⟩ := X
      obtain ⟨y0, y1, y2⟩ := Y
      have bp : m < d0.size := by omega
      have bq : h < d0.size := by omega
      obtain ⟨i0, i1, i2⟩ := K.in3 HS.out hsj (m) (by omega) hx
      obtain ⟨j0, j1, j2⟩ := K.in3 HS.out hsj (h) (by omega) hy
      have hcg := K.cmp3 HS.out hsj hx hy
      have HG : Hid (∀ n os, SWK (enc3 f) 3 w0 blk off dk (grow (wr.drewN n) os)) := fun n os => HS.out.grown n os
      generalize cf dk[m]! dk[h]! = c at *
      clear hx hy

      by_cases hc : c < 0
      · have HJ2 : Hid (h = m ∨ stT (ltOf cf) pos dk[m]! dk[h]! = true) := .inr (by rw [HL.out]; exact decide_eq_true hc)
        clear HL LT FIN HJ
        have hcd : decide (c < 0) = true := decide_eq_true hc
        go_wp2
        go_quiet_grown (first | (go_at_fn g; refine Calls.grown_of (hcg _ _)))
        go_wp2
        go_roundw
        case rel => exact ⟨i, h, ⟨by omega, by omega, by omega⟩, rfl, by go_num, HI, HJ2, HG.out _ _⟩
        case measure => simp [intOf]; omega
      · have HI2 : Hid (h + 1 = a ∨ stT (ltOf cf) pos dk[m]! dk[h + 1 - 1]! = false) := .inr (by rw [Nat.add_sub_cancel, HL.out]; exact decide_eq_false hc)
        clear HL LT FIN HI
        have hcd : decide (c < 0) = false := decide_eq_false hc
        go_wp2
        go_quiet_grown (first | (go_at_fn g; refine Calls.grown_of (hcg _ _)))
        go_wp2
        go_roundw
        case rel => exact ⟨h + 1, j, ⟨by omega, by omega, by omega⟩, by go_num, rfl, HI2, HJ, HG.out _ _⟩
        case measure => simp [intOf]; omega
    · have e : j = i := by omega
      subst e
      have FIN2 : Hid (∀ d1, RotP dk j m (m + 1) d1 → PermIn a (m + 1) dk d1 ∧ SortedIn (stT (ltOf cf) pos) a (m + 1) d1) := fun d1 hr => FIN.out j d1 h1 h3 HI.out HJ.out hr
      clear FIN LT HI HJ
      go_wp2
      go_loopw [17] (fun vk wr => ∃ (k : Nat) (dj : Array α), (j ≤ k ∧ k ≤ m) ∧ vk = .int .i64 k ∧ Hid (RotP dk k m (m + 1) dj) ∧ Hid (SWK (enc3 f) 3 w0 blk off dj wr)) (fun k _ => (intOf k).toNat - j)
      case atStart => exact ⟨m, dk, ⟨by omega, by omega⟩, rfl, RotP.none (.inl rfl) (by omega) (by omega), HS.out⟩
      case round =>
        clear HS
        obtain ⟨k, dj, ⟨hk1, hk2⟩, rfl, HR, HS⟩ := hrel
        have hsj : dj.size = d0.size := HR.out.perm.1.trans hs
        by_cases hlt2 : j < k
        · obtain ⟨kp, rfl⟩ : ∃ kp, k = kp + 1 := ⟨k - 1, by omega⟩
          have HN := shide (HR.out.down hk2 (by omega))
          have jz : (kp : Int) + 1 < (d0.size : Int) := by omega
          have jz1 : (kp : Int) < (d0.size : Int) := by omega
          have p0 : (0 : Int) ≤ (kp : Int) + 1 := by omega
          have pe : ((kp : Int) + 1).toNat = kp + 1 := by omega
          have hwp : IntKind.i64.wrap (kp : Int) = (kp : Int) := by rw [IntKind.wrap_i64]; omega
          obtain ⟨⟨i0, i1, i2⟩, g0, g1, g2⟩ := K.at3 HS.out hsj (kp + 1) (by omega)
          obtain ⟨⟨j0, j1, j2⟩, k0, k1, k2⟩ := K.at3 HS.out hsj (kp) (by omega)
          have HSW : Hid (∀ x0 x1 x2 y0 y1 y2, f dj[kp + 1]! = (x0, x1, x2) → f dj[kp]! = (y0, y1, y2) → _) := fun x0 x1 x2 y0 y1 y2 hx hy => K.swp3 HS.out (kp + 1) (kp) (by omega) (by omega) hx hy
          generalize hx : f dj[kp + 1]! = X at *
          generalize hy : f dj[kp]! = Y at *
          obtain ⟨x0, x1, x2⟩ := X
          obtain ⟨y0, y1, y2⟩ := Y
          have HZ := shide (HSW.out x0 x1 x2 y0 y1 y2 rfl rfl)
          simp only at i0 i1 i2 j0 j1 j2
          clear HSW hx hy
          go_wp2
          go_region
          all_goals go_wp2

          go_roundw
          case rel => exact ⟨kp, _, ⟨by omega, by omega⟩, by go_num, HN, by with_reducible exact HZ⟩
          case measure => simp [intOf]; omega
        · have e : k = j := by omega
          subst e
          go_wp2
          (try simp only [Exit.inBlock, Exit.then])
          refine bodyPost_ret (results_none rfl _ _ _) rfl ?_
          exact ⟨rfl, dj, FIN2.out _ HR.out, HS.out⟩
end
end Go.Proofs.YtdnodaoeflbfkaaGreat
/- The library's stable sort at a row of structs of three numbers, walked: the merge in place. -/
namespace Go.Proofs.YtdnodaoeflbfkaaGreat
open Go.RowKit Go.Lib Go.Sort Go.BigFrame
set_option linter.unusedVariables false
section
variable {α : Type} [Inhabited α]

set_option maxRecDepth 20000 in
set_option maxHeartbeats 12800000 in
theorem symMerge_any {f : α → Int × Int × Int} {g : Nat} {cb : Array Value} {cf : α → α → Int} {w0 : World} {blk off : Nat} {d0 : Array α} (K : StK Tryz.prog f g cb cf w0 blk off d0) (hS : SWO (ltOf cf)) (pos : α → Nat) (cap : Nat) : ∀ (N a m b : Nat) (dk : Array α) (W : World), b - a ≤ N → a < m → m < b → b ≤ d0.size → dk.size = d0.size → SWK (enc3 f) 3 w0 blk off dk W → Mrg (stT (ltOf cf) pos) pos a m b dk →
    Calls Tryz.prog 252 #[.slice (some ⟨blk, off, none⟩) d0.size cap, .int .i64 a, .int .i64 m, .int .i64 b, .func (.func g) #[] cb] W fun e w' => e = .returned (.tuple #[]) ∧ ∃ d', (PermIn a b dk d' ∧ SortedIn (stT (ltOf cf) pos) a b d') ∧ SWK (enc3 f) 3 w0 blk off d' w' := by
  intro N
  induction N with
  | zero => intro a m b dk W h1 h2 h3; omega
  | succ N ih =>
    intro a m b dk W hN ham hmb hb hs hw hp
    by_cases hm1 : m = a + 1
    · subst hm1; exact symMerge_one K hS pos a b cap dk W hs hw hmb hb hp
    by_cases hb1 : b = m + 1
    · subst hb1; exact symMerge_last K hS pos a m cap dk W hs hw (by omega) hb hp
    have hsm := K.small
    have HW := shide hw
    have eg := K.eg
    have mixed := stMixed
    obtain ⟨M, hM⟩ : ∃ M, (a + b) / 2 = M := ⟨_, rfl⟩
    have hMz : ((a : Int) + (b : Int)) / 2 = (M : Int) := by omega
    have hM1 : 2 * M ≤ a + b := by omega
    have hM2 : a + b < 2 * M + 2 := by omega
    have e0 : (((m : Int) - (a : Int)) == 1) = false := by rw [beq_eq_false_iff_ne]; omega
    have e1 : (((b : Int) - (m : Int)) == 1) = false := by rw [beq_eq_false_iff_ne]; omega
    have IH : Hid (∀ a m b dk W, b - a ≤ N → a < m → m < b → b ≤ d0.size → dk.size = d0.size → SWK (enc3 f) 3 w0 blk off dk W → Mrg (stT (ltOf cf) pos) pos a m b dk → _) := fun a m b dk W h1 h2 h3 h4 h5 h6 h7 => ih a m b dk W h1 h2 h3 h4 h5 h6 h7
    have HROT := shide (fun a m b dk W => rotate_any K a m b cap dk W)
    have FIN := shide (fun s E (q1 : a ≤ s) (q2 : s ≤ m) (q3 : m ≤ E) (q4 : E ≤ b) (q5 : M = s + (E - m)) => merge_tail (stT_swo hS) hp q1 q2 q3 q4 (by omega) q5)
    have LT : Hid (∀ h e, a ≤ h → h < m → m ≤ e → e < b → stT (ltOf cf) pos dk[e]! dk[h]! = decide (cf dk[e]! dk[h]! < 0)) := fun h e h1 h2 h3 h4 => stT_late (hp.2.2 h e h1 h2 h3 h4)
    clear hp hw hS ih hM
    by_cases hmM : M < m
    · have hmM' : (M : Int) < (m : Int) := by omega
      have hz0 : (M : Int) + (m : Int) - (b : Int) = ((M + m - b : Nat) : Int) := by omega
      obtain ⟨s0, hs0⟩ : ∃ s0, M + m - b = s0 := ⟨_, rfl⟩
      rw [hs0] at hz0
      go_enter Tryz.func252, Tryz.ntmps252
      go_wp2
      go_loopw [20, 21] (fun vi vj wr => ∃ (i j : Nat), (s0 ≤ i ∧ i ≤ j ∧ j ≤ M) ∧ vi = .int .i64 i ∧ vj = .int .i64 j ∧ Hid (i = s0 ∨ stT (ltOf cf) pos dk[M + m - i]! dk[i - 1]! = false) ∧ Hid (j = M ∨ stT (ltOf cf) pos dk[M + m - 1 - j]! dk[j]! = true) ∧ Hid (SWK (enc3 f) 3 w0 blk off dk wr)) (fun i j _ => (intOf j).toNat - (intOf i).toNat)
      case atStart => exact ⟨s0, M, ⟨by omega, by omega, by omega⟩, by first | rfl | go_num, rfl, .inl rfl, .inl rfl, HW.out⟩
      case round =>
        obtain ⟨i, j, ⟨h1, h2, h3⟩, rfl, rfl, HI, HJ, HS⟩ := hrel
        have hsj := hs
        by_cases hlt : i < j
        · obtain ⟨h, hh⟩ : ∃ h, (i + j) / 2 = h := ⟨_, rfl⟩
          have hz : ((i : Int) + (j : Int)) / 2 = (h : Int) := by omega
          obtain ⟨e, he⟩ : ∃ e, M + m - 1 - h = e := ⟨_, rfl⟩
          have hze : (M : Int) + (m : Int) - 1 - (h : Int) = (e : Int) := by omega
          have hwe : IntKind.i64.wrap (e : Int) = (e : Int) := by rw [IntKind.wrap_i64]; omega
          have HL : Hid (stT (ltOf cf) pos dk[e]! dk[h]! = decide (cf dk[e]! dk[h]! < 0)) := LT.out h e (by omega) (by omega) (by omega) (by omega)
          generalize hx : f dk[e]! = X at *
          generalize hy : f dk[h]! = Y at *
          obtain ⟨x0, x1, x2⟩ := X
          obtain ⟨y0, y1, y2⟩ := Y
          have bp : e < d0.size := by omega
          have bq : h < d0.size := by omega
          obtain ⟨i0, i1, i2⟩ := K.in3 HS.out hsj (e) (by omega) hx
          obtain ⟨j0, j1, j2⟩ := K.in3 HS.out hsj (h) (by omega) hy
          have hcg := K.cmp3 HS.out hsj hx hy
          have HG : Hid (∀ n os, SWK (enc3 f) 3 w0 blk off dk (grow (wr.drewN n) os)) := fun n os => HS.out.grown n os
          generalize cf dk[e]! dk[h]! = c at *
          clear hx hy

          by_cases hc : c < 0
          · have HJ2 : Hid (h = M ∨ stT (ltOf cf) pos dk[M + m - 1 - h]! dk[h]! = true) := .inr (by rw [he, HL.out]; exact decide_eq_true hc)
            have hcd : decide (c < 0) = true := decide_eq_true hc
            clear HL LT FIN HJ IH HROT
            go_wp2
            go_quiet_grown (first | (go_at_fn g; refine Calls.grown_of (hcg _ _)))
            go_wp2
            go_roundw
            case rel => exact ⟨i, h, ⟨by omega, by omega, by omega⟩, rfl, by go_num, HI, HJ2, HG.out _ _⟩
            case measure => simp [intOf]; omega
          · have HI2 : Hid (h + 1 = s0 ∨ stT (ltOf cf) pos dk[M + m - (h + 1)]! dk[h + 1 - 1]! = false) := .inr (by rw [Nat.add_sub_cancel, show M + m - (h + 1) = e by omega, HL.out]; exact decide_eq_false hc)
            have hcd : decide (c < 0) = false := decide_eq_false hc
            clear HL LT FIN HI IH HROT
            go_wp2
            go_quiet_grown (first | (go_at_fn g; refine Calls.grown_of (hcg _ _)))
            go_wp2
            go_roundw
            case rel => exact ⟨h + 1, j, ⟨by omega, by omega, by omega⟩, by go_num, rfl, HI2, HJ, HG.out _ _⟩
            case measure => simp [intOf]; omega
        · have e : j = i := by omega
          subst e
          clear HW
          obtain ⟨s, hjs⟩ : ∃ s, j = s := ⟨_, rfl⟩
          subst hjs
          obtain ⟨E, hE⟩ : ∃ E, M + m - j = E := ⟨_, rfl⟩
          have hze : (M : Int) + (m : Int) - (j : Int) = (E : Int) := by omega
          obtain ⟨p1, p2, p3⟩ := FIN.out j E (by omega) (by omega) (by omega) (by omega) (by omega) (fun q1 q2 => by
            rcases HI.out with q | q
            · omega
            · rw [hE] at q; exact q) (fun q1 q2 => by
            rcases HJ.out with q | q
            · omega
            · rw [show M + m - 1 - j = E - 1 by omega] at q; exact q)
          have P1 := shide p1
          have P2 := shide p2
          have P3 := shide p3
          clear p1 p2 p3 HI HJ LT FIN
          obtain ⟨s, hjs⟩ : ∃ s, s = j := ⟨_, rfl⟩
          subst hjs
          by_cases t1 : s < m
          · by_cases t2 : m < E
            · by_cases t3 : a < s
              · by_cases t4 : E < b
                · clear e0 e1
                  first | (exfalso; omega) | skip
                  all_goals
                    have HX := shide (HROT.out s m E dk wr hs HS.out (by omega) (by omega) (by omega))
                    go_wp2_with fail
                    refine HX.out.mono ?_
                    rintro e w1 ⟨rfl, d1, h1, h2⟩
                    have HR := shide h1
                    have HS1 := shide h2
                    clear h1 h2 HX
                    have HX := shide (IH.out a s M d1 w1 (by omega) (by omega) (by omega) (by omega) (HR.out.perm.1.trans hs) HS1.out (P1.out _ HR.out))
                    go_wp2_with fail
                    refine HX.out.mono ?_
                    rintro e w2 ⟨rfl, d2, h1, h2⟩
                    have HA := shide h1
                    have HS2 := shide h2
                    clear h1 h2 HX
                    have HX := shide (IH.out M E b d2 w2 (by omega) (by omega) (by omega) (by omega) (HA.out.1.1.trans (HR.out.perm.1.trans hs)) HS2.out (P2.out _ _ HR.out HA.out.1))
                    go_wp2_with fail
                    refine HX.out.mono ?_
                    rintro e w3 ⟨rfl, d3, h1, h2⟩
                    have HB := shide h1
                    have HS3 := shide h2
                    clear h1 h2 HX
                    go_wp2
                    go_end0
                    exact ⟨rfl, _, P3.out _ _ _ HR.out HA.out HB.out, HS3.out⟩
                · clear e0 e1
                  first | (exfalso; omega) | skip
                  all_goals
                    have HX := shide (HROT.out s m E dk wr hs HS.out (by omega) (by omega) (by omega))
                    go_wp2_with fail
                    refine HX.out.mono ?_
                    rintro e w1 ⟨rfl, d1, h1, h2⟩
                    have HR := shide h1
                    have HS1 := shide h2
                    clear h1 h2 HX
                    have HX := shide (IH.out a s M d1 w1 (by omega) (by omega) (by omega) (by omega) (HR.out.perm.1.trans hs) HS1.out (P1.out _ HR.out))
                    go_wp2_with fail
                    refine HX.out.mono ?_
                    rintro e w2 ⟨rfl, d2, h1, h2⟩
                    have HA := shide h1
                    have HS2 := shide h2
                    clear h1 h2 HX
                    have HB := shide ((P2.out _ _ HR.out HA.out.1).flat (by omega))
                    go_wp2
                    go_end0
                    exact ⟨rfl, _, P3.out _ _ _ HR.out HA.out HB.out, HS2.out⟩
              · by_cases t4 : E < b
                · clear e0 e1
                  first | (exfalso; omega) | skip
                  all_goals
                    have HX := shide (HROT.out s m E dk wr hs HS.out (by omega) (by omega) (by omega))
                    go_wp2_with fail
                    refine HX.out.mono ?_
                    rintro e w1 ⟨rfl, d1, h1, h2⟩
                    have HR := shide h1
                    have HS1 := shide h2
                    clear h1 h2 HX
                    have HA := shide ((P1.out _ HR.out).flat (by omega))
                    have HX := shide (IH.out M E b d1 w1 (by omega) (by omega) (by omega) (by omega) (HA.out.1.1.trans (HR.out.perm.1.trans hs)) HS1.out (P2.out _ _ HR.out HA.out.1))
                    go_wp2_with fail
                    refine HX.out.mono ?_
                    rintro e w3 ⟨rfl, d3, h1, h2⟩
                    have HB := shide h1
                    have HS3 := shide h2
                    clear h1 h2 HX
                    go_wp2
                    go_end0
                    exact ⟨rfl, _, P3.out _ _ _ HR.out HA.out HB.out, HS3.out⟩
                · clear e0 e1
                  first | (exfalso; omega) | skip
                  all_goals
                    have HX := shide (HROT.out s m E dk wr hs HS.out (by omega) (by omega) (by omega))
                    go_wp2_with fail
                    refine HX.out.mono ?_
                    rintro e w1 ⟨rfl, d1, h1, h2⟩
                    have HR := shide h1
                    have HS1 := shide h2
                    clear h1 h2 HX
                    have HA := shide ((P1.out _ HR.out).flat (by omega))
                    have HB := shide ((P2.out _ _ HR.out HA.out.1).flat (by omega))
                    go_wp2
                    go_end0
                    exact ⟨rfl, _, P3.out _ _ _ HR.out HA.out HB.out, HS1.out⟩
            · by_cases t3 : a < s
              · clear e0 e1
                first | (exfalso; omega) | skip
                all_goals
                  have HR : Hid (RotP dk s m E dk) := RotP.none (by omega) (by omega) (by omega)
                  have HA := shide ((P1.out _ HR.out).flat (by omega))
                  have HX := shide (IH.out M E b dk wr (by omega) (by omega) (by omega) (by omega) (HA.out.1.1.trans (HR.out.perm.1.trans hs)) HS.out (P2.out _ _ HR.out HA.out.1))
                  go_wp2_with fail
                  refine HX.out.mono ?_
                  rintro e w3 ⟨rfl, d3, h1, h2⟩
                  have HB := shide h1
                  have HS3 := shide h2
                  clear h1 h2 HX
                  go_wp2
                  go_end0
                  exact ⟨rfl, _, P3.out _ _ _ HR.out HA.out HB.out, HS3.out⟩
              · clear e0 e1
                first | (exfalso; omega) | skip
                all_goals
                  have HR : Hid (RotP dk s m E dk) := RotP.none (by omega) (by omega) (by omega)
                  have HA := shide ((P1.out _ HR.out).flat (by omega))
                  have HX := shide (IH.out M E b dk wr (by omega) (by omega) (by omega) (by omega) (HA.out.1.1.trans (HR.out.perm.1.trans hs)) HS.out (P2.out _ _ HR.out HA.out.1))
                  go_wp2_with fail
                  refine HX.out.mono ?_
                  rintro e w3 ⟨rfl, d3, h1, h2⟩
                  have HB := shide h1
                  have HS3 := shide h2
                  clear h1 h2 HX
                  go_wp2
                  go_end0
                  exact ⟨rfl, _, P3.out _ _ _ HR.out HA.out HB.out, HS3.out⟩
          · by_cases t2 : m < E
            · clear e0 e1
              first | (exfalso; omega) | skip
              all_goals
                have HR : Hid (RotP dk s m E dk) := RotP.none (by omega) (by omega) (by omega)
                have HX := shide (IH.out a s M dk wr (by omega) (by omega) (by omega) (by omega) (HR.out.perm.1.trans hs) HS.out (P1.out _ HR.out))
                go_wp2_with fail
                refine HX.out.mono ?_
                rintro e w2 ⟨rfl, d2, h1, h2⟩
                have HA := shide h1
                have HS2 := shide h2
                clear h1 h2 HX
                have HB := shide ((P2.out _ _ HR.out HA.out.1).flat (by omega))
                go_wp2
                go_end0
                exact ⟨rfl, _, P3.out _ _ _ HR.out HA.out HB.out, HS2.out⟩
            · clear e0 e1
              first | (exfalso; omega) | skip
              all_goals
                have HR : Hid (RotP dk s m E dk) := RotP.none (by omega) (by omega) (by omega)
                have HA := shide ((P1.out _ HR.out).flat (by omega))
                have HB := shide ((P2.out _ _ HR.out HA.out.1).flat (by omega))
                go_wp2
                go_end0
                exact ⟨rfl, _, P3.out _ _ _ HR.out HA.out HB.out, HS.out⟩
    · have hmM' : ¬ (M : Int) < (m : Int) := by omega
      go_enter Tryz.func252, Tryz.ntmps252
      go_wp2
      go_loopw [20, 21] (fun vi vj wr => ∃ (i j : Nat), (a ≤ i ∧ i ≤ j ∧ j ≤ m) ∧ vi = .int .i64 i ∧ vj = .int .i64 j ∧ Hid (i = a ∨ stT (ltOf cf) pos dk[M + m - i]! dk[i - 1]! = false) ∧ Hid (j = m ∨ stT (ltOf cf) pos dk[M + m - 1 - j]! dk[j]! = true) ∧ Hid (SWK (enc3 f) 3 w0 blk off dk wr)) (fun i j _ => (intOf j).toNat - (intOf i).toNat)
      case atStart => exact ⟨a, m, ⟨by omega, by omega, by omega⟩, rfl, rfl, .inl rfl, .inl rfl, HW.out⟩
      case round =>
        obtain ⟨i, j, ⟨h1, h2, h3⟩, rfl, rfl, HI, HJ, HS⟩ := hrel
        have hsj := hs
        by_cases hlt : i < j
        · obtain ⟨h, hh⟩ : ∃ h, (i + j) / 2 = h := ⟨_, rfl⟩
          have hz : ((i : Int) + (j : Int)) / 2 = (h : Int) := by omega
          obtain ⟨e, he⟩ : ∃ e, M + m - 1 - h = e := ⟨_, rfl⟩
          have hze : (M : Int) + (m : Int) - 1 - (h : Int) = (e : Int) := by omega
          have hwe : IntKind.i64.wrap (e : Int) = (e : Int) := by rw [IntKind.wrap_i64]; omega
          have HL : Hid (stT (ltOf cf) pos dk[e]! dk[h]! = decide (cf dk[e]! dk[h]! < 0)) := LT.out h e (by omega) (by omega) (by omega) (by omega)
          generalize hx : f dk[e]! = X at *
          generalize hy : f dk[h]! = Y at *
          obtain ⟨x0, x1, x2⟩ := X
          obtain ⟨y0, y1, y2⟩ := Y
          have bp : e < d0.size := by omega
          have bq : h < d0.size := by omega
          obtain ⟨i0, i1, i2⟩ := K.in3 HS.out hsj (e) (by omega) hx
          obtain ⟨j0, j1, j2⟩ := K.in3 HS.out hsj (h) (by omega) hy
          have hcg := K.cmp3 HS.out hsj hx hy
          have HG : Hid (∀ n os, SWK (enc3 f) 3 w0 blk off dk (grow (wr.drewN n) os)) := fun n os => HS.out.grown n os
          generalize cf dk[e]! dk[h]! = c at *
          clear hx hy

          by_cases hc : c < 0
          · have HJ2 : Hid (h = m ∨ stT (ltOf cf) pos dk[M + m - 1 - h]! dk[h]! = true) := .inr (by rw [he, HL.out]; exact decide_eq_true hc)
            have hcd : decide (c < 0) = true := decide_eq_true hc
            clear HL LT FIN HJ IH HROT
            go_wp2
            go_quiet_grown (first | (go_at_fn g; refine Calls.grown_of (hcg _ _)))
            go_wp2
            go_roundw
            case rel => exact ⟨i, h, ⟨by omega, by omega, by omega⟩, rfl, by go_num, HI, HJ2, HG.out _ _⟩
            case measure => simp [intOf]; omega
          · have HI2 : Hid (h + 1 = a ∨ stT (ltOf cf) pos dk[M + m - (h + 1)]! dk[h + 1 - 1]! = false) := .inr (by rw [Nat.add_sub_cancel, show M + m - (h + 1) = e by omega, HL.out]; exact decide_eq_false hc)
            have hcd : decide (c < 0) = false := decide_eq_false hc
            clear HL LT FIN HI IH HROT
            go_wp2
            go_quiet_grown (first | (go_at_fn g; refine Calls.grown_of (hcg _ _)))
            go_wp2
            go_roundw
            case rel => exact ⟨h + 1, j, ⟨by omega, by omega, by omega⟩, by go_num, rfl, HI2, HJ, HG.out _ _⟩
            case measure => simp [intOf]; omega
        · have e : j = i := by omega
          subst e
          clear HW
          obtain ⟨s, hjs⟩ : ∃ s, j = s := ⟨_, rfl⟩
          subst hjs
          obtain ⟨E, hE⟩ : ∃ E, M + m - j = E := ⟨_, rfl⟩
          have hze : (M : Int) + (m : Int) - (j : Int) = (E : Int) := by omega
          obtain ⟨p1, p2, p3⟩ := FIN.out j E (by omega) (by omega) (by omega) (by omega) (by omega) (fun q1 q2 => by
            rcases HI.out with q | q
            · omega
            · rw [hE] at q; exact q) (fun q1 q2 => by
            rcases HJ.out with q | q
            · omega
            · rw [show M + m - 1 - j = E - 1 by omega] at q; exact q)
          have P1 := shide p1
          have P2 := shide p2
          have P3 := shide p3
          clear p1 p2 p3 HI HJ LT FIN
          obtain ⟨s, hjs⟩ : ∃ s, s = j := ⟨_, rfl⟩
          subst hjs
          by_cases t1 : s < m
          · by_cases t2 : m < E
            · by_cases t3 : a < s
              · by_cases t4 : E < b
                · clear e0 e1
                  first | (exfalso; omega) | skip
                  all_goals
                    have HX := shide (HROT.out s m E dk wr hs HS.out (by omega) (by omega) (by omega))
                    go_wp2_with fail
                    refine HX.out.mono ?_
                    rintro e w1 ⟨rfl, d1, h1, h2⟩
                    have HR := shide h1
                    have HS1 := shide h2
                    clear h1 h2 HX
                    have HX := shide (IH.out a s M d1 w1 (by omega) (by omega) (by omega) (by omega) (HR.out.perm.1.trans hs) HS1.out (P1.out _ HR.out))
                    go_wp2_with fail
                    refine HX.out.mono ?_
                    rintro e w2 ⟨rfl, d2, h1, h2⟩
                    have HA := shide h1
                    have HS2 := shide h2
                    clear h1 h2 HX
                    have HX := shide (IH.out M E b d2 w2 (by omega) (by omega) (by omega) (by omega) (HA.out.1.1.trans (HR.out.perm.1.trans hs)) HS2.out (P2.out _ _ HR.out HA.out.1))
                    go_wp2_with fail
                    refine HX.out.mono ?_
                    rintro e w3 ⟨rfl, d3, h1, h2⟩
                    have HB := shide h1
                    have HS3 := shide h2
                    clear h1 h2 HX
                    go_wp2
                    go_end0
                    exact ⟨rfl, _, P3.out _ _ _ HR.out HA.out HB.out, HS3.out⟩
                · clear e0 e1
                  first | (exfalso; omega) | skip
                  all_goals
                    have HX := shide (HROT.out s m E dk wr hs HS.out (by omega) (by omega) (by omega))
                    go_wp2_with fail
                    refine HX.out.mono ?_
                    rintro e w1 ⟨rfl, d1, h1, h2⟩
                    have HR := shide h1
                    have HS1 := shide h2
                    clear h1 h2 HX
                    have HX := shide (IH.out a s M d1 w1 (by omega) (by omega) (by omega) (by omega) (HR.out.perm.1.trans hs) HS1.out (P1.out _ HR.out))
                    go_wp2_with fail
                    refine HX.out.mono ?_
                    rintro e w2 ⟨rfl, d2, h1, h2⟩
                    have HA := shide h1
                    have HS2 := shide h2
                    clear h1 h2 HX
                    have HB := shide ((P2.out _ _ HR.out HA.out.1).flat (by omega))
                    go_wp2
                    go_end0
                    exact ⟨rfl, _, P3.out _ _ _ HR.out HA.out HB.out, HS2.out⟩
              · by_cases t4 : E < b
                · clear e0 e1
                  first | (exfalso; omega) | skip
                  all_goals
                    have HX := shide (HROT.out s m E dk wr hs HS.out (by omega) (by omega) (by omega))
                    go_wp2_with fail
                    refine HX.out.mono ?_
                    rintro e w1 ⟨rfl, d1, h1, h2⟩
                    have HR := shide h1
                    have HS1 := shide h2
                    clear h1 h2 HX
                    have HA := shide ((P1.out _ HR.out).flat (by omega))
                    have HX := shide (IH.out M E b d1 w1 (by omega) (by omega) (by omega) (by omega) (HA.out.1.1.trans (HR.out.perm.1.trans hs)) HS1.out (P2.out _ _ HR.out HA.out.1))
                    go_wp2_with fail
                    refine HX.out.mono ?_
                    rintro e w3 ⟨rfl, d3, h1, h2⟩
                    have HB := shide h1
                    have HS3 := shide h2
                    clear h1 h2 HX
                    go_wp2
                    go_end0
                    exact ⟨rfl, _, P3.out _ _ _ HR.out HA.out HB.out, HS3.out⟩
                · clear e0 e1
                  first | (exfalso; omega) | skip
                  all_goals
                    have HX := shide (HROT.out s m E dk wr hs HS.out (by omega) (by omega) (by omega))
                    go_wp2_with fail
                    refine HX.out.mono ?_
                    rintro e w1 ⟨rfl, d1, h1, h2⟩
                    have HR := shide h1
                    have HS1 := shide h2
                    clear h1 h2 HX
                    have HA := shide ((P1.out _ HR.out).flat (by omega))
                    have HB := shide ((P2.out _ _ HR.out HA.out.1).flat (by omega))
                    go_wp2
                    go_end0
                    exact ⟨rfl, _, P3.out _ _ _ HR.out HA.out HB.out, HS1.out⟩
            · by_cases t3 : a < s
              · clear e0 e1
                first | (exfalso; omega) | skip
                all_goals
                  have HR : Hid (RotP dk s m E dk) := RotP.none (by omega) (by omega) (by omega)
                  have HA := shide ((P1.out _ HR.out).flat (by omega))
                  have HX := shide (IH.out M E b dk wr (by omega) (by omega) (by omega) (by omega) (HA.out.1.1.trans (HR.out.perm.1.trans hs)) HS.out (P2.out _ _ HR.out HA.out.1))
                  go_wp2_with fail
                  refine HX.out.mono ?_
                  rintro e w3 ⟨rfl, d3, h1, h2⟩
                  have HB := shide h1
                  have HS3 := shide h2
                  clear h1 h2 HX
                  go_wp2
                  go_end0
                  exact ⟨rfl, _, P3.out _ _ _ HR.out HA.out HB.out, HS3.out⟩
              · clear e0 e1
                first | (exfalso; omega) | skip
                all_goals
                  have HR : Hid (RotP dk s m E dk) := RotP.none (by omega) (by omega) (by omega)
                  have HA := shide ((P1.out _ HR.out).flat (by omega))
                  have HX := shide (IH.out M E b dk wr (by omega) (by omega) (by omega) (by omega) (HA.out.1.1.trans (HR.out.perm.1.trans hs)) HS.out (P2.out _ _ HR.out HA.out.1))
                  go_wp2_with fail
                  refine HX.out.mono ?_
                  rintro e w3 ⟨rfl, d3, h1, h2⟩
                  have HB := shide h1
                  have HS3 := shide h2
                  clear h1 h2 HX
                  go_wp2
                  go_end0
                  exact ⟨rfl, _, P3.out _ _ _ HR.out HA.out HB.out, HS3.out⟩
          · by_cases t2 : m < E
            · clear e0 e1
              first | (exfalso; omega) | skip
              all_goals
                have HR : Hid (RotP dk s m E dk) := RotP.none (by omega) (by omega) (by omega)
                have HX := shide (IH.out a s M dk wr (by omega) (by omega) (by omega) (by omega) (HR.out.perm.1.trans hs) HS.out (P1.out _ HR.out))
                go_wp2_with fail
                refine HX.out.mono ?_
                rintro e w2 ⟨rfl, d2, h1, h2⟩
                have HA := shide h1
                have HS2 := shide h2
                clear h1 h2 HX
                have HB := shide ((P2.out _ _ HR.out HA.out.1).flat (by omega))
                go_wp2
                go_end0
                exact ⟨rfl, _, P3.out _ _ _ HR.out HA.out HB.out, HS2.out⟩
            · clear e0 e1
              first | (exfalso; omega) | skip
              all_goals
                have HR : Hid (RotP dk s m E dk) := RotP.none (by omega) (by omega) (by omega)
                have HA := shide ((P1.out _ HR.out).flat (by omega))
                have HB := shide ((P2.out _ _ HR.out HA.out.1).flat (by omega))
                go_wp2
                go_end0
                exact ⟨rfl, _, P3.out _ _ _ HR.out HA.out HB.out, HS.out⟩
end
end Go.Proofs.YtdnodaoeflbfkaaGreat
