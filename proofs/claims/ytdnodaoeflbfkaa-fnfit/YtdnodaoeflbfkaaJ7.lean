/- Texts of one claim, joined: each in its own section, in build order. -/
import Derived.Test.YtdnodaoeflbfkaaJ6
import Derived.Test.YtdnodaoeflbfkaaJ4
import Derived.Deep.QuietTactic
import Derived.Test.YtdnodaoeflbfkaaJ5
import Derived.Deep.RegionHeld3
import Derived.Deep.Cut
/- Who may run it, by the program: what forbids it. -/
namespace Go.Proofs.Ytdnodaoeflbfkaa
open Go.RowKit Go.BigFrame
set_option linter.unusedVariables false

theorem bornB_bad {B S : List ByteArray} {k : Nat} (hk : k < S.length) (h : amongB B (ssAt S k) = false) : bornB B S = false := by
  unfold bornB
  rw [Bool.eq_false_iff]
  intro g
  have := List.all_eq_true.1 g _ (List.getElem_mem hk)
  rw [ssAt_get hk] at h
  rw [h] at this; cases this
theorem bornB_end {B S : List ByteArray} (h : ∀ j, j < S.length → amongB B (ssAt S j) = true) : bornB B S = true := by
  unfold bornB
  rw [List.all_eq_true]
  intro x hx
  obtain ⟨j, hj, rfl⟩ := List.getElem_of_mem hx
  have := h j hj
  rwa [ssAt_get hj] at this
theorem nbClo_any (a : Option Addr) (p : Nat) (B : List ByteArray) (x : ByteArray) (b : Nat) (w : World) (hl : B.length ≤ maxLen) (hrow : strOf w a B) (hc : w.cell? ⟨b, 2, none⟩ = some (.slice a B.length p)) :
    Calls Try.prog 156 #[.string x, .pointer (some ⟨b, 0, none⟩)] w fun e w' => e = .returned (.bool (!amongB B x)) ∧ Below w.heap.size w w' := by
  have HC := hide (contains_any a p B x w hl hrow)
  clear hrow
  generalize amongB B x = r at *
  go_enter Try.func156, Try.ntmps156
  go_wp2_with fail
  refine HC.out.mono ?_
  rintro e w' ⟨rfl, rfl⟩
  go_wp2
  go_ret
  exact ⟨rfl, Below.refl _ _⟩
set_option maxRecDepth 20000 in
set_option maxHeartbeats 800000 in
theorem ixNb_any (a a2 : Option Addr) (p p2 : Nat) (B S : List ByteArray) (b : Nat) (w : World) (hl : B.length ≤ maxLen) (hl2 : S.length ≤ maxLen) (hB : strOf w a B) (hS : strOf w a2 S) (hc : w.cell? ⟨b, 2, none⟩ = some (.slice a B.length p)) :
    Calls Try.prog 204 #[.slice a2 S.length p2, .func (.func 156) #[] #[.pointer (some ⟨b, 0, none⟩)]] w fun e w' => ∃ r : Int, e = .returned (.int .i64 r) ∧ ((bornB B S = true ∧ r = -1) ∨ (bornB B S = false ∧ 0 ≤ r)) ∧ Below w.heap.size w w' := by
  have HX := hide hS
  have HC : Hid (∀ (x : ByteArray) (wx : World), Below w.heap.size w wx → Calls Try.prog 156 #[.string x, .pointer (some ⟨b, 0, none⟩)] wx fun e w' => e = .returned (.bool (!amongB B x)) ∧ Below wx.heap.size wx w') := fun x wx hb => nbClo_any a p B x b wx hl (hB.below hb) ((hb.cell (p := ⟨b, 2, none⟩) (World.block_lt_of_cell? _ _ hc)).trans hc)
  unfold maxLen at hl2
  clear hB hS hc
  go_enter Try.func204, Try.ntmps204
  go_wp2
  go_loopw [8] (fun i wr => ∃ (q : Nat), q ≤ S.length ∧ i = .int .i64 q ∧ Hid (∀ j, j < q → amongB B (ssAt S j) = true) ∧ Hid (Below w.heap.size w wr)) (fun i _ => S.length - (intOf i).toNat)
  case atStart => exact ⟨0, Nat.zero_le _, rfl, (fun j h => by omega), Below.refl _ _⟩
  case round =>
    obtain ⟨q, hq, rfl, Ho, Hb⟩ := hrel
    by_cases hlt : q < S.length
    · obtain ⟨bb, off, rfl, hat⟩ := (HX.out.below Hb.out) (by omega)
      have c0 := strAt_cells hat q hlt
      have HCx := hide (HC.out (ssAt S q) wr Hb.out)
      have Hy : Hid (amongB B (ssAt S q) = false → bornB B S = false) := fun h => bornB_bad hlt h
      have Hn : Hid (amongB B (ssAt S q) = true → ∀ j, j < q + 1 → amongB B (ssAt S j) = true) := fun h j hjq => by
        by_cases e : j = q
        · subst e; exact h
        · exact Ho.out j (by omega)
      clear Ho hat HC
      generalize amongB B (ssAt S q) = r at *
      generalize ssAt S q = K at *
      cases r with
      | false =>
        have HN := hide (Hy.out (by first | rfl | trivial))
        clear Hy Hn
        go_wp2_with fail
        refine HCx.out.mono ?_
        rintro e w1 ⟨rfl, hb1⟩
        go_wp2
        go_ret
        exact ⟨_, rfl, .inr ⟨HN.out, by omega⟩, Hb.out.trans (hb1.mono Hb.out.size)⟩
      | true =>
        have HN := hide (Hn.out (by first | rfl | trivial))
        clear Hy Hn
        go_wp2_with fail
        refine HCx.out.mono ?_
        rintro e w1 ⟨rfl, hb1⟩
        go_wp2
        go_roundw
        case rel => exact ⟨q + 1, by omega, by go_num, HN, Hb.out.trans (hb1.mono Hb.out.size)⟩
        case measure => simp [intOf]; omega
    · have e : q = S.length := by omega
      subst e
      have HN := hide (bornB_end Ho.out)
      clear Ho HX HC
      go_wp2
      go_ret
      exact ⟨_, rfl, .inl ⟨HN.out, rfl⟩, Hb.out⟩
set_option maxHeartbeats 800000 in
theorem cfNb_any (a a2 : Option Addr) (p p2 : Nat) (B S : List ByteArray) (b : Nat) (w : World) (hl : B.length ≤ maxLen) (hl2 : S.length ≤ maxLen) (hB : strOf w a B) (hS : strOf w a2 S) (hc : w.cell? ⟨b, 2, none⟩ = some (.slice a B.length p)) :
    Calls Try.prog 155 #[.slice a2 S.length p2, .func (.func 156) #[] #[.pointer (some ⟨b, 0, none⟩)]] w fun e w' => e = .returned (.bool (!bornB B S)) ∧ Below w.heap.size w w' := by
  have HC := hide (ixNb_any a a2 p p2 B S b w hl hl2 hB hS hc)
  clear hB hS hc
  go_enter Try.func155, Try.ntmps155
  go_wp2_with fail
  refine HC.out.mono ?_
  rintro e w1 ⟨r, rfl, ⟨hr, rfl⟩ | ⟨hr, h0⟩, hb⟩
  · have HN := hide hr
    clear hr
    go_wp2
    go_ret
    exact ⟨ret_bool (by rw [HN.out]; rfl), hb⟩
  · have HN := hide hr
    clear hr
    go_wp2
    go_ret
    exact ⟨ret_bool (by rw [HN.out]; first | (simp; done) | (simp; omega)), hb⟩
/-- the cells of a match: a want's, then an island's -/
def maC (z : Int) (a1 a2 a3 b1 b2 : Option Addr) (p1 p2 p3 r1 r2 : Nat) (T : List TD) (B : List ByteArray) (L : List WgD) (s : ByteArray) (G : List (ByteArray × ByteArray)) (S : List ByteArray) (y : Int) : List Value :=
  [.int .i64 z, .slice a1 T.length p1, .slice a2 B.length p2, .slice a3 L.length p3, .string s, .slice b1 G.length r1, .slice b2 S.length r2, .int .i64 y]
set_option maxHeartbeats 800000 in
theorem notRight_any (z : Int) (a1 a2 a3 b1 b2 : Option Addr) (p1 p2 p3 r1 r2 : Nat) (T : List TD) (B : List ByteArray) (L : List WgD) (s : ByteArray) (G : List (ByteArray × ByteArray)) (S : List ByteArray) (y : Int) (w : World)
    (hq : okWa (z, T, B, L)) (hq' : okIs1 (s, G, S, y)) (hW : waC w (z, T, B, L) (.slice a1 T.length p1) (.slice a2 B.length p2) (.slice a3 L.length p3)) (hI : isC w (s, G, S, y) (.slice b1 G.length r1) (.slice b2 S.length r2)) :
    Calls Try.prog 81 #[.agg #[.int .i64 z, .slice a1 T.length p1, .slice a2 B.length p2, .slice a3 L.length p3, .string s, .slice b1 G.length r1, .slice b2 S.length r2, .int .i64 y]] w fun e w' => e = .returned (.bool (!(wanB (z, T, B, L) && islB (s, G, S, y)))) ∧ Below w.heap.size w w' := by
  have HC0 : Hid (∀ wx, Below w.heap.size w wx → Calls Try.prog 19 #[.agg #[.int .i64 z, .slice a1 T.length p1, .slice a2 B.length p2, .slice a3 L.length p3]] wx fun e w' => e = .returned (.bool (wanB (z, T, B, L))) ∧ Below wx.heap.size wx w') := fun wx hb => iWantOk_any (z, T, B, L) [.int .i64 z, .slice a1 T.length p1, .slice a2 B.length p2, .slice a3 L.length p3] wx hq ⟨_, _, _, rfl, hW.below hb⟩
  have HC1 : Hid (∀ wx, Below w.heap.size w wx → Calls Try.prog 39 #[.agg #[.string s, .slice b1 G.length r1, .slice b2 S.length r2, .int .i64 y]] wx fun e w' => e = .returned (.bool (islB (s, G, S, y))) ∧ Below wx.heap.size wx w') := fun wx hb => iIslandOk_any (s, G, S, y) [.string s, .slice b1 G.length r1, .slice b2 S.length r2, .int .i64 y] wx hq' ⟨_, _, rfl, hI.below hb⟩
  have OX : Hid (objU (w.alloc (.cells #[.int .i64 z, .slice a1 T.length p1, .slice a2 B.length p2, .slice a3 L.length p3, .string s, .slice b1 G.length r1, .slice b2 S.length r2, .int .i64 y] 126)) w.heap.size 126 [.int .i64 z, .slice a1 T.length p1, .slice a2 B.length p2, .slice a3 L.length p3, .string s, .slice b1 G.length r1, .slice b2 S.length r2, .int .i64 y]) := objU.new _ _ _
  have BX : Hid (Below w.heap.size w (w.alloc (.cells #[.int .i64 z, .slice a1 T.length p1, .slice a2 B.length p2, .slice a3 L.length p3, .string s, .slice b1 G.length r1, .slice b2 S.length r2, .int .i64 y] 126))) := (Below.refl _ _).alloc (Nat.le_refl _) _
  clear hq hq' hW hI
  generalize wanB (z, T, B, L) = q0 at *
  generalize islB (s, G, S, y) = q1 at *
  go_enter Try.func81, Try.ntmps81
  have x0 := OX.out.cell 0 _ rfl
  have x1 := OX.out.cell 1 _ rfl
  have x2 := OX.out.cell 2 _ rfl
  have x3 := OX.out.cell 3 _ rfl
  go_wp2_with fail
  refine (HC0.out _ BX.out).mono ?_
  rintro e w1 ⟨rfl, hb1⟩
  have OX1 := hide (OX.out.below hb1)
  have BX1 : Hid (Below w.heap.size w w1) := BX.out.trans (hb1.mono BX.out.size)
  clear OX BX hb1 x0 x1 x2 x3
  cases q0 with
  | false =>
    clear OX1
    go_wp2
    go_ret
    exact ⟨rfl, BX1.out⟩
  | true =>
    have x4 := OX1.out.cell 4 _ rfl
    have x5 := OX1.out.cell 5 _ rfl
    have x6 := OX1.out.cell 6 _ rfl
    have x7 := OX1.out.cell 7 _ rfl
    go_wp2_with fail
    refine (HC1.out _ BX1.out).mono ?_
    rintro e w2 ⟨rfl, hb2⟩
    have BX2 : Hid (Below w.heap.size w w2) := BX1.out.trans (hb2.mono BX1.out.size)
    clear OX1 BX1 hb2 x4 x5 x6 x7
    go_wp2
    go_ret
    exact ⟨ret_bool (by simp), BX2.out⟩
set_option maxHeartbeats 800000 in
theorem notMeant_any (z : Int) (a1 a2 a3 b1 b2 : Option Addr) (p1 p2 p3 r1 r2 : Nat) (T : List TD) (B : List ByteArray) (L : List WgD) (s : ByteArray) (G : List (ByteArray × ByteArray)) (S : List ByteArray) (y : Int) (w : World)
    (hq : okWa (z, T, B, L)) (hq' : okIs1 (s, G, S, y)) (hT : termsOf w a1 T) (hG : rowOf w b1 G) :
    Calls Try.prog 82 #[.agg #[.int .i64 z, .slice a1 T.length p1, .slice a2 B.length p2, .slice a3 L.length p3, .string s, .slice b1 G.length r1, .slice b2 S.length r2, .int .i64 y]] w fun e w' => e = .returned (.bool (!matchB T G)) ∧ Below w.heap.size w w' := by
  have HC0 : Hid (∀ wx, Below w.heap.size w wx → Calls Try.prog 41 #[.slice a1 T.length p1, .slice b1 G.length r1] wx fun e w' => e = .returned (.bool (matchB T G)) ∧ Below wx.heap.size wx w') := fun wx hb => imatches_any a1 p1 T b1 r1 G wx hq.2.1.1 (fun t ht => (hq.2.1.2 t ht).2.1) (hT.below hb) hq'.2.1.1 (rowOf_below hG hb)
  have OX : Hid (objU (w.alloc (.cells #[.int .i64 z, .slice a1 T.length p1, .slice a2 B.length p2, .slice a3 L.length p3, .string s, .slice b1 G.length r1, .slice b2 S.length r2, .int .i64 y] 126)) w.heap.size 126 [.int .i64 z, .slice a1 T.length p1, .slice a2 B.length p2, .slice a3 L.length p3, .string s, .slice b1 G.length r1, .slice b2 S.length r2, .int .i64 y]) := objU.new _ _ _
  have BX : Hid (Below w.heap.size w (w.alloc (.cells #[.int .i64 z, .slice a1 T.length p1, .slice a2 B.length p2, .slice a3 L.length p3, .string s, .slice b1 G.length r1, .slice b2 S.length r2, .int .i64 y] 126))) := (Below.refl _ _).alloc (Nat.le_refl _) _
  clear hq hq' hT hG
  generalize matchB T G = q0 at *
  go_enter Try.func82, Try.ntmps82
  have x1 := OX.out.cell 1 _ rfl
  have x5 := OX.out.cell 5 _ rfl
  go_wp2_with fail
  refine (HC0.out _ BX.out).mono ?_
  rintro e w1 ⟨rfl, hb1⟩
  have BX1 : Hid (Below w.heap.size w w1) := BX.out.trans (hb1.mono BX.out.size)
  clear OX BX hb1 x1 x5
  go_wp2
  go_ret
  exact ⟨rfl, BX1.out⟩
set_option maxHeartbeats 800000 in
theorem notBorne_any (z : Int) (a1 a2 a3 b1 b2 : Option Addr) (p1 p2 p3 r1 r2 : Nat) (T : List TD) (B : List ByteArray) (L : List WgD) (s : ByteArray) (G : List (ByteArray × ByteArray)) (S : List ByteArray) (y : Int) (w : World)
    (hq : okWa (z, T, B, L)) (hq' : okIs1 (s, G, S, y)) (hB : strOf w a2 B) (hS : strOf w b2 S) :
    Calls Try.prog 83 #[.agg #[.int .i64 z, .slice a1 T.length p1, .slice a2 B.length p2, .slice a3 L.length p3, .string s, .slice b1 G.length r1, .slice b2 S.length r2, .int .i64 y]] w fun e w' => e = .returned (.bool (!bornB B S)) ∧ Below w.heap.size w w' := by
  have OX : Hid (objU (w.alloc (.cells #[.int .i64 z, .slice a1 T.length p1, .slice a2 B.length p2, .slice a3 L.length p3, .string s, .slice b1 G.length r1, .slice b2 S.length r2, .int .i64 y] 126)) w.heap.size 126 [.int .i64 z, .slice a1 T.length p1, .slice a2 B.length p2, .slice a3 L.length p3, .string s, .slice b1 G.length r1, .slice b2 S.length r2, .int .i64 y]) := objU.new _ _ _
  have BX : Hid (Below w.heap.size w (w.alloc (.cells #[.int .i64 z, .slice a1 T.length p1, .slice a2 B.length p2, .slice a3 L.length p3, .string s, .slice b1 G.length r1, .slice b2 S.length r2, .int .i64 y] 126))) := (Below.refl _ _).alloc (Nat.le_refl _) _
  have HC0 : Hid (Calls Try.prog 155 #[.slice b2 S.length r2, .func (.func 156) #[] #[.pointer (some ⟨w.heap.size, 0, none⟩)]] (w.alloc (.cells #[.int .i64 z, .slice a1 T.length p1, .slice a2 B.length p2, .slice a3 L.length p3, .string s, .slice b1 G.length r1, .slice b2 S.length r2, .int .i64 y] 126)) fun e w' => e = .returned (.bool (!bornB B S)) ∧ Below (w.alloc (.cells #[.int .i64 z, .slice a1 T.length p1, .slice a2 B.length p2, .slice a3 L.length p3, .string s, .slice b1 G.length r1, .slice b2 S.length r2, .int .i64 y] 126)).heap.size (w.alloc (.cells #[.int .i64 z, .slice a1 T.length p1, .slice a2 B.length p2, .slice a3 L.length p3, .string s, .slice b1 G.length r1, .slice b2 S.length r2, .int .i64 y] 126)) w') :=
    cfNb_any a2 b2 p2 r2 B S w.heap.size _ hq.2.2.1.1 hq'.2.2.1.1 (hB.below BX.out) (hS.below BX.out) (OX.out.cell 2 _ rfl)
  clear hq hq' hB hS
  generalize bornB B S = q0 at *
  go_enter Try.func83, Try.ntmps83
  have x6 := OX.out.cell 6 _ rfl
  go_wp2_with fail
  refine HC0.out.mono ?_
  rintro e w1 ⟨rfl, hb1⟩
  have BX1 : Hid (Below w.heap.size w w1) := BX.out.trans (hb1.mono BX.out.size)
  clear OX BX hb1 x6
  go_wp2
  go_ret
  exact ⟨rfl, BX1.out⟩
end Go.Proofs.Ytdnodaoeflbfkaa
/- Who may run it: Eligible, on both sides. -/
namespace Go.Proofs.Ytdnodaoeflbfkaa
open Go.RowKit Go.BigFrame
set_option linter.unusedVariables false

set_option maxRecDepth 20000 in
set_option maxHeartbeats 1600000 in
theorem sEligible_any (W : WaD) (I : IsD) (xs ys : List Value) (w : World) (hq : okWa W) (hq' : okIs1 I) (hx : waH w W xs) (hy : isH w I ys) :
    Calls Try.prog 24 #[.agg xs.toArray, .agg ys.toArray] w fun e w' => e = .returned (.bool (eligB W I)) ∧ Below w.heap.size w w' := by
  have HC0 : Hid (∀ wx, Below w.heap.size w wx → Calls Try.prog 17 #[.agg xs.toArray] wx fun e w' => e = .returned (.bool (wanB W)) ∧ Below wx.heap.size wx w') := fun wx hb => sWantOk_any W xs wx hq (hx.below hb)
  have HC1 : Hid (∀ wx, Below w.heap.size w wx → Calls Try.prog 40 #[.agg ys.toArray] wx fun e w' => e = .returned (.bool (islB I)) ∧ Below wx.heap.size wx w') := fun wx hb => sIslandOk_any I ys wx hq' (hy.below hb)
  obtain ⟨c1, c2, c3, rfl, ⟨a1, p1, rfl, h1⟩, ⟨a2, p2, rfl, h2⟩, a3, p3, rfl, h3⟩ := hx
  obtain ⟨d1, d2, rfl, ⟨b1, r1, rfl, g1⟩, b2, r2, rfl, g2⟩ := hy
  obtain ⟨z, T, B, L⟩ := W
  obtain ⟨s, G, S, y⟩ := I
  have E : Hid (eligB (z, T, B, L) (s, G, S, y) = (wanB (z, T, B, L) && islB (s, G, S, y) && matchB T G && bornB B S)) := rfl
  dsimp only at *
  have HC2 : Hid (∀ wx, Below w.heap.size w wx → Calls Try.prog 78 #[.slice a1 T.length p1, .slice b1 G.length r1] wx fun e w' => e = .returned (.bool (matchB T G)) ∧ Below wx.heap.size wx w') := fun wx hb => smatches_any a1 p1 T b1 r1 G wx hq.2.1.1 hq.2.1.2 (h1.below hb) hq'.2.1.1 hq'.2.1.2 (rowOf_below g1 hb)
  have HC3 : Hid (∀ x wx, Below w.heap.size w wx → Calls Try.prog 79 #[.slice a2 B.length p2, .string x] wx fun e w' => e = .returned (.bool (amongB B x)) ∧ w' = wx) := fun x wx hb => samong_any a2 p2 B x wx hq.2.2.1.1 (h2.below hb)
  have HS := hide g2
  have hl := hq'.2.2.1.1
  unfold maxLen at hl
  simp only at hl
  have OX : Hid (objU (w.alloc (.cells #[.int .i64 z, .slice a1 T.length p1, .slice a2 B.length p2, .slice a3 L.length p3] 41)) w.heap.size 41 [.int .i64 z, .slice a1 T.length p1, .slice a2 B.length p2, .slice a3 L.length p3]) := objU.new _ _ _
  have OX' := hide (OX.out.below (w' := (w.alloc (.cells #[.int .i64 z, .slice a1 T.length p1, .slice a2 B.length p2, .slice a3 L.length p3] 41)).alloc (.cells #[.string s, .slice b1 G.length r1, .slice b2 S.length r2, .int .i64 y] 54)) ((Below.refl _ _).alloc (Nat.le_refl _) _))
  have OY : Hid (objU ((w.alloc (.cells #[.int .i64 z, .slice a1 T.length p1, .slice a2 B.length p2, .slice a3 L.length p3] 41)).alloc (.cells #[.string s, .slice b1 G.length r1, .slice b2 S.length r2, .int .i64 y] 54)) (w.heap.size + 1) 54 [.string s, .slice b1 G.length r1, .slice b2 S.length r2, .int .i64 y]) := objU.new2 _ _ (by simp)
  have BX : Hid (Below w.heap.size w ((w.alloc (.cells #[.int .i64 z, .slice a1 T.length p1, .slice a2 B.length p2, .slice a3 L.length p3] 41)).alloc (.cells #[.string s, .slice b1 G.length r1, .slice b2 S.length r2, .int .i64 y] 54))) := ((Below.refl _ _).alloc (Nat.le_refl _) _).alloc (by simp) _
  clear h1 h2 h3 g1 g2 hq hq' OX
  generalize eligB (z, T, B, L) (s, G, S, y) = R at *
  generalize wanB (z, T, B, L) = q0 at *
  generalize islB (s, G, S, y) = q1 at *
  generalize matchB T G = q2 at *
  go_enter Try.func24, Try.ntmps24
  have x0 := OX'.out.cell 0 _ rfl
  have x1 := OX'.out.cell 1 _ rfl
  have x2 := OX'.out.cell 2 _ rfl
  have x3 := OX'.out.cell 3 _ rfl
  go_wp2_with fail
  refine (HC0.out _ BX.out).mono ?_
  rintro e w1 ⟨rfl, hb1⟩
  have OX1 := hide (OX'.out.below hb1)
  have OY1 := hide (OY.out.below hb1)
  have BX1 : Hid (Below w.heap.size w w1) := BX.out.trans (hb1.mono BX.out.size)
  clear OX' OY BX hb1 x0 x1 x2 x3
  cases q0 with
  | false =>
    clear OX1 OY1
    go_wp2
    go_ret
    exact ⟨ret_bool E.out.symm, BX1.out⟩
  | true =>
    have x0 := OY1.out.cell 0 _ rfl
    have x1 := OY1.out.cell 1 _ rfl
    have x2 := OY1.out.cell 2 _ rfl
    have x3 := OY1.out.cell 3 _ rfl
    go_wp2_with fail
    refine (HC1.out _ BX1.out).mono ?_
    rintro e w2 ⟨rfl, hb2⟩
    have OX2 := hide (OX1.out.below hb2)
    have OY2 := hide (OY1.out.below hb2)
    have BX2 : Hid (Below w.heap.size w w2) := BX1.out.trans (hb2.mono BX1.out.size)
    clear OX1 OY1 BX1 hb2 x0 x1 x2 x3
    cases q1 with
    | false =>
      clear OX2 OY2
      go_wp2
      go_ret
      exact ⟨ret_bool E.out.symm, BX2.out⟩
    | true =>
      have x1 := OX2.out.cell 1 _ rfl
      have y1 := OY2.out.cell 1 _ rfl
      go_wp2_with fail
      refine (HC2.out _ BX2.out).mono ?_
      rintro e w3 ⟨rfl, hb3⟩
      have OX3 := hide (OX2.out.below hb3)
      have OY3 := hide (OY2.out.below hb3)
      have BX3 : Hid (Below w.heap.size w w3) := BX2.out.trans (hb3.mono BX2.out.size)
      clear OX2 OY2 BX2 hb3 x1 y1
      cases q2 with
      | false =>
        clear OX3 OY3
        go_wp2
        go_ret
        exact ⟨ret_bool E.out.symm, BX3.out⟩
      | true =>
        have E2 : Hid (R = bornB B S) := by show _ = _; rw [E.out]; simp
        clear E
        go_wp2
        go_loopw [5] (fun i wr => ∃ (k : Nat), k ≤ S.length ∧ i = .int .i64 k ∧ Hid (∀ j, j < k → amongB B (ssAt S j) = true) ∧ Hid (objU wr w.heap.size 41 [.int .i64 z, .slice a1 T.length p1, .slice a2 B.length p2, .slice a3 L.length p3]) ∧ Hid (objU wr (w.heap.size + 1) 54 [.string s, .slice b1 G.length r1, .slice b2 S.length r2, .int .i64 y]) ∧ Hid (Below w.heap.size w wr)) (fun i _ => S.length - (intOf i).toNat)
        case atStart => exact ⟨0, Nat.zero_le _, rfl, fun j h => by omega, OX3, OY3, BX3⟩
        case round =>
          clear OX3 OY3 BX3
          obtain ⟨k, hk, rfl, Ho, HO, HY, HB⟩ := hrel
          have o2 := HO.out.cell 2 _ rfl
          have y2 := HY.out.cell 2 _ rfl
          by_cases hlt : k < S.length
          · obtain ⟨b, off, rfl, hat⟩ := (HS.out.below HB.out) (by omega)
            have c0 := strAt_cells hat k hlt
            have Hy : Hid (amongB B (ssAt S k) = false → bornB B S = false) := fun h => bornB_bad hlt h
            have Hn : Hid (amongB B (ssAt S k) = true → ∀ j, j < k + 1 → amongB B (ssAt S j) = true) := fun h j hjq => by
              by_cases e : j = k
              · subst e; exact h
              · exact Ho.out j (by omega)
            have HCx : Hid (∀ wx, Below wr.heap.size wr wx → Calls Try.prog 79 #[.slice a2 B.length p2, .string (ssAt S k)] wx fun e w' => e = .returned (.bool (amongB B (ssAt S k))) ∧ w' = wx) := fun wx hb => HC3.out _ wx (HB.out.trans (hb.mono HB.out.size))
            clear Ho hat
            generalize amongB B (ssAt S k) = r at *
            generalize ssAt S k = K at *
            cases r with
            | false =>
              have HN := hide (Hy.out (by first | rfl | trivial))
              clear Hy Hn
              go_wp2
              go_quiet (first | (go_at_call 79; exact Calls.quiet_of_same (HCx.out _ (by repeat (first | with_reducible exact Below.refl _ _ | with_reducible refine below_drewN ?_ _)))))
              go_wp2
              go_ret
              exact ⟨ret_bool (by rw [E2.out, HN.out]), below_drewN HB.out _⟩
            | true =>
              have HN := hide (Hn.out (by first | rfl | trivial))
              clear Hy Hn
              go_wp2
              go_quiet (first | (go_at_call 79; exact Calls.quiet_of_same (HCx.out _ (by repeat (first | with_reducible exact Below.refl _ _ | with_reducible refine below_drewN ?_ _)))))
              go_wp2
              go_roundw
              case rel => exact ⟨k + 1, by omega, by go_num, HN, HO.out.below (below_drewN (Below.refl _ _) _), HY.out.below (below_drewN (Below.refl _ _) _), below_drewN HB.out _⟩
              case measure => simp [intOf]; omega
          · have e : k = S.length := by omega
            subst e
            have HN := hide (bornB_end Ho.out)
            clear Ho HS HC3
            go_wp2
            go_ret
            exact ⟨ret_bool (by rw [E2.out, HN.out]), HB.out⟩
set_option maxRecDepth 20000 in
set_option maxHeartbeats 1600000 in
theorem iEligible_any (W : WaD) (I : IsD) (xs ys : List Value) (w : World) (hq : okWa W) (hq' : okIs1 I) (hx : waH w W xs) (hy : isH w I ys) :
    Calls Try.prog 26 #[.agg xs.toArray, .agg ys.toArray] w fun e w' => e = .returned (.bool (eligB W I)) ∧ Below w.heap.size w w' := by
  obtain ⟨c1, c2, c3, rfl, ⟨a1, p1, rfl, h1⟩, ⟨a2, p2, rfl, h2⟩, a3, p3, rfl, h3⟩ := hx
  obtain ⟨d1, d2, rfl, ⟨b1, r1, rfl, g1⟩, b2, r2, rfl, g2⟩ := hy
  obtain ⟨z, T, B, L⟩ := W
  obtain ⟨s, G, S, y⟩ := I
  have E : Hid (eligB (z, T, B, L) (s, G, S, y) = (wanB (z, T, B, L) && islB (s, G, S, y) && matchB T G && bornB B S)) := rfl
  dsimp only at *
  have HC0 : Hid (∀ wx, Below w.heap.size w wx → Calls Try.prog 81 #[.agg #[.int .i64 z, .slice a1 T.length p1, .slice a2 B.length p2, .slice a3 L.length p3, .string s, .slice b1 G.length r1, .slice b2 S.length r2, .int .i64 y]] wx fun e w' => e = .returned (.bool (!(wanB (z, T, B, L) && islB (s, G, S, y)))) ∧ Below wx.heap.size wx w') := fun wx hb => notRight_any z a1 a2 a3 b1 b2 p1 p2 p3 r1 r2 T B L s G S y wx hq hq' (waC.below ⟨⟨_, _, rfl, h1⟩, ⟨_, _, rfl, h2⟩, _, _, rfl, h3⟩ hb) (isC.below ⟨⟨_, _, rfl, g1⟩, _, _, rfl, g2⟩ hb)
  have HC1 : Hid (∀ wx, Below w.heap.size w wx → Calls Try.prog 82 #[.agg #[.int .i64 z, .slice a1 T.length p1, .slice a2 B.length p2, .slice a3 L.length p3, .string s, .slice b1 G.length r1, .slice b2 S.length r2, .int .i64 y]] wx fun e w' => e = .returned (.bool (!matchB T G)) ∧ Below wx.heap.size wx w') := fun wx hb => notMeant_any z a1 a2 a3 b1 b2 p1 p2 p3 r1 r2 T B L s G S y wx hq hq' (h1.below hb) (rowOf_below g1 hb)
  have HC2 : Hid (∀ wx, Below w.heap.size w wx → Calls Try.prog 83 #[.agg #[.int .i64 z, .slice a1 T.length p1, .slice a2 B.length p2, .slice a3 L.length p3, .string s, .slice b1 G.length r1, .slice b2 S.length r2, .int .i64 y]] wx fun e w' => e = .returned (.bool (!bornB B S)) ∧ Below wx.heap.size wx w') := fun wx hb => notBorne_any z a1 a2 a3 b1 b2 p1 p2 p3 r1 r2 T B L s G S y wx hq hq' (h2.below hb) (g2.below hb)
  clear h1 h2 h3 g1 g2 hq hq'
  generalize eligB (z, T, B, L) (s, G, S, y) = R at *
  generalize (wanB (z, T, B, L) && islB (s, G, S, y)) = q0 at *
  generalize matchB T G = q1 at *
  generalize bornB B S = q2 at *
  go_enter Try.func26, Try.ntmps26
  go_wp2
  go_loopw [19] (fun i wr => ∃ (x : Int), i = .int .i64 x ∧ (x = 0 ∨ (x = 1 ∧ q0 = true) ∨ (x = 2 ∧ q0 = true ∧ q1 = true) ∨ (x = 3 ∧ q0 = true ∧ q1 = true ∧ q2 = true)) ∧ Hid (∃ t, objU wr (w.heap.size + 3) t [.func (.func 81) #[(.agg #[.int .i64 z, .slice a1 T.length p1, .slice a2 B.length p2, .slice a3 L.length p3, .string s, .slice b1 G.length r1, .slice b2 S.length r2, .int .i64 y])] #[], .func (.func 82) #[(.agg #[.int .i64 z, .slice a1 T.length p1, .slice a2 B.length p2, .slice a3 L.length p3, .string s, .slice b1 G.length r1, .slice b2 S.length r2, .int .i64 y])] #[], .func (.func 83) #[(.agg #[.int .i64 z, .slice a1 T.length p1, .slice a2 B.length p2, .slice a3 L.length p3, .string s, .slice b1 G.length r1, .slice b2 S.length r2, .int .i64 y])] #[]]) ∧ Hid (Below w.heap.size w wr)) (fun i _ => (3 - intOf i).toNat)
  case atStart => exact ⟨0, rfl, .inl rfl, ⟨_, objU.new2 _ [.func (.func 81) #[(.agg #[.int .i64 z, .slice a1 T.length p1, .slice a2 B.length p2, .slice a3 L.length p3, .string s, .slice b1 G.length r1, .slice b2 S.length r2, .int .i64 y])] #[], .func (.func 82) #[(.agg #[.int .i64 z, .slice a1 T.length p1, .slice a2 B.length p2, .slice a3 L.length p3, .string s, .slice b1 G.length r1, .slice b2 S.length r2, .int .i64 y])] #[], .func (.func 83) #[(.agg #[.int .i64 z, .slice a1 T.length p1, .slice a2 B.length p2, .slice a3 L.length p3, .string s, .slice b1 G.length r1, .slice b2 S.length r2, .int .i64 y])] #[]] (by simp)⟩, (by repeat (first | exact Below.refl _ _ | refine Below.alloc ?_ (by simp <;> omega) _))⟩
  case round =>
    obtain ⟨x, rfl, hk, HO, HB⟩ := hrel
    obtain ⟨t, hO⟩ := HO.out
    rcases hk with rfl | ⟨rfl, rfl⟩ | ⟨rfl, rfl, rfl⟩ | ⟨rfl, rfl, rfl, rfl⟩
    · have o0 := hO.cell 0 _ rfl
      clear hO
      cases q0 with
      | false =>
        go_wp2_with fail
        refine (HC0.out _ HB.out).mono ?_
        rintro e w1 ⟨rfl, hb1⟩
        go_wp2
        go_ret
        exact ⟨ret_bool (by rw [E.out]; simp), HB.out.trans (hb1.mono HB.out.size)⟩
      | true =>
        go_wp2_with fail
        refine (HC0.out _ HB.out).mono ?_
        rintro e w1 ⟨rfl, hb1⟩
        go_wp2
        go_roundw
        case rel => exact ⟨1, rfl, (by simp), (by obtain ⟨t, h⟩ := HO.out; exact ⟨t, h.below hb1⟩), HB.out.trans (hb1.mono HB.out.size)⟩
        case measure => simp [intOf]
    · have o1 := hO.cell 1 _ rfl
      clear hO
      cases q1 with
      | false =>
        go_wp2_with fail
        refine (HC1.out _ HB.out).mono ?_
        rintro e w1 ⟨rfl, hb1⟩
        go_wp2
        go_ret
        exact ⟨ret_bool (by rw [E.out]; simp), HB.out.trans (hb1.mono HB.out.size)⟩
      | true =>
        go_wp2_with fail
        refine (HC1.out _ HB.out).mono ?_
        rintro e w1 ⟨rfl, hb1⟩
        go_wp2
        go_roundw
        case rel => exact ⟨2, rfl, (by simp), (by obtain ⟨t, h⟩ := HO.out; exact ⟨t, h.below hb1⟩), HB.out.trans (hb1.mono HB.out.size)⟩
        case measure => simp [intOf]
    · have o2 := hO.cell 2 _ rfl
      clear hO
      cases q2 with
      | false =>
        go_wp2_with fail
        refine (HC2.out _ HB.out).mono ?_
        rintro e w1 ⟨rfl, hb1⟩
        go_wp2
        go_ret
        exact ⟨ret_bool (by rw [E.out]; simp), HB.out.trans (hb1.mono HB.out.size)⟩
      | true =>
        go_wp2_with fail
        refine (HC2.out _ HB.out).mono ?_
        rintro e w1 ⟨rfl, hb1⟩
        go_wp2
        go_roundw
        case rel => exact ⟨3, rfl, (by simp), (by obtain ⟨t, h⟩ := HO.out; exact ⟨t, h.below hb1⟩), HB.out.trans (hb1.mono HB.out.size)⟩
        case measure => simp [intOf]
    · clear hO
      go_wp2
      go_ret
      exact ⟨ret_bool (by rw [E.out]; simp), HB.out⟩
end Go.Proofs.Ytdnodaoeflbfkaa
/- FnFit: its walk. -/
namespace Go.Proofs.Ytdnodaoeflbfkaa
open Go.RowKit Go.BigFrame
set_option linter.unusedVariables false
set_option linter.unusedSimpArgs false

theorem big_anyF (n cap : Nat) (a : Option Addr) (w : World) : Calls Try.prog 33 #[.slice a n cap] w fun e w' => e = .returned (.bool (decide (1048576 < n))) ∧ w' = w := by
  by_cases h : 1048576 < n
  · have h' : (1048576 : Int) < (n : Int) := by omega
    rw [decide_eq_true h]
    go_enter Try.func33, Try.ntmps33
    go_wp2
    go_ret
    exact ⟨rfl, rfl⟩
  · have h' : ¬ (1048576 : Int) < (n : Int) := by omega
    rw [decide_eq_false h]
    go_enter Try.func33, Try.ntmps33
    go_wp2
    go_ret
    exact ⟨rfl, rfl⟩
def nbS : ByteArray := ⟨#[110, 111, 116, 45, 98, 111, 114, 110, 101]⟩
def bareI (I : IsD) : IsD := (I.1, I.2.1, [], I.2.2.2)
def markI (I : IsD) : IsD := (I.1, I.2.1, [nbS], I.2.2.2)
def openW (W : WaD) : WaD := (W.1, [], W.2.2.1, W.2.2.2)
theorem bare_hand {w : World} {I : IsD} {c1 c2 : Value} {x : Option Addr} {y : Nat} (h : isH w I [.string I.1, c1, c2, .int .i64 I.2.2.2]) : isH w (bareI I) [.string I.1, c1, .slice x 0 y, .int .i64 I.2.2.2] := by
  obtain ⟨d1, d2, e, h1, h2⟩ := h
  cases e
  exact ⟨_, _, rfl, h1, _, _, rfl, fun h => by cases h⟩
theorem mark_hand {w : World} {I : IsD} {c1 c2 : Value} {b : Nat} {y : Nat} (h : isH w I [.string I.1, c1, c2, .int .i64 I.2.2.2]) (hc : w.cell? ⟨b, 0, none⟩ = some (.string nbS)) : isH w (markI I) [.string I.1, c1, .slice (some ⟨b, 0, none⟩) 1 y, .int .i64 I.2.2.2] := by
  obtain ⟨d1, d2, e, h1, h2⟩ := h
  cases e
  refine ⟨_, _, rfl, h1, _, _, rfl, fun _ => ⟨b, 0, rfl, fun j hj => ?_⟩⟩
  have hj1 : j < 1 := hj
  obtain rfl : j = 0 := by omega
  exact hc
theorem open_hand {w : World} {W : WaD} {c1 c2 c3 : Value} {x : Option Addr} {y : Nat} (h : waH w W [.int .i64 W.1, c1, c2, c3]) : waH w (openW W) [.int .i64 W.1, .slice x 0 y, c2, c3] := by
  obtain ⟨d1, d2, d3, e, h1, h2, h3⟩ := h
  cases e
  exact ⟨_, _, _, rfl, ⟨_, _, rfl, fun h => by cases h⟩, h2, h3⟩
theorem openW.ok {W : WaD} (h : okWa W) : okWa (openW W) := ⟨h.1, ⟨Nat.zero_le _, fun t ht => by cases ht⟩, h.2.2⟩
theorem bareI.ok {I : IsD} (h : okIs1 I) : okIs1 (bareI I) := ⟨h.1, h.2.1, ⟨Nat.zero_le _, fun t ht => by cases ht⟩, h.2.2.2⟩
theorem markI.ok {I : IsD} (h : okIs1 I) : okIs1 (markI I) := ⟨h.1, h.2.1, ⟨(show (1 : Nat) ≤ maxLen by unfold maxLen; omega), fun t ht => by rw [List.mem_singleton.1 ht]; exact Nat.le_trans (show nbS.size ≤ 9 by decide) (by unfold maxLen; omega)⟩, h.2.2.2⟩
/-- what stands when the changed copies are asked: b + 4 the marked island, b + 5 its spot -/
structure FitP (w2 : World) (N b : Nat) (wv iv mv : List Value) (wx : World) : Prop where
  bel : Below w2.heap.size w2 wx
  ow : objU wx N 41 wv
  oi : objU wx (N + 1) 54 iv
  om : objU wx (b + 4) 54 mv
  oc : wx.cell? ⟨b + 5, 0, none⟩ = some (.string nbS)
theorem FitP.below {w2 wx wy : World} {N b : Nat} {wv iv mv : List Value} (h : FitP w2 N b wv iv mv wx) (hb : Below wx.heap.size wx wy) : FitP w2 N b wv iv mv wy :=
  ⟨h.bel.trans (hb.mono h.bel.size), h.ow.below hb, h.oi.below hb, h.om.below hb, (hb.cell (p := ⟨b + 5, 0, none⟩) (World.block_lt_of_cell? _ _ h.oc)).trans h.oc⟩
set_option maxRecDepth 20000 in
set_option maxHeartbeats 3200000 in
theorem fnFit_walk (n cap : Nat) (a : Option Addr) (w : World) (hl : n ≤ maxLen) (hc : codeAll w a n) :
    Calls Try.prog 9 #[.slice a n cap] w fun e w' => e = .returned (.bool true) ∧ Below w.heap.size w w' := by
  have hbig := fun wx => big_anyF n cap a wx
  by_cases hb : 1048576 < n
  · rw [decide_eq_true hb] at hbig
    have HB := hide hbig
    clear hbig hc hl
    go_enter Try.func9, Try.ntmps9
    go_wp2_with (go_at_call 33; refine (HB.out _).mono ?_; rintro e w ⟨rfl, rfl⟩)
    go_ret
    exact ⟨rfl, Below.refl _ _⟩
  rw [decide_eq_false hb] at hbig
  have HB := hide hbig
  have HDr := hide (drawEligible_any n cap a w (by omega) hc)
  clear hbig hc hl hb
  go_enter Try.func9, Try.ntmps9
  go_wp2_with (go_at_call 33; refine (HB.out _).mono ?_; rintro e w ⟨rfl, rfl⟩)
  refine HDr.out.mono ?_
  rintro e w1 ⟨W, a1, a2, a3, p1, p2, p3, I, g, c, b2, q2, rfl, HG, HW, HI, HB1⟩
  have hq1 := HG.out.1.ok
  have hq2 := HG.out.2.ok
  have O3 : Hid (objU ((w1.alloc (.cells #[.int .i64 W.1, .slice a1 W.2.1.length p1, .slice a2 W.2.2.1.length p2, .slice a3 W.2.2.2.length p3] 41)).alloc (.cells #[.string I.1, .slice (some ⟨g, 0, none⟩) I.2.1.length c, .slice b2 I.2.2.1.length q2, .int .i64 I.2.2.2] 54)) w1.heap.size 41 [.int .i64 W.1, .slice a1 W.2.1.length p1, .slice a2 W.2.2.1.length p2, .slice a3 W.2.2.2.length p3]) := (objU.new _ _ _).old _
  have O4 : Hid (objU ((w1.alloc (.cells #[.int .i64 W.1, .slice a1 W.2.1.length p1, .slice a2 W.2.2.1.length p2, .slice a3 W.2.2.2.length p3] 41)).alloc (.cells #[.string I.1, .slice (some ⟨g, 0, none⟩) I.2.1.length c, .slice b2 I.2.2.1.length q2, .int .i64 I.2.2.2] 54)) (w1.heap.size + 1) 54 [.string I.1, .slice (some ⟨g, 0, none⟩) I.2.1.length c, .slice b2 I.2.2.1.length q2, .int .i64 I.2.2.2]) := objU.new2 _ _ (by simp)
  have B12 : Hid (Below w1.heap.size w1 ((w1.alloc (.cells #[.int .i64 W.1, .slice a1 W.2.1.length p1, .slice a2 W.2.2.1.length p2, .slice a3 W.2.2.2.length p3] 41)).alloc (.cells #[.string I.1, .slice (some ⟨g, 0, none⟩) I.2.1.length c, .slice b2 I.2.2.1.length q2, .int .i64 I.2.2.2] 54))) := (below_alloc _ _).alloc (by simp) _
  have HW2 := hide (HW.out.below B12.out)
  have HI2 := hide (HI.out.below B12.out)
  have P1 : Hid (¬ (wanB W = true ∧ islB I = true) → eligB W I = false) := fun h => fit_not h
  have P2 : Hid (wanB W = true → islB I = true → eligB (openW W) (bareI I) = true) := fun h k => fit_open h k
  have P3 : Hid (eligB W (markI I) = false) := fit_marked HG.out.1.bare
  have P4 : Hid (eligB W I = true → matchB W.2.1 I.2.1 = true) := fun h => fit_match h
  have HB12 : Hid (Below w.heap.size w ((w1.alloc (.cells #[.int .i64 W.1, .slice a1 W.2.1.length p1, .slice a2 W.2.2.1.length p2, .slice a3 W.2.2.2.length p3] 41)).alloc (.cells #[.string I.1, .slice (some ⟨g, 0, none⟩) I.2.1.length c, .slice b2 I.2.2.1.length q2, .int .i64 I.2.2.2] 54))) := HB1.out.trans (B12.out.mono HB1.out.size)
  generalize hw2 : ((w1.alloc (.cells #[.int .i64 W.1, .slice a1 W.2.1.length p1, .slice a2 W.2.2.1.length p2, .slice a3 W.2.2.2.length p3] 41)).alloc (.cells #[.string I.1, .slice (some ⟨g, 0, none⟩) I.2.1.length c, .slice b2 I.2.2.1.length q2, .int .i64 I.2.2.2] 54)) = w2 at *
  have HM0 : Hid (∀ wx, Below w2.heap.size w2 wx → Calls Try.prog 41 #[.slice a1 W.2.1.length p1, .slice (some ⟨g, 0, none⟩) I.2.1.length c] wx fun e w' => e = .returned (.bool (matchB W.2.1 I.2.1)) ∧ Below wx.heap.size wx w') := fun wx hbx => by
    obtain ⟨d1, d2, d3, e, ⟨y1, z1, e1, h1⟩, -, -⟩ := HW2.out.below hbx
    obtain ⟨f1, f2, e', ⟨y2, z2, e2, h2⟩, -⟩ := HI2.out.below hbx
    cases e; cases e'; cases e1; cases e2
    exact imatches_any a1 p1 W.2.1 (some ⟨g, 0, none⟩) c I.2.1 wx hq1.2.1.1 (fun t ht => (hq1.2.1.2 t ht).2.1) h1 hq2.2.1.1 h2
  have HE0 : Hid (∀ wx, Below w2.heap.size w2 wx → Calls Try.prog 26 #[.agg #[.int .i64 W.1, .slice a1 W.2.1.length p1, .slice a2 W.2.2.1.length p2, .slice a3 W.2.2.2.length p3], .agg #[.string I.1, .slice (some ⟨g, 0, none⟩) I.2.1.length c, .slice b2 I.2.2.1.length q2, .int .i64 I.2.2.2]] wx fun e w' => e = .returned (.bool (eligB W I)) ∧ Below wx.heap.size wx w') := fun wx hbx => iEligible_any W I _ _ wx hq1 hq2 (HW2.out.below hbx) (HI2.out.below hbx)
  have HE1 : Hid (∀ wx, Below w2.heap.size w2 wx → Calls Try.prog 24 #[.agg #[.int .i64 W.1, .slice a1 W.2.1.length p1, .slice a2 W.2.2.1.length p2, .slice a3 W.2.2.2.length p3], .agg #[.string I.1, .slice (some ⟨g, 0, none⟩) I.2.1.length c, .slice b2 I.2.2.1.length q2, .int .i64 I.2.2.2]] wx fun e w' => e = .returned (.bool (eligB W I)) ∧ Below wx.heap.size wx w') := fun wx hbx => sEligible_any W I _ _ wx hq1 hq2 (HW2.out.below hbx) (HI2.out.below hbx)
  have HK0 : Hid (∀ wx, Below w2.heap.size w2 wx → Calls Try.prog 19 #[.agg #[.int .i64 W.1, .slice a1 W.2.1.length p1, .slice a2 W.2.2.1.length p2, .slice a3 W.2.2.2.length p3]] wx fun e w' => e = .returned (.bool (wanB W)) ∧ Below wx.heap.size wx w') := fun wx hbx => iWantOk_any W _ wx hq1 (HW2.out.below hbx)
  have HK1 : Hid (∀ wx, Below w2.heap.size w2 wx → Calls Try.prog 17 #[.agg #[.int .i64 W.1, .slice a1 W.2.1.length p1, .slice a2 W.2.2.1.length p2, .slice a3 W.2.2.2.length p3]] wx fun e w' => e = .returned (.bool (wanB W)) ∧ Below wx.heap.size wx w') := fun wx hbx => sWantOk_any W _ wx hq1 (HW2.out.below hbx)
  have HL0 : Hid (∀ wx, Below w2.heap.size w2 wx → Calls Try.prog 39 #[.agg #[.string I.1, .slice (some ⟨g, 0, none⟩) I.2.1.length c, .slice b2 I.2.2.1.length q2, .int .i64 I.2.2.2]] wx fun e w' => e = .returned (.bool (islB I)) ∧ Below wx.heap.size wx w') := fun wx hbx => iIslandOk_any I _ wx hq2 (HI2.out.below hbx)
  have HL1 : Hid (∀ wx, Below w2.heap.size w2 wx → Calls Try.prog 40 #[.agg #[.string I.1, .slice (some ⟨g, 0, none⟩) I.2.1.length c, .slice b2 I.2.2.1.length q2, .int .i64 I.2.2.2]] wx fun e w' => e = .returned (.bool (islB I)) ∧ Below wx.heap.size wx w') := fun wx hbx => sIslandOk_any I _ wx hq2 (HI2.out.below hbx)
  have HO : Hid (∀ wx x y x' y', Below w2.heap.size w2 wx → Calls Try.prog 26 #[.agg #[.int .i64 W.1, .slice x 0 y, .slice a2 W.2.2.1.length p2, .slice a3 W.2.2.2.length p3], .agg #[.string I.1, .slice (some ⟨g, 0, none⟩) I.2.1.length c, .slice x' 0 y', .int .i64 I.2.2.2]] wx fun e w' => e = .returned (.bool (eligB (openW W) (bareI I))) ∧ Below wx.heap.size wx w') := fun wx x y x' y' hbx => iEligible_any (openW W) (bareI I) _ _ wx (openW.ok hq1) (bareI.ok hq2) (open_hand (HW2.out.below hbx)) (bare_hand (HI2.out.below hbx))
  have HM : Hid (∀ wx b y, Below w2.heap.size w2 wx → wx.cell? ⟨b, 0, none⟩ = some (.string nbS) → Calls Try.prog 26 #[.agg #[.int .i64 W.1, .slice a1 W.2.1.length p1, .slice a2 W.2.2.1.length p2, .slice a3 W.2.2.2.length p3], .agg #[.string I.1, .slice (some ⟨g, 0, none⟩) I.2.1.length c, .slice (some ⟨b, 0, none⟩) 1 y, .int .i64 I.2.2.2]] wx fun e w' => e = .returned (.bool (eligB W (markI I))) ∧ Below wx.heap.size wx w') := fun wx b y hbx hcx => iEligible_any W (markI I) _ _ wx hq1 (markI.ok hq2) (HW2.out.below hbx) (mark_hand (HI2.out.below hbx) hcx)
  clear HW HI HW2 HI2 hq1 hq2 HDr HB HG B12 HB1
  generalize eligB W I = r at *
  generalize eligB (openW W) (bareI I) = ro at *
  generalize eligB W (markI I) = rm at *
  generalize matchB W.2.1 I.2.1 = mt at *
  generalize wanB W = wb at *
  generalize islB I = ib at *
  have x0 := O3.out.cell 0 _ rfl
  have x1 := O3.out.cell 1 _ rfl
  have x2 := O3.out.cell 2 _ rfl
  have x3 := O3.out.cell 3 _ rfl
  have y0 := O4.out.cell 0 _ rfl
  have y1 := O4.out.cell 1 _ rfl
  have y2 := O4.out.cell 2 _ rfl
  have y3 := O4.out.cell 3 _ rfl
  go_wp2_with fail
  refine (HE0.out _ (Below.refl _ _)).mono ?_
  rintro e w3 ⟨rfl, hb3⟩
  have B3 := hide hb3
  clear hb3 x0 x1 x2 x3 y0 y1 y2 y3
  have x0 := (O3.out.below B3.out).cell 0 _ rfl
  have x1 := (O3.out.below B3.out).cell 1 _ rfl
  have x2 := (O3.out.below B3.out).cell 2 _ rfl
  have x3 := (O3.out.below B3.out).cell 3 _ rfl
  have y0 := (O4.out.below B3.out).cell 0 _ rfl
  have y1 := (O4.out.below B3.out).cell 1 _ rfl
  have y2 := (O4.out.below B3.out).cell 2 _ rfl
  have y3 := (O4.out.below B3.out).cell 3 _ rfl
  have g1 : (r != r) = false := by simp
  have g2 : (wb != wb) = false := by simp
  have g3 : (ib != ib) = false := by simp
  have hb0 : Hid (Below w2.heap.size w2 w3) := B3.out
  go_wp2
  go_region_held3 (fun w' => w'.cell? ⟨w1.heap.size, 0, none⟩ = some (.int .i64 W.1) ∧ w'.cell? ⟨w1.heap.size, 1, none⟩ = some (.slice a1 W.2.1.length p1) ∧ w'.cell? ⟨w1.heap.size, 2, none⟩ = some (.slice a2 W.2.2.1.length p2) ∧ w'.cell? ⟨w1.heap.size, 3, none⟩ = some (.slice a3 W.2.2.2.length p3) ∧ w'.cell? ⟨w1.heap.size + 1, 0, none⟩ = some (.string I.1) ∧ w'.cell? ⟨w1.heap.size + 1, 1, none⟩ = some (.slice (some ⟨g, 0, none⟩) I.2.1.length c) ∧ w'.cell? ⟨w1.heap.size + 1, 2, none⟩ = some (.slice b2 I.2.2.1.length q2) ∧ w'.cell? ⟨w1.heap.size + 1, 3, none⟩ = some (.int .i64 I.2.2.2)) (first | assumption | exact ⟨x0, x1, x2, x3, y0, y1, y2, y3⟩ | go_keep)
    (first
      | (go_at_call 24; refine (HE1.out _ (show Below w2.heap.size w2 _ from (by repeat (first | with_reducible exact hb0.out | with_reducible refine Below.drew ?_ | with_reducible refine below_drewN ?_ _)))).mono ?_; rintro e v1 ⟨rfl, hc⟩; have hb1 : Hid (Below w2.heap.size w2 v1) := Below.trans (show Below w2.heap.size w2 _ from (by repeat (first | with_reducible exact hb0.out | with_reducible refine Below.drew ?_ | with_reducible refine below_drewN ?_ _))) (hc.mono (by (try simp) <;> first | done | exact hb0.out.size)); clear hc; clear HE1; have ax0 := (O3.out.below hb1.out).cell 0 _ rfl; have ax1 := (O3.out.below hb1.out).cell 1 _ rfl; have ax2 := (O3.out.below hb1.out).cell 2 _ rfl; have ax3 := (O3.out.below hb1.out).cell 3 _ rfl; have ay0 := (O4.out.below hb1.out).cell 0 _ rfl; have ay1 := (O4.out.below hb1.out).cell 1 _ rfl; have ay2 := (O4.out.below hb1.out).cell 2 _ rfl; have ay3 := (O4.out.below hb1.out).cell 3 _ rfl)
      | (go_at_call 19; refine (HK0.out _ (show Below w2.heap.size w2 _ from (by repeat (first | with_reducible exact hb1.out | with_reducible refine Below.drew ?_ | with_reducible refine below_drewN ?_ _)))).mono ?_; rintro e v2 ⟨rfl, hc⟩; have hb2 : Hid (Below w2.heap.size w2 v2) := Below.trans (show Below w2.heap.size w2 _ from (by repeat (first | with_reducible exact hb1.out | with_reducible refine Below.drew ?_ | with_reducible refine below_drewN ?_ _))) (hc.mono (by (try simp) <;> first | done | exact hb1.out.size)); clear hc; clear HK0; have bx0 := (O3.out.below hb2.out).cell 0 _ rfl; have bx1 := (O3.out.below hb2.out).cell 1 _ rfl; have bx2 := (O3.out.below hb2.out).cell 2 _ rfl; have bx3 := (O3.out.below hb2.out).cell 3 _ rfl; have by0 := (O4.out.below hb2.out).cell 0 _ rfl; have by1 := (O4.out.below hb2.out).cell 1 _ rfl; have by2 := (O4.out.below hb2.out).cell 2 _ rfl; have by3 := (O4.out.below hb2.out).cell 3 _ rfl)
      | (go_at_call 17; refine (HK1.out _ (show Below w2.heap.size w2 _ from (by repeat (first | with_reducible exact hb2.out | with_reducible refine Below.drew ?_ | with_reducible refine below_drewN ?_ _)))).mono ?_; rintro e v3 ⟨rfl, hc⟩; have hb3 : Hid (Below w2.heap.size w2 v3) := Below.trans (show Below w2.heap.size w2 _ from (by repeat (first | with_reducible exact hb2.out | with_reducible refine Below.drew ?_ | with_reducible refine below_drewN ?_ _))) (hc.mono (by (try simp) <;> first | done | exact hb2.out.size)); clear hc; have cx0 := (O3.out.below hb3.out).cell 0 _ rfl; have cx1 := (O3.out.below hb3.out).cell 1 _ rfl; have cx2 := (O3.out.below hb3.out).cell 2 _ rfl; have cx3 := (O3.out.below hb3.out).cell 3 _ rfl; have cy0 := (O4.out.below hb3.out).cell 0 _ rfl; have cy1 := (O4.out.below hb3.out).cell 1 _ rfl; have cy2 := (O4.out.below hb3.out).cell 2 _ rfl; have cy3 := (O4.out.below hb3.out).cell 3 _ rfl)
      | (go_at_call 39; refine (HL0.out _ (show Below w2.heap.size w2 _ from (by repeat (first | with_reducible exact hb3.out | with_reducible refine Below.drew ?_ | with_reducible refine below_drewN ?_ _)))).mono ?_; rintro e v4 ⟨rfl, hc⟩; have hb4 : Hid (Below w2.heap.size w2 v4) := Below.trans (show Below w2.heap.size w2 _ from (by repeat (first | with_reducible exact hb3.out | with_reducible refine Below.drew ?_ | with_reducible refine below_drewN ?_ _))) (hc.mono (by (try simp) <;> first | done | exact hb3.out.size)); clear hc; clear HL0; have dx0 := (O3.out.below hb4.out).cell 0 _ rfl; have dx1 := (O3.out.below hb4.out).cell 1 _ rfl; have dx2 := (O3.out.below hb4.out).cell 2 _ rfl; have dx3 := (O3.out.below hb4.out).cell 3 _ rfl; have dy0 := (O4.out.below hb4.out).cell 0 _ rfl; have dy1 := (O4.out.below hb4.out).cell 1 _ rfl; have dy2 := (O4.out.below hb4.out).cell 2 _ rfl; have dy3 := (O4.out.below hb4.out).cell 3 _ rfl)
      | (go_at_call 40; refine (HL1.out _ (show Below w2.heap.size w2 _ from (by repeat (first | with_reducible exact hb4.out | with_reducible refine Below.drew ?_ | with_reducible refine below_drewN ?_ _)))).mono ?_; rintro e v5 ⟨rfl, hc⟩; have hb5 : Hid (Below w2.heap.size w2 v5) := Below.trans (show Below w2.heap.size w2 _ from (by repeat (first | with_reducible exact hb4.out | with_reducible refine Below.drew ?_ | with_reducible refine below_drewN ?_ _))) (hc.mono (by (try simp) <;> first | done | exact hb4.out.size)); clear hc; have ex0 := (O3.out.below hb5.out).cell 0 _ rfl; have ex1 := (O3.out.below hb5.out).cell 1 _ rfl; have ex2 := (O3.out.below hb5.out).cell 2 _ rfl; have ex3 := (O3.out.below hb5.out).cell 3 _ rfl; have ey0 := (O4.out.below hb5.out).cell 0 _ rfl; have ey1 := (O4.out.below hb5.out).cell 1 _ rfl; have ey2 := (O4.out.below hb5.out).cell 2 _ rfl; have ey3 := (O4.out.below hb5.out).cell 3 _ rfl))
  go_wp2_with fail
  refine (HK1.out _ hb5.out).mono ?_
  rintro e v6 ⟨rfl, hb6⟩
  have B6 : Hid (Below w2.heap.size w2 v6) := hb5.out.trans (hb6.mono hb5.out.size)
  clear hb6 HK1 x0 x1 x2 x3 y0 y1 y2 y3 ax0 ax1 ax2 ax3 ay0 ay1 ay2 ay3 bx0 bx1 bx2 bx3 by0 by1 by2 by3 cx0 cx1 cx2 cx3 cy0 cy1 cy2 cy3 dx0 dx1 dx2 dx3 dy0 dy1 dy2 dy3 ex0 ex1 ex2 ex3 ey0 ey1 ey2 ey3
  clear hb1 hb2 hb3 hb4 hb5 hb0 B3
  cases wb with
  | false =>
    have hr : r = false := P1.out (by simp)
    subst hr
    clear P1 P2 P3 P4 HO HM HM0 HE0 HL1
    go_wp2
    go_ret
    exact ⟨rfl, HB12.out.trans (B6.out.mono HB12.out.size)⟩
  | true =>
    have y0 := (O4.out.below B6.out).cell 0 _ rfl
    have y1 := (O4.out.below B6.out).cell 1 _ rfl
    have y2 := (O4.out.below B6.out).cell 2 _ rfl
    have y3 := (O4.out.below B6.out).cell 3 _ rfl
    go_wp2_with fail
    refine (HL1.out _ B6.out).mono ?_
    rintro e v7 ⟨rfl, hb7⟩
    have B7 : Hid (Below w2.heap.size w2 v7) := B6.out.trans (hb7.mono B6.out.size)
    clear hb7 HL1 y0 y1 y2 y3 B6
    cases ib with
    | false =>
      have hr : r = false := P1.out (by simp)
      subst hr
      clear P1 P2 P3 P4 HO HM HM0 HE0
      go_wp2
      go_ret
      exact ⟨rfl, HB12.out.trans (B7.out.mono HB12.out.size)⟩
    | true =>
      have hro : ro = true := P2.out (by first | rfl | trivial) (by first | rfl | trivial)
      have hrm : rm = false := P3.out
      subst hro hrm
      have x0 := (O3.out.below B7.out).cell 0 _ rfl
      have x1 := (O3.out.below B7.out).cell 1 _ rfl
      have x2 := (O3.out.below B7.out).cell 2 _ rfl
      have x3 := (O3.out.below B7.out).cell 3 _ rfl
      have y0 := (O4.out.below B7.out).cell 0 _ rfl
      have y1 := (O4.out.below B7.out).cell 1 _ rfl
      have y2 := (O4.out.below B7.out).cell 2 _ rfl
      have y3 := (O4.out.below B7.out).cell 3 _ rfl
      have hn3 : w1.heap.size < v7.heap.size := (O3.out.below B7.out).lt
      have hn4 : w1.heap.size + 1 < v7.heap.size := (O4.out.below B7.out).lt
      have hn5 : w1.heap.size < v7.heap.size + 1 := by omega
      have hn6 : w1.heap.size < v7.heap.size + 1 + 1 := by omega
      have hn7 : w1.heap.size < v7.heap.size + 1 + 1 + 1 := by omega
      have hn8 : w1.heap.size < v7.heap.size + 1 + 1 + 1 + 1 := by omega
      have hn9 : w1.heap.size < v7.heap.size + 1 + 1 + 1 + 1 + 1 := by omega
      clear P1 P2 P3
      have HWX : Hid (FitP w2 w1.heap.size v7.heap.size [.int .i64 W.1, .slice a1 W.2.1.length p1, .slice a2 W.2.2.1.length p2, .slice a3 W.2.2.2.length p3] [.string I.1, .slice (some ⟨g, 0, none⟩) I.2.1.length c, .slice b2 I.2.2.1.length q2, .int .i64 I.2.2.2] [.string I.1, .slice (some ⟨g, 0, none⟩) I.2.1.length c, .slice (some ⟨v7.heap.size + 1 + 1 + 1 + 1 + 1, 0, none⟩) 1 1, .int .i64 I.2.2.2] ((((((v7.alloc (.cells #[.string I.1, .slice (some ⟨g, 0, none⟩) I.2.1.length c, .slice (some ⟨v7.heap.size + 1, 0, none⟩) 0 0, .int .i64 I.2.2.2] 54)).alloc (.cells #[] 9)).alloc (.cells #[.int .i64 W.1, .slice (some ⟨v7.heap.size + 1 + 1 + 1, 0, none⟩) 0 0, .slice a2 W.2.2.1.length p2, .slice a3 W.2.2.2.length p3] 41)).alloc (.cells #[] 199)).alloc (.cells #[.string I.1, .slice (some ⟨g, 0, none⟩) I.2.1.length c, .slice (some ⟨v7.heap.size + 1 + 1 + 1 + 1 + 1, 0, none⟩) 1 1, .int .i64 I.2.2.2] 54)).alloc (.cells #[.string ⟨#[110, 111, 116, 45, 98, 111, 114, 110, 101]⟩] 9))) := by
        refine ⟨?_, ?_, ?_, ?_, ?_⟩
        · refine B7.out.trans ?_
          refine Below.mono (B := v7.heap.size) ?_ B7.out.size
          repeat (first | with_reducible exact Below.refl _ _ | with_reducible refine Below.alloc ?_ (by simp <;> omega) _)
        · exact ((((((O3.out.below B7.out).old _).old _).old _).old _).old _).old _
        · exact ((((((O4.out.below B7.out).old _).old _).old _).old _).old _).old _
        · exact (objU.new2 _ _ (by simp)).old _
        · exact (World.cell?_alloc_at _ _ _ _ (by simp)).trans rfl
      go_wp2_with fail
      generalize hWX : ((((((v7.alloc (.cells #[.string I.1, .slice (some ⟨g, 0, none⟩) I.2.1.length c, .slice (some ⟨v7.heap.size + 1, 0, none⟩) 0 0, .int .i64 I.2.2.2] 54)).alloc (.cells #[] 9)).alloc (.cells #[.int .i64 W.1, .slice (some ⟨v7.heap.size + 1 + 1 + 1, 0, none⟩) 0 0, .slice a2 W.2.2.1.length p2, .slice a3 W.2.2.2.length p3] 41)).alloc (.cells #[] 199)).alloc (.cells #[.string I.1, .slice (some ⟨g, 0, none⟩) I.2.1.length c, .slice (some ⟨v7.heap.size + 1 + 1 + 1 + 1 + 1, 0, none⟩) 1 1, .int .i64 I.2.2.2] 54)).alloc (.cells #[.string ⟨#[110, 111, 116, 45, 98, 111, 114, 110, 101]⟩] 9)) = wx at *
      clear hWX x0 x1 x2 x3 y0 y1 y2 y3
      refine (HO.out _ _ _ _ _ HWX.out.bel).mono ?_
      rintro e v8 ⟨rfl, hb8⟩
      have H8 := hide (HWX.out.below hb8)
      clear hb8 HWX HO B7
      have x0 := H8.out.ow.cell 0 _ rfl
      have x1 := H8.out.ow.cell 1 _ rfl
      have x2 := H8.out.ow.cell 2 _ rfl
      have x3 := H8.out.ow.cell 3 _ rfl
      have m0 : v8.cell? ⟨v7.heap.size + 1 + 1 + 1 + 1, 0, none⟩ = _ := H8.out.om.cell 0 _ rfl
      have m1 : v8.cell? ⟨v7.heap.size + 1 + 1 + 1 + 1, 1, none⟩ = _ := H8.out.om.cell 1 _ rfl
      have m2 : v8.cell? ⟨v7.heap.size + 1 + 1 + 1 + 1, 2, none⟩ = _ := H8.out.om.cell 2 _ rfl
      have m3 : v8.cell? ⟨v7.heap.size + 1 + 1 + 1 + 1, 3, none⟩ = _ := H8.out.om.cell 3 _ rfl
      go_wp2_with fail
      refine (HM.out _ _ _ H8.out.bel H8.out.oc).mono ?_
      rintro e v9 ⟨rfl, hb9⟩
      have H9 := hide (H8.out.below hb9)
      clear hb9 H8 HM x0 x1 x2 x3 m0 m1 m2 m3
      have x1 := H9.out.ow.cell 1 _ rfl
      have y1 := H9.out.oi.cell 1 _ rfl
      cases r with
      | false =>
        clear P4 HM0 HE0
        go_wp2
        go_ret
        exact ⟨rfl, HB12.out.trans (H9.out.bel.mono HB12.out.size)⟩
      | true =>
        have hmt : mt = true := P4.out (by first | rfl | trivial)
        subst hmt
        clear P4 HE0
        go_wp2_with fail
        refine (HM0.out _ H9.out.bel).mono ?_
        rintro e v10 ⟨rfl, hb10⟩
        have B10 : Hid (Below w2.heap.size w2 v10) := H9.out.bel.trans (hb10.mono H9.out.bel.size)
        clear hb10 H9 HM0 x1 y1
        go_wp2
        go_ret
        exact ⟨rfl, HB12.out.trans (B10.out.mono HB12.out.size)⟩
end Go.Proofs.Ytdnodaoeflbfkaa
