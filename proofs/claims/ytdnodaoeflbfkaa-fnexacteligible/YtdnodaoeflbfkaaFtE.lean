/- Who may run it, by the program: what forbids it. -/
import Derived.Test.YtdnodaoeflbfkaaFtI
import Derived.Test.YtdnodaoeflbfkaaFtJ
import Derived.Test.YtdnodaoeflbfkaaMatch2
import Derived.Deep.QuietTactic
namespace Go.Proofs.Ytdnodaoeflbfkaa
open Go.RowKit Go.BigFrame
set_option linter.unusedVariables false

theorem bornB_bad {B S : List ByteArray} {k : Nat} (hk : k < S.length) (h : amongB B (ssAt S k) = false) : bornB B S = false := by
  unfold bornB
  rw [Bool.eq_false_iff]
  intro g
  have := List.all_eq_true.1 g _ (List.getElem_mem hk)
  rw [ssAt_get hk] at h
  rw [h] at this; cases this
theorem bornB_end {B S : List ByteArray} (h : ∀ j, j < S.length → amongB B (ssAt S j) = true) : bornB B S = true := by
  unfold bornB
  rw [List.all_eq_true]
  intro x hx
  obtain ⟨j, hj, rfl⟩ := List.getElem_of_mem hx
  have := h j hj
  rwa [ssAt_get hj] at this
theorem nbClo_any (a : Option Addr) (p : Nat) (B : List ByteArray) (x : ByteArray) (b : Nat) (w : World) (hl : B.length ≤ maxLen) (hrow : strOf w a B) (hc : w.cell? ⟨b, 2, none⟩ = some (.slice a B.length p)) :
    Calls Try.prog 156 #[.string x, .pointer (some ⟨b, 0, none⟩)] w fun e w' => e = .returned (.bool (!amongB B x)) ∧ Below w.heap.size w w' := by
  have HC := hide (contains_any a p B x w hl hrow)
  clear hrow
  generalize amongB B x = r at *
  go_enter Try.func156, Try.ntmps156
  go_wp2_with fail
  refine HC.out.mono ?_
  rintro e w' ⟨rfl, rfl⟩
  go_wp2
  go_ret
  exact ⟨rfl, Below.refl _ _⟩
set_option maxRecDepth 20000 in
set_option maxHeartbeats 800000 in
theorem ixNb_any (a a2 : Option Addr) (p p2 : Nat) (B S : List ByteArray) (b : Nat) (w : World) (hl : B.length ≤ maxLen) (hl2 : S.length ≤ maxLen) (hB : strOf w a B) (hS : strOf w a2 S) (hc : w.cell? ⟨b, 2, none⟩ = some (.slice a B.length p)) :
    Calls Try.prog 204 #[.slice a2 S.length p2, .func (.func 156) #[] #[.pointer (some ⟨b, 0, none⟩)]] w fun e w' => ∃ r : Int, e = .returned (.int .i64 r) ∧ ((bornB B S = true ∧ r = -1) ∨ (bornB B S = false ∧ 0 ≤ r)) ∧ Below w.heap.size w w' := by
  have HX := hide hS
  have HC : Hid (∀ (x : ByteArray) (wx : World), Below w.heap.size w wx → Calls Try.prog 156 #[.string x, .pointer (some ⟨b, 0, none⟩)] wx fun e w' => e = .returned (.bool (!amongB B x)) ∧ Below wx.heap.size wx w') := fun x wx hb => nbClo_any a p B x b wx hl (hB.below hb) ((hb.cell (p := ⟨b, 2, none⟩) (World.block_lt_of_cell? _ _ hc)).trans hc)
  unfold maxLen at hl2
  clear hB hS hc
  go_enter Try.func204, Try.ntmps204
  go_wp2
  go_loopw [8] (fun i wr => ∃ (q : Nat), q ≤ S.length ∧ i = .int .i64 q ∧ Hid (∀ j, j < q → amongB B (ssAt S j) = true) ∧ Hid (Below w.heap.size w wr)) (fun i _ => S.length - (intOf i).toNat)
  case atStart => exact ⟨0, Nat.zero_le _, rfl, (fun j h => by omega), Below.refl _ _⟩
  case round =>
    obtain ⟨q, hq, rfl, Ho, Hb⟩ := hrel
    by_cases hlt : q < S.length
    · obtain ⟨bb, off, rfl, hat⟩ := (HX.out.below Hb.out) (by omega)
      have c0 := strAt_cells hat q hlt
      have HCx := hide (HC.out (ssAt S q) wr Hb.out)
      have Hy : Hid (amongB B (ssAt S q) = false → bornB B S = false) := fun h => bornB_bad hlt h
      have Hn : Hid (amongB B (ssAt S q) = true → ∀ j, j < q + 1 → amongB B (ssAt S j) = true) := fun h j hjq => by
        by_cases e : j = q
        · subst e; exact h
        · exact Ho.out j (by omega)
      clear Ho hat HC
      generalize amongB B (ssAt S q) = r at *
      generalize ssAt S q = K at *
      cases r with
      | false =>
        have HN := hide (Hy.out (by first | rfl | trivial))
        clear Hy Hn
        go_wp2_with fail
        refine HCx.out.mono ?_
        rintro e w1 ⟨rfl, hb1⟩
        go_wp2
        go_ret
        exact ⟨_, rfl, .inr ⟨HN.out, by omega⟩, Hb.out.trans (hb1.mono Hb.out.size)⟩
      | true =>
        have HN := hide (Hn.out (by first | rfl | trivial))
        clear Hy Hn
        go_wp2_with fail
        refine HCx.out.mono ?_
        rintro e w1 ⟨rfl, hb1⟩
        go_wp2
        go_roundw
        case rel => exact ⟨q + 1, by omega, by go_num, HN, Hb.out.trans (hb1.mono Hb.out.size)⟩
        case measure => simp [intOf]; omega
    · have e : q = S.length := by omega
      subst e
      have HN := hide (bornB_end Ho.out)
      clear Ho HX HC
      go_wp2
      go_ret
      exact ⟨_, rfl, .inl ⟨HN.out, rfl⟩, Hb.out⟩
set_option maxHeartbeats 800000 in
theorem cfNb_any (a a2 : Option Addr) (p p2 : Nat) (B S : List ByteArray) (b : Nat) (w : World) (hl : B.length ≤ maxLen) (hl2 : S.length ≤ maxLen) (hB : strOf w a B) (hS : strOf w a2 S) (hc : w.cell? ⟨b, 2, none⟩ = some (.slice a B.length p)) :
    Calls Try.prog 155 #[.slice a2 S.length p2, .func (.func 156) #[] #[.pointer (some ⟨b, 0, none⟩)]] w fun e w' => e = .returned (.bool (!bornB B S)) ∧ Below w.heap.size w w' := by
  have HC := hide (ixNb_any a a2 p p2 B S b w hl hl2 hB hS hc)
  clear hB hS hc
  go_enter Try.func155, Try.ntmps155
  go_wp2_with fail
  refine HC.out.mono ?_
  rintro e w1 ⟨r, rfl, ⟨hr, rfl⟩ | ⟨hr, h0⟩, hb⟩
  · have HN := hide hr
    clear hr
    go_wp2
    go_ret
    exact ⟨ret_bool (by rw [HN.out]; rfl), hb⟩
  · have HN := hide hr
    clear hr
    go_wp2
    go_ret
    exact ⟨ret_bool (by rw [HN.out]; first | (simp; done) | (simp; omega)), hb⟩
/-- the cells of a match: a want's, then an island's -/
def maC (z : Int) (a1 a2 a3 b1 b2 : Option Addr) (p1 p2 p3 r1 r2 : Nat) (T : List TD) (B : List ByteArray) (L : List WgD) (s : ByteArray) (G : List (ByteArray × ByteArray)) (S : List ByteArray) (y : Int) : List Value :=
  [.int .i64 z, .slice a1 T.length p1, .slice a2 B.length p2, .slice a3 L.length p3, .string s, .slice b1 G.length r1, .slice b2 S.length r2, .int .i64 y]
set_option maxHeartbeats 800000 in
theorem notRight_any (z : Int) (a1 a2 a3 b1 b2 : Option Addr) (p1 p2 p3 r1 r2 : Nat) (T : List TD) (B : List ByteArray) (L : List WgD) (s : ByteArray) (G : List (ByteArray × ByteArray)) (S : List ByteArray) (y : Int) (w : World)
    (hq : okWa (z, T, B, L)) (hq' : okIs1 (s, G, S, y)) (hW : waC w (z, T, B, L) (.slice a1 T.length p1) (.slice a2 B.length p2) (.slice a3 L.length p3)) (hI : isC w (s, G, S, y) (.slice b1 G.length r1) (.slice b2 S.length r2)) :
    Calls Try.prog 81 #[.agg #[.int .i64 z, .slice a1 T.length p1, .slice a2 B.length p2, .slice a3 L.length p3, .string s, .slice b1 G.length r1, .slice b2 S.length r2, .int .i64 y]] w fun e w' => e = .returned (.bool (!(wanB (z, T, B, L) && islB (s, G, S, y)))) ∧ Below w.heap.size w w' := by
  have HC0 : Hid (∀ wx, Below w.heap.size w wx → Calls Try.prog 19 #[.agg #[.int .i64 z, .slice a1 T.length p1, .slice a2 B.length p2, .slice a3 L.length p3]] wx fun e w' => e = .returned (.bool (wanB (z, T, B, L))) ∧ Below wx.heap.size wx w') := fun wx hb => iWantOk_any (z, T, B, L) [.int .i64 z, .slice a1 T.length p1, .slice a2 B.length p2, .slice a3 L.length p3] wx hq ⟨_, _, _, rfl, hW.below hb⟩
  have HC1 : Hid (∀ wx, Below w.heap.size w wx → Calls Try.prog 39 #[.agg #[.string s, .slice b1 G.length r1, .slice b2 S.length r2, .int .i64 y]] wx fun e w' => e = .returned (.bool (islB (s, G, S, y))) ∧ Below wx.heap.size wx w') := fun wx hb => iIslandOk_any (s, G, S, y) [.string s, .slice b1 G.length r1, .slice b2 S.length r2, .int .i64 y] wx hq' ⟨_, _, rfl, hI.below hb⟩
  have OX : Hid (objU (w.alloc (.cells #[.int .i64 z, .slice a1 T.length p1, .slice a2 B.length p2, .slice a3 L.length p3, .string s, .slice b1 G.length r1, .slice b2 S.length r2, .int .i64 y] 126)) w.heap.size 126 [.int .i64 z, .slice a1 T.length p1, .slice a2 B.length p2, .slice a3 L.length p3, .string s, .slice b1 G.length r1, .slice b2 S.length r2, .int .i64 y]) := objU.new _ _ _
  have BX : Hid (Below w.heap.size w (w.alloc (.cells #[.int .i64 z, .slice a1 T.length p1, .slice a2 B.length p2, .slice a3 L.length p3, .string s, .slice b1 G.length r1, .slice b2 S.length r2, .int .i64 y] 126))) := (Below.refl _ _).alloc (Nat.le_refl _) _
  clear hq hq' hW hI
  generalize wanB (z, T, B, L) = q0 at *
  generalize islB (s, G, S, y) = q1 at *
  go_enter Try.func81, Try.ntmps81
  have x0 := OX.out.cell 0 _ rfl
  have x1 := OX.out.cell 1 _ rfl
  have x2 := OX.out.cell 2 _ rfl
  have x3 := OX.out.cell 3 _ rfl
  go_wp2_with fail
  refine (HC0.out _ BX.out).mono ?_
  rintro e w1 ⟨rfl, hb1⟩
  have OX1 := hide (OX.out.below hb1)
  have BX1 : Hid (Below w.heap.size w w1) := BX.out.trans (hb1.mono BX.out.size)
  clear OX BX hb1 x0 x1 x2 x3
  cases q0 with
  | false =>
    clear OX1
    go_wp2
    go_ret
    exact ⟨rfl, BX1.out⟩
  | true =>
    have x4 := OX1.out.cell 4 _ rfl
    have x5 := OX1.out.cell 5 _ rfl
    have x6 := OX1.out.cell 6 _ rfl
    have x7 := OX1.out.cell 7 _ rfl
    go_wp2_with fail
    refine (HC1.out _ BX1.out).mono ?_
    rintro e w2 ⟨rfl, hb2⟩
    have BX2 : Hid (Below w.heap.size w w2) := BX1.out.trans (hb2.mono BX1.out.size)
    clear OX1 BX1 hb2 x4 x5 x6 x7
    go_wp2
    go_ret
    exact ⟨ret_bool (by simp), BX2.out⟩
set_option maxHeartbeats 800000 in
theorem notMeant_any (z : Int) (a1 a2 a3 b1 b2 : Option Addr) (p1 p2 p3 r1 r2 : Nat) (T : List TD) (B : List ByteArray) (L : List WgD) (s : ByteArray) (G : List (ByteArray × ByteArray)) (S : List ByteArray) (y : Int) (w : World)
    (hq : okWa (z, T, B, L)) (hq' : okIs1 (s, G, S, y)) (hT : termsOf w a1 T) (hG : rowOf w b1 G) :
    Calls Try.prog 82 #[.agg #[.int .i64 z, .slice a1 T.length p1, .slice a2 B.length p2, .slice a3 L.length p3, .string s, .slice b1 G.length r1, .slice b2 S.length r2, .int .i64 y]] w fun e w' => e = .returned (.bool (!matchB T G)) ∧ Below w.heap.size w w' := by
  have HC0 : Hid (∀ wx, Below w.heap.size w wx → Calls Try.prog 41 #[.slice a1 T.length p1, .slice b1 G.length r1] wx fun e w' => e = .returned (.bool (matchB T G)) ∧ Below wx.heap.size wx w') := fun wx hb => imatches_any a1 p1 T b1 r1 G wx hq.2.1.1 (fun t ht => (hq.2.1.2 t ht).2.1) (hT.below hb) hq'.2.1.1 (rowOf_below hG hb)
  have OX : Hid (objU (w.alloc (.cells #[.int .i64 z, .slice a1 T.length p1, .slice a2 B.length p2, .slice a3 L.length p3, .string s, .slice b1 G.length r1, .slice b2 S.length r2, .int .i64 y] 126)) w.heap.size 126 [.int .i64 z, .slice a1 T.length p1, .slice a2 B.length p2, .slice a3 L.length p3, .string s, .slice b1 G.length r1, .slice b2 S.length r2, .int .i64 y]) := objU.new _ _ _
  have BX : Hid (Below w.heap.size w (w.alloc (.cells #[.int .i64 z, .slice a1 T.length p1, .slice a2 B.length p2, .slice a3 L.length p3, .string s, .slice b1 G.length r1, .slice b2 S.length r2, .int .i64 y] 126))) := (Below.refl _ _).alloc (Nat.le_refl _) _
  clear hq hq' hT hG
  generalize matchB T G = q0 at *
  go_enter Try.func82, Try.ntmps82
  have x1 := OX.out.cell 1 _ rfl
  have x5 := OX.out.cell 5 _ rfl
  go_wp2_with fail
  refine (HC0.out _ BX.out).mono ?_
  rintro e w1 ⟨rfl, hb1⟩
  have BX1 : Hid (Below w.heap.size w w1) := BX.out.trans (hb1.mono BX.out.size)
  clear OX BX hb1 x1 x5
  go_wp2
  go_ret
  exact ⟨rfl, BX1.out⟩
set_option maxHeartbeats 800000 in
theorem notBorne_any (z : Int) (a1 a2 a3 b1 b2 : Option Addr) (p1 p2 p3 r1 r2 : Nat) (T : List TD) (B : List ByteArray) (L : List WgD) (s : ByteArray) (G : List (ByteArray × ByteArray)) (S : List ByteArray) (y : Int) (w : World)
    (hq : okWa (z, T, B, L)) (hq' : okIs1 (s, G, S, y)) (hB : strOf w a2 B) (hS : strOf w b2 S) :
    Calls Try.prog 83 #[.agg #[.int .i64 z, .slice a1 T.length p1, .slice a2 B.length p2, .slice a3 L.length p3, .string s, .slice b1 G.length r1, .slice b2 S.length r2, .int .i64 y]] w fun e w' => e = .returned (.bool (!bornB B S)) ∧ Below w.heap.size w w' := by
  have OX : Hid (objU (w.alloc (.cells #[.int .i64 z, .slice a1 T.length p1, .slice a2 B.length p2, .slice a3 L.length p3, .string s, .slice b1 G.length r1, .slice b2 S.length r2, .int .i64 y] 126)) w.heap.size 126 [.int .i64 z, .slice a1 T.length p1, .slice a2 B.length p2, .slice a3 L.length p3, .string s, .slice b1 G.length r1, .slice b2 S.length r2, .int .i64 y]) := objU.new _ _ _
  have BX : Hid (Below w.heap.size w (w.alloc (.cells #[.int .i64 z, .slice a1 T.length p1, .slice a2 B.length p2, .slice a3 L.length p3, .string s, .slice b1 G.length r1, .slice b2 S.length r2, .int .i64 y] 126))) := (Below.refl _ _).alloc (Nat.le_refl _) _
  have HC0 : Hid (Calls Try.prog 155 #[.slice b2 S.length r2, .func (.func 156) #[] #[.pointer (some ⟨w.heap.size, 0, none⟩)]] (w.alloc (.cells #[.int .i64 z, .slice a1 T.length p1, .slice a2 B.length p2, .slice a3 L.length p3, .string s, .slice b1 G.length r1, .slice b2 S.length r2, .int .i64 y] 126)) fun e w' => e = .returned (.bool (!bornB B S)) ∧ Below (w.alloc (.cells #[.int .i64 z, .slice a1 T.length p1, .slice a2 B.length p2, .slice a3 L.length p3, .string s, .slice b1 G.length r1, .slice b2 S.length r2, .int .i64 y] 126)).heap.size (w.alloc (.cells #[.int .i64 z, .slice a1 T.length p1, .slice a2 B.length p2, .slice a3 L.length p3, .string s, .slice b1 G.length r1, .slice b2 S.length r2, .int .i64 y] 126)) w') :=
    cfNb_any a2 b2 p2 r2 B S w.heap.size _ hq.2.2.1.1 hq'.2.2.1.1 (hB.below BX.out) (hS.below BX.out) (OX.out.cell 2 _ rfl)
  clear hq hq' hB hS
  generalize bornB B S = q0 at *
  go_enter Try.func83, Try.ntmps83
  have x6 := OX.out.cell 6 _ rfl
  go_wp2_with fail
  refine HC0.out.mono ?_
  rintro e w1 ⟨rfl, hb1⟩
  have BX1 : Hid (Below w.heap.size w w1) := BX.out.trans (hb1.mono BX.out.size)
  clear OX BX hb1 x6
  go_wp2
  go_ret
  exact ⟨rfl, BX1.out⟩
end Go.Proofs.Ytdnodaoeflbfkaa
