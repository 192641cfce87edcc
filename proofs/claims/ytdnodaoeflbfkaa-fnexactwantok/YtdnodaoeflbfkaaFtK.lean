/- Right wants: the weights, by the program. -/
import Derived.Test.YtdnodaoeflbfkaaFtN
import Derived.Test.YtdnodaoeflbfkaaSelV
import Derived.Test.YtdnodaoeflbfkaaOwnB
import Derived.Test.YtdnodaoeflbfkaaU2
namespace Go.Proofs.Ytdnodaoeflbfkaa
open Go.RowKit Go.BigFrame
set_option linter.unusedVariables false

theorem wgsB_long {l : List WgD} (h : 12 < l.length) : wgsB l = false := by unfold wgsB; rw [decide_eq_false_iff_not]; omega
theorem wgsB_off {l : List WgD} {k : Nat} (hk : k < l.length) (h : inB (l[k]'hk).2 0 1000 = false) : wgsB l = false := by
  rw [Bool.eq_false_iff]
  intro g
  have := (wgsB_iff.1 g).2.1 _ (List.getElem_mem hk)
  rw [h] at this; cases this
theorem wgsB_names {l : List WgD} (hl : l.length ≤ 12) (h : ∀ j (hj : j < l.length), inB (l[j]'hj).2 0 1000 = true) : wgsB l = valsB (l.map Prod.fst) := by
  rw [Bool.eq_iff_iff, wgsB_iff]
  refine ⟨fun g => g.2.2, fun g => ⟨hl, fun x hx => ?_, g⟩⟩
  obtain ⟨i, hi, rfl⟩ := List.getElem_of_mem hx
  exact h i hi
def nmsL (l : List WgD) (k : Nat) : List ByteArray := (l.take k).map Prod.fst
theorem nmsL_succ {l : List WgD} {k : Nat} (hk : k < l.length) : strVs (nmsL l (k + 1)) = strVs (nmsL l k) ++ [.string (l[k]'hk).1] := by
  unfold nmsL strVs
  rw [List.take_add_one, List.getElem?_eq_getElem hk, List.map_append, List.map_append]
  rfl
theorem nmsL_all (l : List WgD) : nmsL l l.length = l.map Prod.fst := by unfold nmsL; rw [List.take_length]
def wgP (x : WgD) : Bool := inB x.2 0 1000
theorem all_badK {α : Type} {p : α → Bool} {l : List α} {k : Nat} (hk : k < l.length) (h : p (l[k]'hk) = false) : l.all p = false := by
  rw [Bool.eq_false_iff]
  intro g
  have := List.all_eq_true.1 g _ (List.getElem_mem hk)
  rw [h] at this; cases this
theorem all_endK {α : Type} {p : α → Bool} {l : List α} (h : ∀ j (hj : j < l.length), p (l[j]'hj) = true) : l.all p = true := by
  rw [List.all_eq_true]
  intro x hx
  obtain ⟨j, hj, rfl⟩ := List.getElem_of_mem hx
  exact h j hj
theorem wgsB_three (L : List WgD) : wgsB L = ((decide (L.length ≤ 12) && L.all wgP) && valsB (L.map Prod.fst)) := by
  rw [Bool.eq_iff_iff, wgsB_iff, Bool.and_eq_true, Bool.and_eq_true, decide_eq_true_eq, List.all_eq_true, and_assoc]
  rfl
theorem wgNum_any (I : WgD) (w : World) : Calls Try.prog 145 #[.agg #[.string I.1, .int .i64 I.2]] w fun e w' => e = .returned (.bool (wgP I)) ∧ Below w.heap.size w w' := by
  have HC : Hid (∀ wx, Calls Try.prog 71 #[.int .i64 I.2, .int .i64 1000] wx fun e w' => e = .returned (.bool (wgP I)) ∧ w' = wx) := fun wx => withinF_any I.2 1000 wx
  have OX : Hid (objU (w.alloc (.cells #[.string I.1, .int .i64 I.2] 110)) w.heap.size 110 [.string I.1, .int .i64 I.2]) := objU.new _ _ _
  have BX : Hid (Below w.heap.size w (w.alloc (.cells #[.string I.1, .int .i64 I.2] 110))) := (Below.refl _ _).alloc (Nat.le_refl _) _
  generalize wgP I = r at *
  go_enter Try.func145, Try.ntmps145
  have x1 := OX.out.cell 1 _ rfl
  go_wp2_with (go_at_call 71; refine (HC.out _).mono ?_; rintro e w' ⟨rfl, rfl⟩)
  go_ret
  exact ⟨rfl, BX.out⟩
theorem wgName_any (I : WgD) (w : World) : Calls Try.prog 148 #[.agg #[.string I.1, .int .i64 I.2]] w fun e w' => e = .returned (.string I.1) ∧ Below w.heap.size w w' := by
  have OX : Hid (objU (w.alloc (.cells #[.string I.1, .int .i64 I.2] 110)) w.heap.size 110 [.string I.1, .int .i64 I.2]) := objU.new _ _ _
  have BX : Hid (Below w.heap.size w (w.alloc (.cells #[.string I.1, .int .i64 I.2] 110))) := (Below.refl _ _).alloc (Nat.le_refl _) _
  go_enter Try.func148, Try.ntmps148
  have x0 := OX.out.cell 0 _ rfl
  go_wp2
  go_ret
  exact ⟨rfl, BX.out⟩
set_option maxHeartbeats 800000 in
theorem clWg_any (I : WgD) (b : Nat) (w : World) (hc : w.cell? ⟨b, 0, none⟩ = some (.func (.func 145) #[] #[])) :
    Calls Try.prog 203 #[.agg #[.string I.1, .int .i64 I.2], .pointer (some ⟨b, 0, none⟩)] w fun e w' => e = .returned (.bool (!wgP I)) ∧ Below w.heap.size w w' := by
  have HC0 : Hid (∀ wx, Calls Try.prog 145 #[.agg #[.string I.1, .int .i64 I.2]] wx fun e w' => e = .returned (.bool (wgP I)) ∧ Below wx.heap.size wx w') := fun wx => wgNum_any I wx
  have OX : Hid (objU (w.alloc (.cells #[.string I.1, .int .i64 I.2] 110)) w.heap.size 110 [.string I.1, .int .i64 I.2]) := objU.new _ _ _
  have BX : Hid (Below w.heap.size w (w.alloc (.cells #[.string I.1, .int .i64 I.2] 110))) := (Below.refl _ _).alloc (Nat.le_refl _) _
  have hbl := World.block_lt_of_cell? _ _ hc
  generalize wgP I = r at *
  go_enter Try.func203, Try.ntmps203
  have x0 := OX.out.cell 0 _ rfl
  have x1 := OX.out.cell 1 _ rfl
  have cc := (BX.out.cell (p := ⟨b, 0, none⟩) hbl).trans hc
  go_wp2_with fail
  refine (HC0.out _).mono ?_
  rintro e w1 ⟨rfl, hb1⟩
  have BX1 : Hid (Below w.heap.size w w1) := BX.out.trans (hb1.mono BX.out.size)
  clear OX BX hb1 x0 x1 cc
  go_wp2
  go_ret
  exact ⟨rfl, BX1.out⟩
set_option maxRecDepth 20000 in
set_option maxHeartbeats 800000 in
theorem ixWg_any (l : List WgD) (a : Option Addr) (cap b : Nat) (w : World) (hl : l.length ≤ maxLen) (hx : wgsOf w a l) (hc : w.cell? ⟨b, 0, none⟩ = some (.func (.func 145) #[] #[])) :
    Calls Try.prog 232 #[.slice a l.length cap, .func (.func 203) #[] #[.pointer (some ⟨b, 0, none⟩)]] w fun e w' => ∃ r : Int, e = .returned (.int .i64 r) ∧ ((l.all wgP = true ∧ r = -1) ∨ (l.all wgP = false ∧ 0 ≤ r)) ∧ Below w.heap.size w w' := by
  have HX := hide hx
  have HC : Hid (∀ (I : WgD) (wx : World), Below w.heap.size w wx → Calls Try.prog 203 #[.agg #[.string I.1, .int .i64 I.2], .pointer (some ⟨b, 0, none⟩)] wx fun e w' => e = .returned (.bool (!wgP I)) ∧ Below wx.heap.size wx w') := fun I wx hb => clWg_any I b wx ((hb.cell (p := ⟨b, 0, none⟩) (World.block_lt_of_cell? _ _ hc)).trans hc)
  unfold maxLen at hl
  clear hx hc
  go_enter Try.func232, Try.ntmps232
  go_wp2
  go_loopw [8] (fun i wr => ∃ (q : Nat), q ≤ l.length ∧ i = .int .i64 q ∧ Hid (∀ j (hj : j < l.length), j < q → wgP (l[j]'hj) = true) ∧ Hid (Below w.heap.size w wr)) (fun i _ => l.length - (intOf i).toNat)
  case atStart => exact ⟨0, Nat.zero_le _, rfl, (fun j _ h => by omega), Below.refl _ _⟩
  case round =>
    obtain ⟨q, hq, rfl, Ho, Hb⟩ := hrel
    by_cases hlt : q < l.length
    · obtain ⟨bb, off, rfl, hat⟩ := HX.out.below Hb.out (by omega)
      obtain ⟨c0, c1⟩ := hat q hlt
      have HCx := hide (HC.out (l[q]'hlt) wr Hb.out)
      have Hy : Hid (wgP (l[q]'hlt) = false → l.all wgP = false) := fun h => all_badK hlt h
      have Hn : Hid (wgP (l[q]'hlt) = true → ∀ j (hj : j < l.length), j < q + 1 → wgP (l[j]'hj) = true) := fun h j hj hjq => by
        by_cases e : j = q
        · subst e; exact h
        · exact Ho.out j hj (by omega)
      clear Ho hat HC
      generalize wgP (l[q]'hlt) = r at *
      generalize (l[q]'hlt).1 = z0 at *
      generalize (l[q]'hlt).2 = z1 at *
      cases r with
      | false =>
        have HN := hide (Hy.out (by first | rfl | trivial))
        clear Hy Hn
        go_wp2_with fail
        refine HCx.out.mono ?_
        rintro e w1 ⟨rfl, hb1⟩
        go_wp2
        go_ret
        exact ⟨_, rfl, .inr ⟨HN.out, by omega⟩, Hb.out.trans (hb1.mono Hb.out.size)⟩
      | true =>
        have HN := hide (Hn.out (by first | rfl | trivial))
        clear Hy Hn
        go_wp2_with fail
        refine HCx.out.mono ?_
        rintro e w1 ⟨rfl, hb1⟩
        go_wp2
        go_roundw
        case rel => exact ⟨q + 1, by omega, by go_num, HN, Hb.out.trans (hb1.mono Hb.out.size)⟩
        case measure => simp [intOf]; omega
    · have e : q = l.length := by omega
      subst e
      have HN := hide (all_endK (p := wgP) (fun j hj => Ho.out j hj hj))
      clear Ho HX HC
      go_wp2
      go_ret
      exact ⟨_, rfl, .inl ⟨HN.out, rfl⟩, Hb.out⟩
set_option maxHeartbeats 800000 in
theorem cfWg_any (l : List WgD) (a : Option Addr) (cap b : Nat) (w : World) (hl : l.length ≤ maxLen) (hx : wgsOf w a l) (hc : w.cell? ⟨b, 0, none⟩ = some (.func (.func 145) #[] #[])) :
    Calls Try.prog 202 #[.slice a l.length cap, .func (.func 203) #[] #[.pointer (some ⟨b, 0, none⟩)]] w fun e w' => e = .returned (.bool (!l.all wgP)) ∧ Below w.heap.size w w' := by
  have HC := hide (ixWg_any l a cap b w hl hx hc)
  clear hx hc
  go_enter Try.func202, Try.ntmps202
  go_wp2_with fail
  refine HC.out.mono ?_
  rintro e w1 ⟨r, rfl, ⟨hr, rfl⟩ | ⟨hr, h0⟩, hb⟩
  · have HN := hide hr
    clear hr
    go_wp2
    go_ret
    exact ⟨ret_bool (by rw [HN.out]; rfl), hb⟩
  · have HN := hide hr
    clear hr
    go_wp2
    go_ret
    exact ⟨ret_bool (by rw [HN.out]; first | (simp; done) | (simp; omega)), hb⟩
set_option maxHeartbeats 800000 in
theorem allOkWg_any (l : List WgD) (a : Option Addr) (cap : Nat) (m : Nat) (w : World) (hl : l.length ≤ maxLen) (hx : wgsOf w a l) :
    Calls Try.prog 146 #[.slice a l.length cap, .int .i64 (m : Int), .func (.func 145) #[] #[]] w fun e w' => e = .returned (.bool (decide (l.length ≤ m) && l.all wgP)) ∧ Below w.heap.size w w' := by
  have OX : Hid (objU (w.alloc (.cells #[.func (.func 145) #[] #[]] 202)) w.heap.size 202 [.func (.func 145) #[] #[]]) := objU.new _ _ _
  have BX : Hid (Below w.heap.size w (w.alloc (.cells #[.func (.func 145) #[] #[]] 202))) := (Below.refl _ _).alloc (Nat.le_refl _) _
  have HC := hide (cfWg_any l a cap w.heap.size _ hl (hx.below BX.out) (OX.out.cell 0 _ rfl))
  unfold maxLen at hl
  go_enter Try.func146, Try.ntmps146
  by_cases h4 : l.length ≤ m
  · have h4' : (l.length : Int) ≤ (m : Int) := by omega
    rw [decide_eq_true h4, Bool.true_and]
    clear h4
    generalize l.all wgP = r at *
    go_wp2_with fail
    refine HC.out.mono ?_
    rintro e w1 ⟨rfl, hb1⟩
    have BX1 : Hid (Below w.heap.size w w1) := BX.out.trans (hb1.mono BX.out.size)
    clear hb1 OX BX
    go_wp2
    go_ret
    exact ⟨ret_bool (by simp), BX1.out⟩
  · have h4' : ¬ (l.length : Int) ≤ (m : Int) := by omega
    rw [decide_eq_false h4, Bool.false_and]
    clear h4 HC
    go_wp2
    go_ret
    exact ⟨rfl, BX.out⟩
set_option maxRecDepth 100000 in
set_option maxHeartbeats 800000 in
theorem ascByWg_any (a : Option Addr) (cap : Nat) (L : List WgD) (w : World) (hl : L.length ≤ 1048576) (hrow : wgsOf w a L) :
    Calls Try.prog 147 #[.slice a L.length cap, .func (.func 148) #[] #[]] w fun e w' => e = .returned (.bool (valsB (L.map Prod.fst))) ∧ Below w.heap.size w w' := by
  obtain ⟨i0, hi, hz0, hz1, hz2⟩ := info_parts Try.infoStr
  have Hr := hide hrow
  clear hrow
  go_enter Try.func147, Try.ntmps147
  go_wp2
  go_loopw [5, 11] (fun s i wr => ∃ (k : Nat), k ≤ L.length ∧ i = .int .i64 k ∧ Hid (s ≠ .slice none 0 0) ∧ Hid (wr.ownsRow w.heap.size 9 1 s k (strVs (nmsL L k))) ∧ Below w.heap.size w wr) (fun _ i _ => L.length - (intOf i).toNat)
  case atStart => exact ⟨0, Nat.zero_le _, rfl, (fun h => by cases h), World.ownsRow_lit w #[] 0 (Nat.le_refl _) (by decide) rfl, (Below.refl _ _).alloc (Nat.le_refl _) _⟩
  case round =>
    obtain ⟨k, hk, rfl, Hnn, How, hbw⟩ := hrel
    by_cases hlt : k < L.length
    · obtain ⟨b, off, rfl, hat⟩ := (Hr.out.below hbw) (by omega)
      have c0 := (hat k hlt).1
      have c1 := (hat k hlt).2
      have Hsu := hide (nmsL_succ hlt)
      clear hat
      generalize L[k]'hlt = X at *
      obtain ⟨K, N⟩ := X
      dsimp only at *
      have HC : Hid (∀ wx, Calls Try.prog 148 #[.agg #[.string K, .int .i64 N]] wx fun e w' => e = .returned (.string K) ∧ Below wx.heap.size wx w') := fun wx => wgName_any (K, N) wx
      have hbw1 : Below w.heap.size w (wr.alloc (.cells #[.string K, .int .i64 N] 110)) := hbw.alloc hbw.size _
      have How1 := hide (How.out.alloc (.cells #[.string K, .int .i64 N] 110))
      go_wp2_with fail
      refine (HC.out _).mono ?_
      rintro e w2 ⟨rfl, hb2⟩
      have How2 := hide (owns_below_any How1.out hb2)
      have hbw2 := hbw1.trans (hb2.mono hbw1.size)
      clear HC hbw hbw1 hb2 How1 c0 c1
      go_wp2_with (at_builtin; refine wpList_append_own _ rfl _ _ 25 rfl w.heap.size 9 i0 _ 1 16 Try.underlying25 hi hz0 hz1 hz2 rfl (by decide) _ _ _ rfl (How2.out.alloc _) ⟨w2.heap.size, 0, none⟩ 1 1 [.string K] rfl rfl (cell_one_at1 _ _ rfl _ _) (fun x hx => by simp at hx; rcases hx with rfl; rfl) (by unfold maxLen; omega) (by omega) (by have := hbw2.size; simp; omega) ?_; intro v' w3 hown' hgrow3 hnil3)
      go_roundw
      case rel => exact ⟨k + 1, by omega, by go_num, (fun h => Hnn.out (hnil3.1 h).1), by rw [Hsu.out]; exact hown', Below.grown (hbw2.alloc hbw2.size _) hgrow3 (by have := hbw2.size; simp; omega) (fun j hj => (How.out.lt _ hj).1)⟩
      case measure => simp [intOf]; omega
    · have e : k = L.length := by omega
      subst e
      have Hf : Hid (∃ g cap, u5 = Value.slice (some ⟨g, 0, none⟩) L.length cap) := by
        rcases How.out.2 with ⟨h, _⟩ | ⟨g, cap, cur, h, _⟩
        · exact absurd h Hnn.out
        · exact ⟨g, cap, h⟩
      obtain ⟨g, cp, hv⟩ := Hf.out
      subst hv
      have HC := hide (iasc_any (some ⟨g, 0, none⟩) cp (L.map Prod.fst) wr (by unfold maxLen; simp; omega) (strOf_owns (by rw [← nmsL_all]; exact How.out)))
      rw [List.length_map] at HC
      clear Hr How Hnn Hf
      go_wp2_with fail
      refine HC.out.mono ?_
      rintro e w1 ⟨rfl, hb1⟩
      go_wp2
      go_ret
      exact ⟨rfl, hbw.trans (hb1.mono hbw.size)⟩
set_option maxHeartbeats 800000 in
theorem weighsOk_any (a : Option Addr) (cap : Nat) (L : List WgD) (w : World) (hl : L.length ≤ maxLen) (hz : okWgs L) (hrow : wgsOf w a L) :
    Calls Try.prog 73 #[.slice a L.length cap] w fun e w' => e = .returned (.bool (wgsB L)) ∧ Below w.heap.size w w' := by
  have E := hide (wgsB_three L)
  have HA : Hid (Calls Try.prog 146 #[.slice a L.length cap, .int .i64 12, .func (.func 145) #[] #[]] w fun e w' => e = .returned (.bool (decide (L.length ≤ 12) && L.all wgP)) ∧ Below w.heap.size w w') := allOkWg_any L a cap 12 w hl hrow
  have HB : Hid (L.length ≤ 12 → ∀ wx, Below w.heap.size w wx → Calls Try.prog 147 #[.slice a L.length cap, .func (.func 148) #[] #[]] wx fun e w' => e = .returned (.bool (valsB (L.map Prod.fst))) ∧ Below wx.heap.size wx w') := fun h wx hb => ascByWg_any a cap L wx (by omega) (hrow.below hb)
  have H12 : Hid ((decide (L.length ≤ 12) && L.all wgP) = true → L.length ≤ 12) := fun h => by
    rw [Bool.and_eq_true, decide_eq_true_eq] at h
    exact h.1
  clear hl hz hrow
  generalize (decide (L.length ≤ 12) && L.all wgP) = b0 at *
  go_enter Try.func73, Try.ntmps73
  go_wp2_with fail
  refine HA.out.mono ?_
  rintro e w1 ⟨rfl, hb1⟩
  have HB1 := hide hb1
  clear hb1 HA
  cases b0 with
  | false =>
    clear HB H12
    go_wp2
    go_ret
    exact ⟨ret_bool E.out.symm, HB1.out⟩
  | true =>
    have HC := hide (HB.out (H12.out rfl) w1 HB1.out)
    clear HB H12
    generalize valsB (L.map Prod.fst) = b1 at *
    go_wp2_with fail
    refine HC.out.mono ?_
    rintro e w2 ⟨rfl, hb2⟩
    go_wp2
    go_ret
    exact ⟨ret_bool (by rw [E.out]; simp), HB1.out.trans (hb2.mono HB1.out.size)⟩
end Go.Proofs.Ytdnodaoeflbfkaa
