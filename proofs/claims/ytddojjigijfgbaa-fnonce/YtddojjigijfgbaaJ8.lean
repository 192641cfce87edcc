/- Texts of one claim, joined: each in its own section, in build order. -/
import Derived.Test.YtddojjigijfgbaaJ7
import Derived.Deep.Cut
import Derived.Deep.CutRange
import Derived.Test.YtddojjigijfgbaaJ5
import Derived.Test.YtddojjigijfgbaaJ3
import Derived.Test.YtddojjigijfgbaaJ4
/- Queues that are drawn, bent or full: spec.l9DrawAny, spec.DrawPut. -/
namespace Go.Proofs.Ytddojjigijfgbaa
open Go.RowKit Go.BigFrame
set_option linter.unusedVariables false
set_option linter.unusedSimpArgs false

theorem conv_three (w : World) (x y z : Int) : (convert 22 9 (.slice (some ⟨w.heap.size, 0, none⟩) 3 3)).run Try.prog (w.alloc (.cells #[.int .u8 x, .int .u8 y, .int .u8 z] 5)) =
    .ok (.string ([x, y, z].foldl (fun r n => r.push (UInt8.ofNat n.toNat)) ByteArray.empty)) (w.alloc (.cells #[.int .u8 x, .int .u8 y, .int .u8 z] 5)) := by
  rw [run_convert_bytes_string _ _ _ _ _ _ _ Try.underlying22 Try.underlying5 Try.underlying9, run_bytesToString _ _ 3 3 [x, y, z]]
  simp [loadCells, go_sem]
theorem three_size (x y z : Int) : ([x, y, z].foldl (fun r n => r.push (UInt8.ofNat n.toNat)) ByteArray.empty).size = 3 := rfl
/-- a drawn queue: few items, or all of them of another size than what is put -/
def wkQ (Q : Qu) : Prop := okQ Q ∧ (Q.I.length ≤ 58 ∨ (Q.I.length = 60 ∧ Q.D = [] ∧ ∀ x ∈ Q.I, x.1.size = 3))
/-- what is known while a queue is drawn: its box at b, the block of the answer at N = w.heap.size -/
structure DA (w : World) (d n cap : Nat) (a : Option Addr) (b : Nat) (Q : Qu) (vI vD vA : Value) (wn : World) : Prop where
  cur : CurIn wn d a n cap
  out : Out d (d + 1) w wn
  oz : objU wn w.heap.size 27 [.slice none 0 0, .slice none 0 0, .slice none 0 0, .int .i64 0]
  q : QB wn b (w.heap.size + 1) Q vI vD vA
  bl : w.heap.size < b
theorem DA.outd {w wn wm : World} {d n cap b : Nat} {a : Option Addr} {Q : Qu} {vI vD vA : Value} (h : DA w d n cap a b Q vI vD vA wn) (hd : d < w.heap.size) (ho : Out d (d + 1) wn wm) (hc : CurIn wm d a n cap) : DA w d n cap a b Q vI vD vA wm :=
  ⟨hc, h.out.trans ho, h.oz.outS (outS_of_out ho) (by simp; omega), h.q.curs ho (by have := h.bl; omega) (by omega), h.bl⟩
theorem QB.monoB {w : World} {b base base' : Nat} {Q : Qu} {vI vD vA : Value} (h : QB w b base Q vI vD vA) (hb : base' ≤ base) : QB w b base' Q vI vD vA := ⟨h.o, h.q.mono hb, h.ni, h.nd, h.na⟩
/-- the answer of a call is laid into the box -/
theorem DA.put {w wn wm : World} {d n cap b : Nat} {a : Option Addr} {Q Q' : Qu} {vI vD vA vI' vD' vA' : Value} (h : DA w d n cap a b Q vI vD vA wn) (hd : d < w.heap.size) (hall : ∀ j, j < n → ∀ b off, a = some ⟨b, off, none⟩ → b < w.heap.size) (ho : Out d (d + 1) wn wm) (hc : CurIn wm d a n cap) (hq : ownQ wm wn.heap.size Q' vI' vD' vA') :
    DA w d n cap a b Q' vI' vD' vA' (stQ wm b vI' vD' vA' Q'.now) := by
  have h' := h.outd hd ho hc
  have hbl := h.bl
  have hbw := h.q.lt
  have hos := stQ_out wm b vI' vD' vA' Q'.now
  refine ⟨h'.cur.far hos (B := w.heap.size) hd hall (by simp; omega), h'.out.outS hos (by simp; omega), h'.oz.outS hos (by simp; omega), (QB.ret0 (base := b + 1) h'.q.o (Nat.lt_succ_self _) (show b + 1 ≤ wn.heap.size by omega) hbw hq).monoB (by omega), hbl⟩
/-- what is got into the row of a full queue -/
theorem DA.app {w X w3 : World} {d n cap b : Nat} {a : Option Addr} {I : List It} {now : Int} {vI vD vA v' : Value} {x : It} (h : DA w d n cap a b ⟨I, [], [], now⟩ vI vD vA X) (hd : d < w.heap.size) (hall : ∀ j, j < n → ∀ b off, a = some ⟨b, off, none⟩ → b < w.heap.size) (ho : ownR w3 (w.heap.size + 1) 36 3 v' ((I ++ [x]).map encI)) (hg : X.grownBy w3 vI.ownBlock) (hat : v'.ownBlock = vI.ownBlock ∨ v'.ownBlock = some X.heap.size) :
    DA w d n cap a b ⟨I ++ [x], [], [], now⟩ v' vD vA (w3.setCell ⟨b, 0, none⟩ v') := by
  have hbl := h.bl
  have hos := grown_outS hg
  have hr := h.q.q.i.lt
  have hos2 : OutS [b] w3 (w3.setCell ⟨b, 0, none⟩ v') := (OutS.refl _ _).setCell (p := ⟨b, 0, none⟩) (by simp) _
  exact ⟨(h.cur.far hos (B := w.heap.size) hd hall (fun t ht => by have := (hr t ht).1; omega)).far hos2 (B := w.heap.size) hd hall (by simp; omega), (h.out.outS hos (fun t ht => by have := (hr t ht).1; omega)).outS hos2 (by simp; omega), (h.oz.outS hos (fun hh => by have := (hr _ hh).1; omega)).outS hos2 (by simp; omega), h.q.appI ho hg hat, hbl⟩
theorem DA.below {w wn wm : World} {d n cap b : Nat} {a : Option Addr} {Q : Qu} {vI vD vA : Value} (h : DA w d n cap a b Q vI vD vA wn) (hb : Below wn.heap.size wn wm) : DA w d n cap a b Q vI vD vA wm := ⟨h.cur.later hb, h.out.trans (Out.of_below hb), h.oz.below hb, h.q.below hb, h.bl⟩
theorem inK0 : inK .i64 0 := by unfold inK; decide
/-- a list of the box is made anew, empty -/
theorem alloc_grown (X : World) (o : Obj) (r : Option Nat) : X.grownBy (X.alloc o) r := ⟨rfl, rfl, rfl, by simp, fun k hk _ => Below.block (below_alloc X o) k hk⟩
theorem DA.cleared {w X : World} {d n cap b j : Nat} {a : Option Addr} {Q Q' : Qu} {vI vD vA vI' vD' vA' v : Value} {e : TypeId} (h : DA w d n cap a b Q vI vD vA X) (hd : d < w.heap.size) (hall : ∀ j, j < n → ∀ b off, a = some ⟨b, off, none⟩ → b < w.heap.size)
    (hq : QB ((X.alloc (.cells #[] e)).setCell ⟨b, j, none⟩ v) b (w.heap.size + 1) Q' vI' vD' vA') : DA w d n cap a b Q' vI' vD' vA' ((X.alloc (.cells #[] e)).setCell ⟨b, j, none⟩ v) := by
  have hbl := h.bl
  have hos : OutS [b] (X.alloc (.cells #[] e)) ((X.alloc (.cells #[] e)).setCell ⟨b, j, none⟩ v) := (OutS.refl _ _).setCell (p := ⟨b, j, none⟩) (by simp) _
  have h' := h.below (below_alloc X (.cells #[] e))
  exact ⟨h'.cur.far hos (B := w.heap.size) hd hall (by simp; omega), h'.out.outS hos (by simp; omega), h'.oz.outS hos (by simp; omega), hq, hbl⟩
theorem DA.clearI {w X : World} {d n cap b : Nat} {a : Option Addr} {Q : Qu} {vI vD vA : Value} (h : DA w d n cap a b Q vI vD vA X) (hd : d < w.heap.size) (hall : ∀ j, j < n → ∀ b off, a = some ⟨b, off, none⟩ → b < w.heap.size) :
    DA w d n cap a b { Q with I := [] } (.slice (some ⟨X.heap.size, 0, none⟩) 0 0) vD vA ((X.alloc (.cells #[] 36)).setCell ⟨b, 0, none⟩ (.slice (some ⟨X.heap.size, 0, none⟩) 0 0)) :=
  h.cleared hd hall (h.q.appI (L := []) (ownR.lit X _ _ 3 (by have := h.q.lt; have := h.bl; omega)) (alloc_grown _ _ _) (.inr rfl))
theorem DA.clearD {w X : World} {d n cap b : Nat} {a : Option Addr} {Q : Qu} {vI vD vA : Value} (h : DA w d n cap a b Q vI vD vA X) (hd : d < w.heap.size) (hall : ∀ j, j < n → ∀ b off, a = some ⟨b, off, none⟩ → b < w.heap.size) :
    DA w d n cap a b { Q with D := [] } vI (.slice (some ⟨X.heap.size, 0, none⟩) 0 0) vA ((X.alloc (.cells #[] 36)).setCell ⟨b, 1, none⟩ (.slice (some ⟨X.heap.size, 0, none⟩) 0 0)) :=
  h.cleared hd hall (h.q.appD (L := []) (ownR.lit X _ _ 3 (by have := h.q.lt; have := h.bl; omega)) (alloc_grown _ _ _) (.inr rfl))
theorem DA.clearA {w X : World} {d n cap b : Nat} {a : Option Addr} {Q : Qu} {vI vD vA : Value} (h : DA w d n cap a b Q vI vD vA X) (hd : d < w.heap.size) (hall : ∀ j, j < n → ∀ b off, a = some ⟨b, off, none⟩ → b < w.heap.size) :
    DA w d n cap a b { Q with A := [] } vI vD (.slice (some ⟨X.heap.size, 0, none⟩) 0 0) ((X.alloc (.cells #[] 9)).setCell ⟨b, 2, none⟩ (.slice (some ⟨X.heap.size, 0, none⟩) 0 0)) :=
  h.cleared hd hall (h.q.appA (L := []) (ownR.lit X _ _ 1 (by have := h.q.lt; have := h.bl; omega)) (alloc_grown _ _ _) (.inr rfl))
def drawnA (w : World) (d n cap : Nat) (a : Option Addr) (e : Ending) (w' : World) : Prop := ∃ (Q' : Qu) (vI vD vA : Value), e = .returned (.agg #[vI, vD, vA, .int .i64 Q'.now]) ∧ Hid (wkQ Q') ∧ Hid (ownQ w' w.heap.size Q' vI vD vA) ∧ Hid (CurIn w' d a n cap) ∧ Out d (d + 1) w w'
set_option maxRecDepth 20000 in
set_option maxHeartbeats 3200000 in
theorem l9DrawAny_any (d n cap m : Nat) (a : Option Addr) (w : World) (hn : n ≤ 1048576) (hm0 : 0 < m) (hm : m ≤ 40) (hc : CurIn w d a n cap) :
    Calls Try.prog 13 #[.pointer (some ⟨d, 0, none⟩), .int .i64 m] w (drawnA w d n cap a) := by
  have Hd := hide hc.lt
  have HCL := hide hc.codeLt
  have OZ0 : Hid (objU (w.alloc (.cells #[.slice none 0 0, .slice none 0 0, .slice none 0 0, .int .i64 0] 27)) w.heap.size 27 [.slice none 0 0, .slice none 0 0, .slice none 0 0, .int .i64 0]) := objU.new _ _ _
  have HC0 := hide (hc.later (below_alloc w (.cells #[.slice none 0 0, .slice none 0 0, .slice none 0 0, .int .i64 0] 27)))
  clear hc
  go_enter Try.func13, Try.ntmps13
  go_wp2_with fail
  refine (l9Draw_any d n cap m a _ hn hm0 hm HC0.out).mono ?_
  rintro e w1 ⟨Q, vI, vD, vA, rfl, HQ, HO, HC1, ho1⟩
  obtain ⟨e1, f1, rfl⟩ := HO.out.i.itS
  obtain ⟨e2, f2, rfl⟩ := HO.out.d.itS
  obtain ⟨e3, f3, rfl⟩ := HO.out.a.stS
  have hz1 : w.heap.size < w1.heap.size := (OZ0.out.outS (outS_of_out ho1) (by have := Hd.out; simp; omega)).lt
  have hO' := HO.out.mono (show w.heap.size + 1 ≤ _ by simp)
  have D1 : Hid (DA w d n cap a w1.heap.size Q (.slice e1 Q.I.length f1) (.slice e2 Q.D.length f2) (.slice e3 Q.A.length f3) (w1.alloc (.cells #[.slice e1 Q.I.length f1, .slice e2 Q.D.length f2, .slice e3 Q.A.length f3, .int .i64 Q.now] 27))) :=
    ⟨HC1.out.later (below_alloc _ _), ((Out.of_below (below_alloc _ _)).trans ho1).trans (Out.of_below (below_alloc _ _)), (OZ0.out.outS (outS_of_out ho1) (by have := Hd.out; simp; omega)).below (below_alloc _ _), ⟨objU.new _ _ _, hO'.below (below_alloc _ _), fun hh => by have := (hO'.i.lt _ hh).2; omega, fun hh => by have := (hO'.d.lt _ hh).2; omega, fun hh => by have := (hO'.a.lt _ hh).2; omega⟩, hz1⟩
  have HK : Hid (okQ Q ∧ Q.I.length ≤ 40 ∧ Q.A.length ≤ 1000) := ⟨HQ.out.1, by have := HQ.out.2.2.1; unfold cntQ at this; omega, by
    have h1 := HQ.out.2.1.2.2.2.2.2.2.1
    have h2 := HQ.out.2.1.2.2.2.2.2.2.2
    have h3 := HQ.out.2.1.2.1
    have := List.Nodup.length_le_of_subset h1 (l₂ := Q.D.map (fun x => x.1)) (fun s hs => h2 s hs)
    simp at this
    omega⟩
  clear HO hO' HC1 ho1 OZ0 HC0 HQ hz1
  go_wp2_with fail
  refine (l1Once_any d n cap 5 a _ hn (by decide) D1.out.cur).mono ?_
  rintro e w2 ⟨o, rfl, HC2, ho2⟩
  have D2 := hide (D1.out.outd Hd.out ho2 HC2.out)
  clear D1 HC2 ho2
  go_upto_if 11 with fail
  go_cut [5] from 10 to 14 (fun s5 wc => s5 = .pointer (some ⟨w1.heap.size, 0, none⟩) ∧ ∃ (Q : Qu) (vI vD vA : Value), Hid (okQ Q ∧ Q.I.length ≤ 41) ∧ Hid (DA w d n cap a w1.heap.size Q vI vD vA wc))
  case first =>
    have u0 := D2.out.q.o.cell 0 _ rfl
    have u1 := D2.out.q.o.cell 1 _ rfl
    have u2 := D2.out.q.o.cell 2 _ rfl
    have u3 := D2.out.q.o.cell 3 _ rfl
    cases o
    · go_wp2_with fail
      go_meet
      exact ⟨rfl, Q, _, _, _, ⟨HK.out.1, by have := HK.out.2.1; omega⟩, D2⟩
    · go_wp2_with fail
      refine (l9Bend_any d n cap a Q _ w2 hn HK.out.1 (by have := HK.out.2.1; omega) HK.out.2.2 D2.out.q.q.rd D2.out.cur).mono ?_
      rintro e w3 ⟨Q', vI', vD', vA', rfl, HB, HO3, HC3, ho3⟩
      obtain ⟨g1, k1, rfl⟩ := HO3.out.i.itS
      obtain ⟨g2, k2, rfl⟩ := HO3.out.d.itS
      obtain ⟨g3, k3, rfl⟩ := HO3.out.a.stS
      have D3 := hide (D2.out.outd Hd.out ho3 HC3.out)
      have D4 := hide (D2.out.put Hd.out HCL.out ho3 HC3.out HO3.out)
      have HK4 : Hid (okQ Q' ∧ Q'.I.length ≤ 41) := ⟨HB.out.1, by have := HB.out.2; have := HK.out.2.1; omega⟩
      clear HO3 HC3 ho3 HB D2 u0 u1 u2 u3
      have u0 := D3.out.q.o.cell 0 _ rfl
      have u1 := D3.out.q.o.cell 1 _ rfl
      have u2 := D3.out.q.o.cell 2 _ rfl
      have u3 := D3.out.q.o.cell 3 _ rfl
      have z0 := D3.out.q.o.fz 0
      have z1 := D3.out.q.o.fz 1
      have z2 := D3.out.q.o.fz 2
      have z3 := D3.out.q.o.fz 3
      clear D3
      go_wp2
      go_meet
      exact ⟨rfl, Q', _, _, _, HK4, D4⟩
  case rest =>
  obtain ⟨rfl, Q', vI, vD, vA, HK5, D5⟩ := hcut
  clear D2 HK
  go_wp2_with fail
  refine (l1Once_any d n cap 40 a _ hn (by decide) D5.out.cur).mono ?_
  rintro e w6 ⟨o6, rfl, HC6, ho6⟩
  have D6 := hide (D5.out.outd Hd.out ho6 HC6.out)
  clear D5 HC6 ho6
  go_upto_if 16 with fail
  go_cut [5] from 15 to 42 (fun s5 wc => s5 = .pointer (some ⟨w1.heap.size, 0, none⟩) ∧ ∃ (Q : Qu) (vI vD vA : Value), Hid (wkQ Q) ∧ Hid (DA w d n cap a w1.heap.size Q vI vD vA wc))
  case first =>
    cases o6
    · go_wp2_with fail
      go_meet
      exact ⟨rfl, Q', _, _, _, ⟨HK5.out.1, .inl (by have := HK5.out.2; omega)⟩, D6⟩
    · have u0 := D6.out.q.o.cell 0 _ rfl
      have u1 := D6.out.q.o.cell 1 _ rfl
      have u2 := D6.out.q.o.cell 2 _ rfl
      have u3 := D6.out.q.o.cell 3 _ rfl
      have z0 := D6.out.q.o.fz 0
      have z1 := D6.out.q.o.fz 1
      have z2 := D6.out.q.o.fz 2
      have z3 := D6.out.q.o.fz 3
      have hb6 : w1.heap.size < w6.heap.size := D6.out.q.lt
      have hb7 : w1.heap.size < w6.heap.size + 1 := by omega
      have hb8 : w1.heap.size < w6.heap.size + 1 + 1 := by omega
      have hb9 : w1.heap.size < w6.heap.size + 1 + 1 + 1 := by omega
      have D9 := ((D6.out.clearI Hd.out HCL.out).clearD Hd.out HCL.out).clearA Hd.out HCL.out
      simp only [World.size_setCell, World.size_alloc, World.setCell_alloc_past, hb6, hb7, hb8] at D9
      have D9 := hide D9
      have hnow : Hid (inK .i64 Q'.now) := HK5.out.1.2.2.2
      have HEI := hide (elI)
      clear D6
      go_wp2
      clear u0 u1 u2 u3 z0 z1 z2 z3 HK5
      go_loopw [6] (fun i wr => ∃ (k : Nat) (I : List It) (vI : Value), k ≤ 60 ∧ i = .int .i64 k ∧ Hid (I.length = k ∧ ∀ x ∈ I, okI x ∧ x.1.size = 3) ∧ Hid (DA w d n cap a w1.heap.size ⟨I, [], [], Q'.now⟩ vI (.slice (some ⟨w6.heap.size + 1, 0, none⟩) 0 0) (.slice (some ⟨w6.heap.size + 1 + 1, 0, none⟩) 0 0) wr)) (fun i _ => 60 - (intOf i).toNat)
      case atStart => exact ⟨0, [], _, Nat.zero_le _, rfl, ⟨rfl, fun x hx => by cases hx⟩, D9⟩
      case round =>
        clear D9 hb6 hb7 hb8 hb9
        obtain ⟨k, I, vI, hk, rfl, HI, DR⟩ := hrel
        obtain ⟨g, p, rfl⟩ := DR.out.q.q.i.itS
        by_cases hlt : k < 60
        · have hbr : w1.heap.size < wr.heap.size := DR.out.q.lt
          have hbr1 : w1.heap.size < wr.heap.size + 1 := by omega
          have hbr2 : w1.heap.size < wr.heap.size + 1 + 1 := by omega
          have u0 := DR.out.q.o.cell 0 _ rfl
          have z0 := DR.out.q.o.fz 0
          obtain ⟨K, hK3, hcv⟩ : ∃ K : ByteArray, K.size = 3 ∧ ∀ wx : World, (convert 22 9 (.slice (some ⟨wx.heap.size, 0, none⟩) 3 3)).run Try.prog (wx.alloc (.cells #[.int .u8 122, .int .u8 (97 + (k : Int) / 10), .int .u8 (48 + (k : Int) % 10)] 5)) = .ok (.string K) (wx.alloc (.cells #[.int .u8 122, .int .u8 (97 + (k : Int) / 10), .int .u8 (48 + (k : Int) % 10)] 5)) := ⟨_, three_size _ _ _, fun wx => conv_three wx _ _ _⟩
          have HK3 := hide hK3
          clear hK3
          have H2 : Hid (DA w d n cap a w1.heap.size ⟨I, [], [], Q'.now⟩ (.slice g I.length p) (.slice (some ⟨w6.heap.size + 1, 0, none⟩) 0 0) (.slice (some ⟨w6.heap.size + 1 + 1, 0, none⟩) 0 0) ((wr.alloc (.cells #[.int .u8 122, .int .u8 (97 + (k : Int) / 10), .int .u8 (48 + (k : Int) % 10)] 5)).alloc (.cells #[.string K, .int .i64 0, .int .i64 0] 36))) := (DR.out.below (below_alloc _ _)).below (below_alloc _ _)
          have O2 : Hid (objU ((wr.alloc (.cells #[.int .u8 122, .int .u8 (97 + (k : Int) / 10), .int .u8 (48 + (k : Int) % 10)] 5)).alloc (.cells #[.string K, .int .i64 0, .int .i64 0] 36)) (wr.heap.size + 1) 36 [.string K, .int .i64 0, .int .i64 0]) := objU.new2 _ _ (by simp)
          go_wp2_with (at_builtin; refine wpList_append_rd rfl _ _ 24 rfl 36 3 HEI.out (by decide) (w.heap.size + 1) _ _ rfl H2.out.q.q.i _ _ rfl (rdR.one O2.out) (rowsI [(K, 0, 0)]) (oneI [(K, 0, 0)]) (by have := HI.out.1; simp; omega) (by have := H2.out.q.lt; have := H2.out.bl; omega) ?_)
          intro v' w9 ho9 hg9 ha9
          have t0 := (H2.out.q.o.outS (grown_outS hg9) H2.out.q.ni).cell 0 _ rfl
          have g0 := (H2.out.q.o.outS (grown_outS hg9) H2.out.q.ni).fz 0
          obtain ⟨L, HI', D'⟩ : ∃ L : List It, Hid (L.length = k + 1 ∧ ∀ x ∈ L, okI x ∧ x.1.size = 3) ∧ Hid (DA w d n cap a w1.heap.size ⟨L, [], [], Q'.now⟩ v' (.slice (some ⟨w6.heap.size + 1, 0, none⟩) 0 0) (.slice (some ⟨w6.heap.size + 1 + 1, 0, none⟩) 0 0) (w9.setCell ⟨w1.heap.size, 0, none⟩ v')) := ⟨I ++ [((K, 0, 0) : It)], ⟨by rw [List.length_append, HI.out.1]; rfl, fun x hx => by
            rcases List.mem_append.1 hx with hx | hx
            · exact HI.out.2 x hx
            · rw [List.mem_singleton.1 hx]
              exact ⟨⟨by rw [HK3.out]; decide, inK0, inK0⟩, HK3.out⟩⟩, H2.out.app (x := (K, 0, 0)) Hd.out HCL.out (by rw [List.map_append]; exact ho9) hg9 (by simpa using ha9)⟩
          obtain ⟨a4, p4, e4⟩ := D'.out.q.q.i.itS
          subst e4
          clear ho9 hg9 ha9 H2 O2 DR HI hcv HK3 u0 z0
          go_wp2
          go_roundw
          case rel => exact ⟨k + 1, _, _, by omega, by go_num, HI', D'⟩
          case measure => simp [intOf]; omega
        · have e : k = 60 := by omega
          subst e
          go_wp2
          go_meet
          exact ⟨rfl, ⟨I, [], [], Q'.now⟩, _, _, _, ⟨⟨⟨by have := HI.out.1; show I.length ≤ _; omega, fun x hx => (HI.out.2 x hx).1⟩, ⟨Nat.zero_le _, fun x hx => by cases hx⟩, ⟨Nat.zero_le _, fun x hx => by cases hx⟩, hnow.out⟩, .inr ⟨HI.out.1, rfl, fun x hx => (HI.out.2 x hx).2⟩⟩, DR⟩
  case rest =>
  obtain ⟨rfl, Q9, vI9, vD9, vA9, HK9, D9⟩ := hcut
  clear D6
  obtain ⟨r1, k1, r2, k2, r3, k3, rfl, rfl, rfl⟩ := D9.out.q.xs
  have u0 := D9.out.q.o.cell 0 _ rfl
  have u1 := D9.out.q.o.cell 1 _ rfl
  have u2 := D9.out.q.o.cell 2 _ rfl
  have u3 := D9.out.q.o.cell 3 _ rfl
  have y0 := D9.out.oz.cell 0 _ rfl
  have y1 := D9.out.oz.cell 1 _ rfl
  have y2 := D9.out.oz.cell 2 _ rfl
  have y3 := D9.out.oz.cell 3 _ rfl
  have z0 := D9.out.oz.fz 0
  have z1 := D9.out.oz.fz 1
  have z2 := D9.out.oz.fz 2
  have z3 := D9.out.oz.fz 3
  have HO6 : Hid (ownQ (stQ wc w.heap.size (.slice r1 Q9.I.length k1) (.slice r2 Q9.D.length k2) (.slice r3 Q9.A.length k3) Q9.now) w.heap.size Q9 (.slice r1 Q9.I.length k1) (.slice r2 Q9.D.length k2) (.slice r3 Q9.A.length k3)) := (D9.out.q.q.outS (stQ_out _ w.heap.size _ _ _ _) (by simp)).mono (by omega)
  have C6 : Hid (CurIn (stQ wc w.heap.size (.slice r1 Q9.I.length k1) (.slice r2 Q9.D.length k2) (.slice r3 Q9.A.length k3) Q9.now) d a n cap) := D9.out.cur.far (stQ_out _ w.heap.size _ _ _ _) Hd.out HCL.out (by simp)
  have O6 : Hid (Out d (d + 1) w (stQ wc w.heap.size (.slice r1 Q9.I.length k1) (.slice r2 Q9.D.length k2) (.slice r3 Q9.A.length k3) Q9.now)) := D9.out.out.outS (stQ_out _ w.heap.size _ _ _ _) (by simp)
  clear D9
  go_wp2
  refine bodyPost_ret (v := .agg #[.slice r1 Q9.I.length k1, .slice r2 Q9.D.length k2, .slice r3 Q9.A.length k3, .int .i64 Q9.now]) ?_ rfl ⟨Q9, _, _, _, rfl, HK9, HO6, C6, O6.out⟩
  simp [results, Try.results13, go_sem, y0, y1, y2, y3]
end Go.Proofs.Ytddojjigijfgbaa
/- What is put into a drawn queue: spec.DrawPut. -/
namespace Go.Proofs.Ytddojjigijfgbaa
open Go.RowKit Go.BigFrame
set_option linter.unusedVariables false
set_option linter.unusedSimpArgs false

def putNames : List ByteArray := [⟨#[97]⟩, ⟨#[98]⟩, ⟨#[99]⟩, ⟨#[100]⟩, ⟨#[120]⟩, ⟨#[]⟩]
theorem putNames_size : ∀ s ∈ putNames, s.size ≤ 1 := by decide
set_option maxRecDepth 20000 in
set_option maxHeartbeats 1600000 in
theorem drawPut_any (n cap : Nat) (a : Option Addr) (w : World) (hn : n ≤ 1048576) (hc : codeAll w a n) :
    Calls Try.prog 5 #[.slice a n cap] w fun e w' => ∃ (Q : Qu) (s : ByteArray) (vI vD vA : Value), e = .returned (.tuple #[.agg #[vI, vD, vA, .int .i64 Q.now], .string s]) ∧ Hid (wkQ Q) ∧ Hid (s.size ≤ 1) ∧ Hid (ownQ w' w.heap.size Q vI vD vA) ∧ Hid (Below w.heap.size w w') := by
  have Hc := hide hc
  clear hc
  have OZ0 : Hid (objU (w.alloc (.cells #[.slice none 0 0, .slice none 0 0, .slice none 0 0, .int .i64 0] 27)) w.heap.size 27 [.slice none 0 0, .slice none 0 0, .slice none 0 0, .int .i64 0]) := objU.new _ _ _
  have BZ0 : Hid (Below w.heap.size w (w.alloc (.cells #[.slice none 0 0, .slice none 0 0, .slice none 0 0, .int .i64 0] 27))) := below_alloc _ _
  go_enter Try.func5, Try.ntmps5
  go_wp2_with fail
  refine (l1New_any n cap a _ hn (Hc.out.later BZ0.out).at).mono ?_
  rintro e w1 ⟨d, hd, rfl, hc1, hb1⟩
  have OZ1 := hide (OZ0.out.below hb1)
  have B1 : Hid (Below w.heap.size w w1) := BZ0.out.trans (hb1.mono BZ0.out.size)
  have hdl := hc1.out.lt
  have hd' : w.heap.size < d := by have := OZ0.out.lt; omega
  clear hb1 OZ0 BZ0 Hc
  go_wp2_with fail
  refine (l1Size_any n cap 30 a _ hn (by omega) (by omega)).mono ?_
  rintro e w2 ⟨k, ⟨hk0, hk1⟩, rfl, hw2⟩
  obtain rfl : w1 = w2 := hw2.symm
  go_wp2_with fail
  refine (l9DrawAny_any d n cap k a _ hn hk0 (by omega) hc1.out).mono ?_
  rintro e w3 ⟨Q, vI, vD, vA, rfl, HW, HO, C, O⟩
  obtain ⟨g1, k1, rfl⟩ := HO.out.i.itS
  obtain ⟨g2, k2, rfl⟩ := HO.out.d.itS
  obtain ⟨g3, k3, rfl⟩ := HO.out.a.stS
  have OZ3 := hide (OZ1.out.outS (outS_of_out O) (by simp; omega))
  have B3 : Hid (Below w.heap.size w w3) := B1.out.trans (O.below (by omega) B1.out.size)
  have hd3 : d < w3.heap.size := C.out.lt
  have HS := hide (l1Str_lit d n cap a putNames w3 hn (by decide) (by decide) hd3 C.out)
  have hs3 : w1.heap.size ≤ w3.heap.size := O.size
  have hs1 := B1.out.size
  have hlz := OZ1.out.lt
  clear OZ1 B1 hc1 O C
  go_wp2_with fail
  refine HS.out.mono ?_
  rintro e w4 ⟨s, hs, rfl, C4, O4⟩
  have HSZ : Hid (s.size ≤ 1) := putNames_size s hs
  have OZ4 := hide (OZ3.out.outS (outS_of_out O4) (by simp; omega))
  have B4 : Hid (Below w.heap.size w w4) := B3.out.trans (O4.below (by omega) B3.out.size)
  have HO4 : Hid (ownQ w4 w1.heap.size Q (.slice g1 Q.I.length k1) (.slice g2 Q.D.length k2) (.slice g3 Q.A.length k3)) := HO.out.outS (outS_of_out O4) (by simp; omega)
  have HO6 : Hid (ownQ (stQ w4 w.heap.size (.slice g1 Q.I.length k1) (.slice g2 Q.D.length k2) (.slice g3 Q.A.length k3) Q.now) w.heap.size Q (.slice g1 Q.I.length k1) (.slice g2 Q.D.length k2) (.slice g3 Q.A.length k3)) := (HO4.out.outS (stQ_out _ w.heap.size _ _ _ _) (by simp; omega)).mono (by omega)
  have B6 : Hid (Below w.heap.size w (stQ w4 w.heap.size (.slice g1 Q.I.length k1) (.slice g2 Q.D.length k2) (.slice g3 Q.A.length k3) Q.now)) := B4.out.trans ((stQ_out _ w.heap.size _ _ _ _).below (by simp) B4.out.size)
  have y0 := OZ4.out.cell 0 _ rfl
  have y1 := OZ4.out.cell 1 _ rfl
  have y2 := OZ4.out.cell 2 _ rfl
  have y3 := OZ4.out.cell 3 _ rfl
  have z0 := OZ4.out.fz 0
  have z1 := OZ4.out.fz 1
  have z2 := OZ4.out.fz 2
  have z3 := OZ4.out.fz 3
  clear OZ3 OZ4 HO HO4 C4 O4 B3 B4 HS hs
  go_wp2
  refine bodyPost_ret (v := .tuple #[.agg #[.slice g1 Q.I.length k1, .slice g2 Q.D.length k2, .slice g3 Q.A.length k3, .int .i64 Q.now], .string s]) ?_ rfl ⟨Q, s, _, _, _, rfl, HW, HSZ, HO6, B6⟩
  simp [results, Try.results5, go_sem, y0, y1, y2, y3]
end Go.Proofs.Ytddojjigijfgbaa
/- FnOnce: the walk. -/
namespace Go.Proofs.Ytddojjigijfgbaa
open Go.RowKit Go.BigFrame
set_option linter.unusedVariables false
set_option linter.unusedSimpArgs false

theorem big_anyO (n cap : Nat) (a : Option Addr) (w : World) : Calls Try.prog 4 #[.slice a n cap] w fun e w' => e = .returned (.bool (decide (1048576 < n))) ∧ w' = w := by
  by_cases h : 1048576 < n
  · have h' : (1048576 : Int) < (n : Int) := by omega
    rw [decide_eq_true h]
    go_enter Try.func4, Try.ntmps4
    go_wp2
    go_ret
    exact ⟨rfl, rfl⟩
  · have h' : ¬ (1048576 : Int) < (n : Int) := by omega
    rw [decide_eq_false h]
    go_enter Try.func4, Try.ntmps4
    go_wp2
    go_ret
    exact ⟨rfl, rfl⟩
theorem QO.opn {w : World} {base : Nat} {Q : Qu} {vI vD vA : Value} (h : ownQ w base Q vI vD vA) : ∃ aI pI aD pD aA pA, vI = .slice aI Q.I.length pI ∧ vD = .slice aD Q.D.length pD ∧ vA = .slice aA Q.A.length pA := by
  obtain ⟨a1, p1, e1⟩ := h.i.itS
  obtain ⟨a2, p2, e2⟩ := h.d.itS
  obtain ⟨a3, p3, e3⟩ := h.a.stS
  exact ⟨_, _, _, _, _, _, e1, e2, e3⟩
theorem puO_any (Q T : Qu) (s : ByteArray) (ok : Bool) (h : putQ Q s = (T, ok)) (hq : okQ Q) (hs : s.size ≤ maxLen) (f : FuncId) (hf : f = 6 ∨ f = 7) (xs : List Value) (w : World) (hx : rdQ w Q xs) :
    Calls Try.prog f #[.agg xs.toArray, .string s] w fun e w' => ∃ aI pI aD pD aA pA, e = .returned (.tuple #[.agg #[.slice aI T.I.length pI, .slice aD T.D.length pD, .slice aA T.A.length pA, .int .i64 T.now], .bool ok]) ∧ Hid (ownQ w' w.heap.size T (.slice aI T.I.length pI) (.slice aD T.D.length pD) (.slice aA T.A.length pA)) ∧ Hid (Below w.heap.size w w') := by
  have key : ∀ (e : Ending) (w' : World), (∃ vI vD vA, e = .returned (.tuple #[.agg #[vI, vD, vA, .int .i64 (putQ Q s).1.now], .bool (putQ Q s).2]) ∧ ownQ w' w.heap.size (putQ Q s).1 vI vD vA ∧ Below w.heap.size w w') → ∃ aI pI aD pD aA pA, e = .returned (.tuple #[.agg #[.slice aI T.I.length pI, .slice aD T.D.length pD, .slice aA T.A.length pA, .int .i64 T.now], .bool ok]) ∧ Hid (ownQ w' w.heap.size T (.slice aI T.I.length pI) (.slice aD T.D.length pD) (.slice aA T.A.length pA)) ∧ Hid (Below w.heap.size w w') := by
    rintro e w' ⟨vI, vD, vA, rfl, ho, hb⟩
    rw [h] at ho ⊢
    obtain ⟨aI, pI, aD, pD, aA, pA, rfl, rfl, rfl⟩ := QO.opn ho
    exact ⟨aI, pI, aD, pD, aA, pA, rfl, ho, hb⟩
  rcases hf with rfl | rfl
  · exact (iPut_any Q s xs w hq hs hx).mono key
  · exact (sPut_any Q s xs w hq hs hx).mono key
theorem agO_any (Q : Qu) (s : ByteArray) (nI nA : Nat) (hI : (putQ Q s).1.I.length = nI) (hA : (putQ Q s).1.A.length = nA) (hq : okQ Q) (hs : s.size ≤ maxLen) (xs : List Value) (w : World) (hx : rdQ w Q xs) :
    Calls Try.prog 6 #[.agg xs.toArray, .string s] w fun e w' => ∃ (a1 : Option Addr) (p1 : Nat) (a2 : Option Addr) (n2 p2 : Nat) (a3 : Option Addr) (p3 : Nat) (z : Int) (ok : Bool), e = .returned (.tuple #[.agg #[.slice a1 nI p1, .slice a2 n2 p2, .slice a3 nA p3, .int .i64 z], .bool ok]) ∧ Hid (Below w.heap.size w w') := by
  refine (iPut_any Q s xs w hq hs hx).mono ?_
  rintro e w' ⟨vI, vD, vA, rfl, ho, hb⟩
  subst hI hA
  obtain ⟨aI, pI, aD, pD, aA, pA, rfl, rfl, rfl⟩ := QO.opn ho
  exact ⟨_, _, _, _, _, _, _, _, _, rfl, hb⟩
theorem tkO_any (Q T : Qu) (s : ByteArray) (ok : Bool) (h : takeQ Q = (T, s, ok)) (hq : okQ Q) (xs : List Value) (w : World) (hx : rdQ w Q xs) :
    Calls Try.prog 10 #[.agg xs.toArray] w fun e w' => ∃ aI pI aD pD aA pA, e = .returned (.tuple #[.agg #[.slice aI T.I.length pI, .slice aD T.D.length pD, .slice aA T.A.length pA, .int .i64 T.now], .string s, .bool ok]) ∧ Hid (ownQ w' w.heap.size T (.slice aI T.I.length pI) (.slice aD T.D.length pD) (.slice aA T.A.length pA)) ∧ Hid (Below w.heap.size w w') := by
  refine (iTake_any Q xs w hq hx).mono ?_
  rintro e w' ⟨vI, vD, vA, rfl, ho, hb⟩
  rw [h] at ho ⊢
  obtain ⟨aI, pI, aD, pD, aA, pA, rfl, rfl, rfl⟩ := QO.opn ho
  exact ⟨aI, pI, aD, pD, aA, pA, rfl, ho, hb⟩
theorem dnO_any (Q T : Qu) (s : ByteArray) (well ok : Bool) (h : doneQ Q s well = (T, ok)) (hq : okQ Q) (hs : s.size ≤ maxLen) (xs : List Value) (w : World) (hx : rdQ w Q xs) :
    Calls Try.prog 11 #[.agg xs.toArray, .string s, .bool well] w fun e w' => ∃ aI pI aD pD aA pA, e = .returned (.tuple #[.agg #[.slice aI T.I.length pI, .slice aD T.D.length pD, .slice aA T.A.length pA, .int .i64 T.now], .bool ok]) ∧ Hid (ownQ w' w.heap.size T (.slice aI T.I.length pI) (.slice aD T.D.length pD) (.slice aA T.A.length pA)) ∧ Hid (Below w.heap.size w w') := by
  refine (iDone_any Q s well xs w hq hs hx).mono ?_
  rintro e w' ⟨vI, vD, vA, rfl, ho, hb⟩
  rw [h] at ho ⊢
  obtain ⟨aI, pI, aD, pD, aA, pA, rfl, rfl, rfl⟩ := QO.opn ho
  exact ⟨aI, pI, aD, pD, aA, pA, rfl, ho, hb⟩
/-- what is put into a drawn queue is there -/
theorem once_put {Q N : Qu} {s : ByteArray} (hw : wkQ Q) (hz : s.size ≤ 1) (h : putQ Q s = (N, true)) : nameB s = true ∧ onT N s ∧ (putQ N s).1.I.length = N.I.length ∧ (putQ N s).1.A.length = N.A.length := by
  by_cases hc : qOk Q = true ∧ nameB s = true
  · have e : putQ Q s = putC Q s := if_pos hc
    have hzz : s.size ≤ maxLen := Nat.le_trans hz (by unfold maxLen; omega)
    have h1 := on_put (s := s) hw.1 (qOk_iff.1 hc.1) hc.2 hzz (by
      rcases hw.2 with h | ⟨h1, h2, h3⟩
      · exact .inl h
      · exact .inr ⟨h1, h2, fun x hx e => by have := h3 x hx; rw [e] at this; omega⟩) (by rw [← e, h])
    rw [← e, h] at h1
    obtain ⟨h1, h2⟩ := h1
    have e2 : putQ N s = putC N s := if_pos ⟨qOk_true h1.2.1, hc.2⟩
    rw [e2]
    have h3 := again_len h1.2.2.2 h2
    exact ⟨hc.2, h1, h3.1, h3.2⟩
  · unfold putQ at h
    rw [if_neg hc] at h
    cases h
/-- a taking from it -/
theorem once_take {T T' : Qu} {s g : ByteArray} (h : onT T s) (ht : takeQ T = (T', g, true)) : onT T' s ∧ (∀ x ∈ T.D, x.1 ≠ g) ∧ T'.I.length < T.I.length := by
  have e : takeQ T = takeC T := if_pos (qOk_true h.2.1)
  rw [e] at ht
  have h1 := on_take h (by rw [ht])
  rw [ht] at h1
  exact ⟨h1.1, fun x hx hg => h1.2.1 (List.mem_map.2 ⟨x, hx, hg⟩), h1.2.2⟩
/-- the end -/
theorem once_end {T : Qu} {s : ByteArray} (h : onT T s) (hs : nameB s = true) (hz : s.size ≤ maxLen) : ∃ P D : Qu, putQ T s = (P, true) ∧ doneQ P s true = (D, heldB T s) ∧ okQ P ∧ okQ D ∧ qOkP D ∧ (heldB T s = true → 0 < D.I.length ∧ ∀ (h : D.I.length - 1 < D.I.length), (D.I[D.I.length - 1]'h).1 = s) := by
  obtain ⟨h1, h2, h3, h4, h5⟩ := on_end h hs
  have e1 : putQ T s = putC T s := if_pos ⟨qOk_true h.2.1, hs⟩
  have e2 : doneQ (putC T s).1 s true = doneC (putC T s).1 s true := if_pos (qOk_true h2)
  have o1 := okQ_put h.1 hz
  rw [e1] at o1
  have o2 := okQ_done o1 hz true
  rw [e2] at o2
  refine ⟨(putC T s).1, (doneC (putC T s).1 s true).1, ?_, ?_, o1, o2, h3, h5⟩
  · rw [e1, ← h1]
  · rw [e2, ← h4]
/-- whether it is held, as far as place k -/
def heldU (T : Qu) (s : ByteArray) (k : Nat) : Bool := ((nmI T.D).take k).any fun t => decide (t = s)
theorem heldU_zero (T : Qu) (s : ByteArray) : heldU T s 0 = false := rfl
theorem heldU_all (T : Qu) (s : ByteArray) : heldU T s T.D.length = heldB T s := by
  unfold heldU heldB
  rw [List.take_of_length_le (by unfold nmI; simp)]
theorem heldU_succ (T : Qu) (s : ByteArray) (k : Nat) (hk : k < T.D.length) : heldU T s (k + 1) = (heldU T s k || decide ((T.D[k]'hk).1 = s)) := by
  unfold heldU nmI
  rw [List.take_succ_eq_append_getElem (by simpa using hk), List.any_append]
  simp
set_option maxRecDepth 20000 in
set_option maxHeartbeats 6400000 in
theorem fnOnce_walk (n cap : Nat) (a : Option Addr) (w : World) (hl : n ≤ maxLen) (hc : codeAll w a n) :
    Calls Try.prog 3 #[.slice a n cap] w fun e w' => e = .returned (.bool true) ∧ Below w.heap.size w w' := by
  have hbig := fun wx => big_anyO n cap a wx
  by_cases hb : 1048576 < n
  · rw [decide_eq_true hb] at hbig
    have HB := hide hbig
    clear hbig hc hl
    go_enter Try.func3, Try.ntmps3
    go_wp2_with (go_at_call 4; refine (HB.out _).mono ?_; rintro e w ⟨rfl, rfl⟩)
    go_ret
    exact ⟨rfl, Below.refl _ _⟩
  rw [decide_eq_false hb] at hbig
  have HB := hide hbig
  have HDr := hide (drawPut_any n cap a w (by omega) hc)
  clear hbig hc hl hb
  go_enter Try.func3, Try.ntmps3
  go_wp2_with (go_at_call 4; refine (HB.out _).mono ?_; rintro e w ⟨rfl, rfl⟩)
  refine HDr.out.mono ?_
  rintro e w1 ⟨Q, s, vI, vD, vA, rfl, HQ, HZ1, HO, HB1⟩
  obtain ⟨aI1, pI1, aD1, pD1, aA1, pA1, rfl, rfl, rfl⟩ := QO.opn HO.out
  have HZ : Hid (s.size ≤ maxLen) := Nat.le_trans HZ1.out (by unfold maxLen; omega)
  have HR1 : Hid (rdQ w1 Q [.slice aI1 Q.I.length pI1, .slice aD1 Q.D.length pD1, .slice aA1 Q.A.length pA1, .int .i64 Q.now]) := HO.out.rd
  clear HO HDr HB
  have O3 : Hid (objU (w1.alloc (.cells #[.slice aI1 Q.I.length pI1, .slice aD1 Q.D.length pD1, .slice aA1 Q.A.length pA1, .int .i64 Q.now] 27)) w1.heap.size 27 [.slice aI1 Q.I.length pI1, .slice aD1 Q.D.length pD1, .slice aA1 Q.A.length pA1, .int .i64 Q.now]) := objU.new _ _ _
  have B3 : Hid (Below w1.heap.size w1 (w1.alloc (.cells #[.slice aI1 Q.I.length pI1, .slice aD1 Q.D.length pD1, .slice aA1 Q.A.length pA1, .int .i64 Q.now] 27))) := below_alloc _ _
  have x0 := O3.out.cell 0 _ rfl
  have x1 := O3.out.cell 1 _ rfl
  have x2 := O3.out.cell 2 _ rfl
  have x3 := O3.out.cell 3 _ rfl
  obtain ⟨⟨N, ok⟩, hN⟩ : ∃ r, putQ Q s = r := ⟨_, rfl⟩
  have HP2 := hide (puO_any Q N s ok hN HQ.out.1 HZ.out 6 (.inl rfl) [.slice aI1 Q.I.length pI1, .slice aD1 Q.D.length pD1, .slice aA1 Q.A.length pA1, .int .i64 Q.now] _ (HR1.out.below B3.out))
  have HP3 : Hid (∀ (wx : World), Below w1.heap.size w1 wx → Calls Try.prog 7 #[.agg #[.slice aI1 Q.I.length pI1, .slice aD1 Q.D.length pD1, .slice aA1 Q.A.length pA1, .int .i64 Q.now], .string s] wx fun e w' => ∃ aI pI aD pD aA pA, e = .returned (.tuple #[.agg #[.slice aI N.I.length pI, .slice aD N.D.length pD, .slice aA N.A.length pA, .int .i64 N.now], .bool ok]) ∧ Hid (ownQ w' wx.heap.size N (.slice aI N.I.length pI) (.slice aD N.D.length pD) (.slice aA N.A.length pA)) ∧ Hid (Below wx.heap.size wx w')) := fun wx hb => puO_any Q N s ok hN HQ.out.1 HZ.out 7 (.inr rfl) [.slice aI1 Q.I.length pI1, .slice aD1 Q.D.length pD1, .slice aA1 Q.A.length pA1, .int .i64 Q.now] wx (HR1.out.below hb)
  have HN := hide hN
  clear hN
  go_wp2_with fail
  refine HP2.out.mono ?_
  rintro e w2 ⟨aI2, pI2, aD2, pD2, aA2, pA2, rfl, HO2, HB2⟩
  have B2 : Hid (Below w1.heap.size w1 (w2.alloc (.cells #[.slice aI2 N.I.length pI2, .slice aD2 N.D.length pD2, .slice aA2 N.A.length pA2, .int .i64 N.now] 27))) := (B3.out.trans (HB2.out.mono B3.out.size)).trans ((below_alloc _ _).mono (B3.out.trans (HB2.out.mono B3.out.size)).size)
  have O32 := hide ((O3.out.below HB2.out).below (below_alloc w2 (.cells #[.slice aI2 N.I.length pI2, .slice aD2 N.D.length pD2, .slice aA2 N.A.length pA2, .int .i64 N.now] 27)))
  have O5 : Hid (objU (w2.alloc (.cells #[.slice aI2 N.I.length pI2, .slice aD2 N.D.length pD2, .slice aA2 N.A.length pA2, .int .i64 N.now] 27)) w2.heap.size 27 [.slice aI2 N.I.length pI2, .slice aD2 N.D.length pD2, .slice aA2 N.A.length pA2, .int .i64 N.now]) := objU.new _ _ _
  have OW2 := hide (HO2.out.below (below_alloc w2 (.cells #[.slice aI2 N.I.length pI2, .slice aD2 N.D.length pD2, .slice aA2 N.A.length pA2, .int .i64 N.now] 27)))
  clear x0 x1 x2 x3 O3 B3 HB2 HO2 HP2
  have x0 := O32.out.cell 0 _ rfl
  have x1 := O32.out.cell 1 _ rfl
  have x2 := O32.out.cell 2 _ rfl
  have x3 := O32.out.cell 3 _ rfl
  go_wp2_with fail
  refine (HP3.out _ B2.out).mono ?_
  rintro e w3 ⟨aI3, pI3, aD3, pD3, aA3, pA3, rfl, HO3, HB3⟩
  have B33 : Hid (Below w1.heap.size w1 (w3.alloc (.cells #[.slice aI3 N.I.length pI3, .slice aD3 N.D.length pD3, .slice aA3 N.A.length pA3, .int .i64 N.now] 27))) := (B2.out.trans (HB3.out.mono B2.out.size)).trans ((below_alloc _ _).mono (B2.out.trans (HB3.out.mono B2.out.size)).size)
  have O33 := hide ((O32.out.below HB3.out).below (below_alloc w3 (.cells #[.slice aI3 N.I.length pI3, .slice aD3 N.D.length pD3, .slice aA3 N.A.length pA3, .int .i64 N.now] 27)))
  have O53 := hide ((O5.out.below HB3.out).below (below_alloc w3 (.cells #[.slice aI3 N.I.length pI3, .slice aD3 N.D.length pD3, .slice aA3 N.A.length pA3, .int .i64 N.now] 27)))
  have OW3 := hide ((OW2.out.below HB3.out).below (below_alloc w3 (.cells #[.slice aI3 N.I.length pI3, .slice aD3 N.D.length pD3, .slice aA3 N.A.length pA3, .int .i64 N.now] 27)))
  have hs23 : Hid (w2.heap.size < w3.heap.size) := by have := HB3.out.size; simp at this; show _ < _; omega
  clear x0 x1 x2 x3 O32 O5 B2 HB3 HO3 HP3 OW2
  have x0 := O33.out.cell 0 _ rfl
  have x1 := O33.out.cell 1 _ rfl
  have x2 := O33.out.cell 2 _ rfl
  have x3 := O33.out.cell 3 _ rfl
  have y0 := O53.out.cell 0 _ rfl
  have y1 := O53.out.cell 1 _ rfl
  have y2 := O53.out.cell 2 _ rfl
  have y3 := O53.out.cell 3 _ rfl
  cases ok with
  | false =>
    have HS : Hid (∀ (wx : World), Below w1.heap.size w1 wx → Calls Try.prog 8 #[.agg #[.slice aI1 Q.I.length pI1, .slice aD1 Q.D.length pD1, .slice aA1 Q.A.length pA1, .int .i64 Q.now]] wx fun e w' => e = .returned (.bool (qOk Q)) ∧ Below wx.heap.size wx w') := fun wx hb => sQueueOk_any Q [.slice aI1 Q.I.length pI1, .slice aD1 Q.D.length pD1, .slice aA1 Q.A.length pA1, .int .i64 Q.now] wx HQ.out.1 (HR1.out.below hb)
    have HI : Hid (∀ (wx : World), Below w1.heap.size w1 wx → Calls Try.prog 9 #[.agg #[.slice aI1 Q.I.length pI1, .slice aD1 Q.D.length pD1, .slice aA1 Q.A.length pA1, .int .i64 Q.now]] wx fun e w' => e = .returned (.bool (qOk Q)) ∧ Below wx.heap.size wx w') := fun wx hb => iQueueOk_any Q [.slice aI1 Q.I.length pI1, .slice aD1 Q.D.length pD1, .slice aA1 Q.A.length pA1, .int .i64 Q.now] wx HQ.out.1 (HR1.out.below hb)
    clear HR1 HQ HN O53 OW3
    cases hqo : qOk Q with
    | false =>
      rw [hqo] at HS HI
      clear hqo HI
      go_wp2_with fail
      refine (HS.out _ B33.out).mono ?_
      rintro e w4 ⟨rfl, hb4⟩
      have B4 : Hid (Below w1.heap.size w1 w4) := B33.out.trans (hb4.mono B33.out.size)
      go_wp2
      go_ret
      exact ⟨rfl, HB1.out.trans (B4.out.mono HB1.out.size)⟩
    | true =>
      rw [hqo] at HS HI
      clear hqo
      go_wp2_with fail
      refine (HS.out _ B33.out).mono ?_
      rintro e w4 ⟨rfl, hb4⟩
      have B4 : Hid (Below w1.heap.size w1 w4) := B33.out.trans (hb4.mono B33.out.size)
      have O34 := hide (O33.out.below hb4)
      clear x0 x1 x2 x3 hb4
      have x0 := O34.out.cell 0 _ rfl
      have x1 := O34.out.cell 1 _ rfl
      have x2 := O34.out.cell 2 _ rfl
      have x3 := O34.out.cell 3 _ rfl
      go_wp2_with fail
      refine (HI.out _ B4.out).mono ?_
      rintro e w5 ⟨rfl, hb5⟩
      have B5 : Hid (Below w1.heap.size w1 w5) := B4.out.trans (hb5.mono B4.out.size)
      clear hb5
      go_wp2
      go_ret
      exact ⟨rfl, HB1.out.trans (B5.out.mono HB1.out.size)⟩
  | true =>
    have HF := hide (once_put HQ.out HZ1.out HN.out)
    have HG := hide (agO_any N s N.I.length N.A.length HF.out.2.2.1 HF.out.2.2.2 HF.out.2.1.1 HZ.out [.slice aI2 N.I.length pI2, .slice aD2 N.D.length pD2, .slice aA2 N.A.length pA2, .int .i64 N.now] _ OW3.out.rd)
    clear HR1 HQ HN x0 x1 x2 x3 O33
    go_wp2_with fail
    refine HG.out.mono ?_
    rintro e w4 ⟨a4, p4, a5, n5, p5, a6, p6, z4, ok4, rfl, HB4⟩
    have B4 : Hid (Below w1.heap.size w1 (w4.alloc (.cells #[.slice a4 N.I.length p4, .slice a5 n5 p5, .slice a6 N.A.length p6, .int .i64 z4] 27))) := (B33.out.trans (HB4.out.mono B33.out.size)).trans ((below_alloc _ _).mono (B33.out.trans (HB4.out.mono B33.out.size)).size)
    have O9 : Hid (objU (w4.alloc (.cells #[.slice a4 N.I.length p4, .slice a5 n5 p5, .slice a6 N.A.length p6, .int .i64 z4] 27)) w4.heap.size 27 [.slice a4 N.I.length p4, .slice a5 n5 p5, .slice a6 N.A.length p6, .int .i64 z4]) := objU.new _ _ _
    have O54 := hide ((O53.out.below HB4.out).below (below_alloc w4 (.cells #[.slice a4 N.I.length p4, .slice a5 n5 p5, .slice a6 N.A.length p6, .int .i64 z4] 27)))
    have OW4 := hide ((OW3.out.below HB4.out).below (below_alloc w4 (.cells #[.slice a4 N.I.length p4, .slice a5 n5 p5, .slice a6 N.A.length p6, .int .i64 z4] 27)))
    clear y0 y1 y2 y3 O53 OW3 HB4 HG B33
    have y0 := O54.out.cell 0 _ rfl
    have y1 := O54.out.cell 1 _ rfl
    have y2 := O54.out.cell 2 _ rfl
    have y3 := O54.out.cell 3 _ rfl
    have HK : Hid (Calls Try.prog 9 #[.agg #[.slice aI2 N.I.length pI2, .slice aD2 N.D.length pD2, .slice aA2 N.A.length pA2, .int .i64 N.now]] (w4.alloc (.cells #[.slice a4 N.I.length p4, .slice a5 n5 p5, .slice a6 N.A.length p6, .int .i64 z4] 27)) fun e w' => e = .returned (.bool true) ∧ Below (w4.alloc (.cells #[.slice a4 N.I.length p4, .slice a5 n5 p5, .slice a6 N.A.length p6, .int .i64 z4] 27)).heap.size (w4.alloc (.cells #[.slice a4 N.I.length p4, .slice a5 n5 p5, .slice a6 N.A.length p6, .int .i64 z4] 27)) w') := by
      have := iQueueOk_any N [.slice aI2 N.I.length pI2, .slice aD2 N.D.length pD2, .slice aA2 N.A.length pA2, .int .i64 N.now] (w4.alloc (.cells #[.slice a4 N.I.length p4, .slice a5 n5 p5, .slice a6 N.A.length p6, .int .i64 z4] 27)) HF.out.2.1.1 OW4.out.rd
      rwa [qOk_true HF.out.2.1.2.1] at this
    go_wp2_with fail
    refine HK.out.mono ?_
    rintro e w5 ⟨rfl, hb5⟩
    have B5 : Hid (Below w1.heap.size w1 w5) := B4.out.trans (hb5.mono B4.out.size)
    have O55 := hide (O54.out.below hb5)
    have O95 := hide (O9.out.below hb5)
    have OW5 := hide (OW4.out.below hb5)
    clear y0 y1 y2 y3 O54 O9 OW4 hb5 HK B4
    have y0 := O55.out.cell 0 _ rfl
    have y1 := O55.out.cell 1 _ rfl
    have y2 := O55.out.cell 2 _ rfl
    have y3 := O55.out.cell 3 _ rfl
    have v0 := O95.out.cell 0 _ rfl
    have v2 := O95.out.cell 2 _ rfl
    have hw15 : w1.heap.size ≤ w5.heap.size := B5.out.size
    have HQB : Hid (QB (w5.alloc (.cells #[.slice aI2 N.I.length pI2, .slice aD2 N.D.length pD2, .slice aA2 N.A.length pA2, .int .i64 N.now] 27)) w5.heap.size w1.heap.size N (.slice aI2 N.I.length pI2) (.slice aD2 N.D.length pD2) (.slice aA2 N.A.length pA2)) := ⟨objU.new _ _ _, (QO.mono OW5.out (by simp)).below (below_alloc _ _), fun hh => by have := (OW5.out.i.lt _ hh).2; omega, fun hh => by have := (OW5.out.d.lt _ hh).2; omega, fun hh => by have := (OW5.out.a.lt _ hh).2; omega⟩
    have B5b : Hid (Below w1.heap.size w1 (w5.alloc (.cells #[.slice aI2 N.I.length pI2, .slice aD2 N.D.length pD2, .slice aA2 N.A.length pA2, .int .i64 N.now] 27))) := B5.out.trans ((below_alloc _ _).mono B5.out.size)
    have HNM := hide HF.out.1
    clear OW5 O55 O95 B5
    go_wp2
    go_loopw [12] (fun i wr => ∃ (q : Nat) (T : Qu) (aI6 : Option Addr) (pI6 : Nat) (aD6 : Option Addr) (pD6 : Nat) (aA6 : Option Addr) (pA6 : Nat), i = .int .i64 q ∧ Hid (q + T.I.length ≤ 59 ∧ onT T s) ∧ Hid (QB wr w5.heap.size w1.heap.size T (.slice aI6 T.I.length pI6) (.slice aD6 T.D.length pD6) (.slice aA6 T.A.length pA6)) ∧ Hid (Below w1.heap.size w1 wr)) (fun i _ => 200 - (intOf i).toNat)
    case atStart => exact ⟨0, N, _, _, _, _, _, _, rfl, ⟨by have := HF.out.2.1.2.2.1; omega, HF.out.2.1⟩, HQB, B5b⟩
    case round =>
      clear HQB B5b HF y0 y1 y2 y3 v0 v2
      obtain ⟨q, T, aI6, pI6, aD6, pD6, aA6, pA6, rfl, HT, HQT, BR⟩ := hrel
      have hq2 : q < 200 := by have := HT.out.1; omega
      obtain ⟨⟨T', g, is⟩, hT⟩ : ∃ r, takeQ T = r := ⟨_, rfl⟩
      have HTK := hide (tkO_any T T' g is hT HT.out.2.1 [.slice aI6 T.I.length pI6, .slice aD6 T.D.length pD6, .slice aA6 T.A.length pA6, .int .i64 T.now] wr HQT.out.q.rd)
      have x0 := HQT.out.o.cell 0 _ rfl
      have x1 := HQT.out.o.cell 1 _ rfl
      have x2 := HQT.out.o.cell 2 _ rfl
      have x3 := HQT.out.o.cell 3 _ rfl
      cases is with
      | false =>
        clear hT
        go_wp2_with fail
        refine HTK.out.mono ?_
        rintro e w7 ⟨aI7, pI7, aD7, pD7, aA7, pA7, rfl, HO7, HB7⟩
        have hs7 : Hid (wr.heap.size ≤ w7.heap.size) := HB7.out.size
        have HQ8 : Hid (QB (w7.alloc (.cells #[.slice aI7 T'.I.length pI7, .slice aD7 T'.D.length pD7, .slice aA7 T'.A.length pA7, .int .i64 T'.now] 27)) w5.heap.size w1.heap.size T (.slice aI6 T.I.length pI6) (.slice aD6 T.D.length pD6) (.slice aA6 T.A.length pA6)) := (HQT.out.below HB7.out).below (below_alloc _ _)
        have B7 : Hid (Below w1.heap.size w1 (w7.alloc (.cells #[.slice aI7 T'.I.length pI7, .slice aD7 T'.D.length pD7, .slice aA7 T'.A.length pA7, .int .i64 T'.now] 27))) := (BR.out.trans (HB7.out.mono BR.out.size)).trans ((below_alloc _ _).mono (BR.out.trans (HB7.out.mono BR.out.size)).size)
        have O13 : Hid (objU (w7.alloc (.cells #[.slice aI7 T'.I.length pI7, .slice aD7 T'.D.length pD7, .slice aA7 T'.A.length pA7, .int .i64 T'.now] 27)) w7.heap.size 27 [.slice aI7 T'.I.length pI7, .slice aD7 T'.D.length pD7, .slice aA7 T'.A.length pA7, .int .i64 T'.now]) := objU.new _ _ _
        have OW7 := hide (HO7.out.below (below_alloc w7 (.cells #[.slice aI7 T'.I.length pI7, .slice aD7 T'.D.length pD7, .slice aA7 T'.A.length pA7, .int .i64 T'.now] 27)))
        have hb57 : Hid (w5.heap.size < wr.heap.size) := HQT.out.lt
        clear x0 x1 x2 x3 HTK HB7 HO7 HQT BR
        generalize hW7 : (w7.alloc (.cells #[.slice aI7 T'.I.length pI7, .slice aD7 T'.D.length pD7, .slice aA7 T'.A.length pA7, .int .i64 T'.now] 27)) = W7 at *
        clear O13 OW7 hb57 hs7
        obtain ⟨P, D, hP, hD, oP, oD, qD, hlast⟩ := once_end HT.out.2 HNM.out HZ.out
        have HPT := hide (puO_any T P s true hP HT.out.2.1 HZ.out 6 (.inl rfl) [.slice aI6 T.I.length pI6, .slice aD6 T.D.length pD6, .slice aA6 T.A.length pA6, .int .i64 T.now] W7 HQ8.out.q.rd)
        have HDN := hide (fun xs wx hx => dnO_any P D s true (heldB T s) hD oP HZ.out xs wx hx)
        have HL := hide hlast
        have HOD := hide oD
        have HQD := hide qD
        clear hP hD oP oD qD hlast
        have x0 := HQ8.out.o.cell 0 _ rfl
        have x1 := HQ8.out.o.cell 1 _ rfl
        have x2 := HQ8.out.o.cell 2 _ rfl
        have x3 := HQ8.out.o.cell 3 _ rfl
        go_wp2_with fail
        refine HPT.out.mono ?_
        rintro e w8 ⟨aI8, pI8, aD8, pD8, aA8, pA8, rfl, HO8, HB8⟩
        have B8 : Hid (Below w1.heap.size w1 (w8.alloc (.cells #[.slice aI8 P.I.length pI8, .slice aD8 P.D.length pD8, .slice aA8 P.A.length pA8, .int .i64 P.now] 27))) := (B7.out.trans (HB8.out.mono B7.out.size)).trans ((below_alloc _ _).mono (B7.out.trans (HB8.out.mono B7.out.size)).size)
        have HQ9 := hide ((HQ8.out.below HB8.out).below (below_alloc w8 (.cells #[.slice aI8 P.I.length pI8, .slice aD8 P.D.length pD8, .slice aA8 P.A.length pA8, .int .i64 P.now] 27)))
        have O17 : Hid (objU (w8.alloc (.cells #[.slice aI8 P.I.length pI8, .slice aD8 P.D.length pD8, .slice aA8 P.A.length pA8, .int .i64 P.now] 27)) w8.heap.size 27 [.slice aI8 P.I.length pI8, .slice aD8 P.D.length pD8, .slice aA8 P.A.length pA8, .int .i64 P.now]) := objU.new _ _ _
        have HDD := hide (HDN.out [.slice aI8 P.I.length pI8, .slice aD8 P.D.length pD8, .slice aA8 P.A.length pA8, .int .i64 P.now] (w8.alloc (.cells #[.slice aI8 P.I.length pI8, .slice aD8 P.D.length pD8, .slice aA8 P.A.length pA8, .int .i64 P.now] 27)) (HO8.out.below (below_alloc w8 (.cells #[.slice aI8 P.I.length pI8, .slice aD8 P.D.length pD8, .slice aA8 P.A.length pA8, .int .i64 P.now] 27))).rd)
        clear x0 x1 x2 x3 HPT HDN HO8 HB8 HQ8 B7
        have x0 := O17.out.cell 0 _ rfl
        have x1 := O17.out.cell 1 _ rfl
        have x2 := O17.out.cell 2 _ rfl
        have x3 := O17.out.cell 3 _ rfl
        go_wp2_with fail
        refine HDD.out.mono ?_
        rintro e w9 ⟨aI9, pI9, aD9, pD9, aA9, pA9, rfl, HO9, HB9⟩
        have B9 : Hid (Below w1.heap.size w1 (w9.alloc (.cells #[.slice aI9 D.I.length pI9, .slice aD9 D.D.length pD9, .slice aA9 D.A.length pA9, .int .i64 D.now] 27))) := (B8.out.trans (HB9.out.mono B8.out.size)).trans ((below_alloc _ _).mono (B8.out.trans (HB9.out.mono B8.out.size)).size)
        have HQX := hide ((HQ9.out.below HB9.out).below (below_alloc w9 (.cells #[.slice aI9 D.I.length pI9, .slice aD9 D.D.length pD9, .slice aA9 D.A.length pA9, .int .i64 D.now] 27)))
        have O19 : Hid (objU (w9.alloc (.cells #[.slice aI9 D.I.length pI9, .slice aD9 D.D.length pD9, .slice aA9 D.A.length pA9, .int .i64 D.now] 27)) w9.heap.size 27 [.slice aI9 D.I.length pI9, .slice aD9 D.D.length pD9, .slice aA9 D.A.length pA9, .int .i64 D.now]) := objU.new _ _ _
        have OWD := hide (HO9.out.below (below_alloc w9 (.cells #[.slice aI9 D.I.length pI9, .slice aD9 D.D.length pD9, .slice aA9 D.A.length pA9, .int .i64 D.now] 27)))
        clear x0 x1 x2 x3 HDD HO9 HB9 HQ9 B8 O17
        generalize hW9 : (w9.alloc (.cells #[.slice aI9 D.I.length pI9, .slice aD9 D.D.length pD9, .slice aA9 D.A.length pA9, .int .i64 D.now] 27)) = W9 at *
        have HDr := hide (HQX.out.q.d.rd (by decide))
        have hTD : T.D.length ≤ 1048576 := HT.out.2.1.2.1.1
        have x1 := HQX.out.o.cell 1 _ rfl
        have v0 := O19.out.cell 0 _ rfl
        have v1 := O19.out.cell 1 _ rfl
        have v2 := O19.out.cell 2 _ rfl
        have v3 := O19.out.cell 3 _ rfl
        have HQO : Hid (Calls Try.prog 9 #[.agg #[.slice aI9 D.I.length pI9, .slice aD9 D.D.length pD9, .slice aA9 D.A.length pA9, .int .i64 D.now]] W9 fun e w' => e = .returned (.bool true) ∧ Below W9.heap.size W9 w') := by
          have := iQueueOk_any D [.slice aI9 D.I.length pI9, .slice aD9 D.D.length pD9, .slice aA9 D.A.length pA9, .int .i64 D.now] W9 HOD.out OWD.out.rd
          rwa [qOk_true HQD.out] at this
        by_cases hd0 : D.I.length = 0
        · have HLB : Hid (heldB T s = true → false = true) := fun h => absurd (HL.out h).1 (by omega)
          have hdn : ¬ (0 : Int) < (D.I.length : Int) := by omega
          clear hd0 HL HOD HQD OWD O19 HQX
          go_wp2
          go_loopw [22, 23] (fun h i wr' => ∃ k : Nat, k ≤ T.D.length ∧ h = .bool (heldU T s k) ∧ i = .int .i64 k ∧ W9 = wr') (fun _ i _ => T.D.length - (intOf i).toNat)
          case atStart => exact ⟨0, Nat.zero_le _, rfl, rfl, rfl⟩
          case round =>
            obtain ⟨k, hk, rfl, rfl, rfl⟩ := hrel
            by_cases hlt : k < T.D.length
            · have hsu := heldU_succ T s k hlt
              obtain ⟨tb, tof, e, htb, c0, -, -⟩ := HDr.out.itAt hlt
              subst e
              have he' := beq_str (T.D[k]'hlt).1 s
              clear HDr
              generalize (T.D[k]'hlt).1 = Y at *
              obtain ⟨yb, hyb⟩ : ∃ yb, decide (Y = s) = yb := ⟨_, rfl⟩
              rw [hyb] at he' hsu
              clear hyb
              cases hu : heldU T s k with
              | true =>
                rw [hu] at hsu
                have HSU : Hid (heldU T s (k + 1) = true) := by show _ = _; rw [hsu]; rfl
                clear hsu hu
                go_wp2
                go_roundw
                case rel => exact ⟨k + 1, by omega, by rw [HSU.out], by go_num, by first | rfl | trivial⟩
                case measure => simp [intOf]; omega
              | false =>
                rw [hu] at hsu
                have HSU : Hid (heldU T s (k + 1) = yb) := by show _ = _; rw [hsu]; rfl
                clear hsu hu
                go_wp2
                go_roundw
                case rel => exact ⟨k + 1, by omega, by rw [HSU.out], by go_num, by first | rfl | trivial⟩
                case measure => simp [intOf]; omega
            · obtain rfl : k = T.D.length := by omega
              have hua := heldU_all T s
              clear HDr
              cases hhb : heldB T s with
              | true =>
                exact absurd (HLB.out hhb) (by decide)
              | false =>
                rw [hhb] at hua
                clear hhb HLB
                go_wp2_with fail
                refine HQO.out.mono ?_
                rintro e wz ⟨rfl, hbz⟩
                have BZ : Hid (Below w1.heap.size w1 wz) := B9.out.trans (hbz.mono B9.out.size)
                clear hbz
                go_wp2
                go_ret
                exact ⟨rfl, HB1.out.trans (BZ.out.mono HB1.out.size)⟩
        · have hdi : (0 : Int) < (D.I.length : Int) := by omega
          have hdle := HOD.out.1.1
          have hdz : ((D.I.length : Int) == 0) = false := beq_eq_false_iff_ne.2 (by omega)
          have hw1 : IntKind.i64.wrap ((D.I.length : Int) - 1) = (D.I.length : Int) - 1 := by rw [IntKind.wrap_i64]; omega
          obtain ⟨db, doff, e, hdb, d0, -, -⟩ := (OWD.out.i.rd (by decide)).itAt (q := D.I.length - 1) (by omega)
          subst e
          have hnm : heldB T s = true → (D.I[D.I.length - 1]'(by omega)).1 = s := fun h => (HL.out h).2 (by omega)
          have he := beq_str (D.I[D.I.length - 1]'(by omega)).1 s
          generalize (D.I[D.I.length - 1]'(by omega)).1 = X at *
          obtain ⟨lb, hlb⟩ : ∃ lb, decide (X = s) = lb := ⟨_, rfl⟩
          have HLB : Hid (heldB T s = true → lb = true) := fun h => by rw [← hlb]; exact decide_eq_true (hnm h)
          rw [hlb] at he
          clear hd0 HL HOD HQD OWD O19 HQX hnm hlb
          go_wp2
          go_loopw [22, 23] (fun h i wr' => ∃ k : Nat, k ≤ T.D.length ∧ h = .bool (heldU T s k) ∧ i = .int .i64 k ∧ W9 = wr') (fun _ i _ => T.D.length - (intOf i).toNat)
          case atStart => exact ⟨0, Nat.zero_le _, rfl, rfl, rfl⟩
          case round =>
            obtain ⟨k, hk, rfl, rfl, rfl⟩ := hrel
            by_cases hlt : k < T.D.length
            · have hsu := heldU_succ T s k hlt
              obtain ⟨tb, tof, e, htb, c0, -, -⟩ := HDr.out.itAt hlt
              subst e
              have he' := beq_str (T.D[k]'hlt).1 s
              clear HDr
              generalize (T.D[k]'hlt).1 = Y at *
              obtain ⟨yb, hyb⟩ : ∃ yb, decide (Y = s) = yb := ⟨_, rfl⟩
              rw [hyb] at he' hsu
              clear hyb
              cases hu : heldU T s k with
              | true =>
                rw [hu] at hsu
                have HSU : Hid (heldU T s (k + 1) = true) := by show _ = _; rw [hsu]; rfl
                clear hsu hu
                go_wp2
                go_roundw
                case rel => exact ⟨k + 1, by omega, by rw [HSU.out], by go_num, by first | rfl | trivial⟩
                case measure => simp [intOf]; omega
              | false =>
                rw [hu] at hsu
                have HSU : Hid (heldU T s (k + 1) = yb) := by show _ = _; rw [hsu]; rfl
                clear hsu hu
                go_wp2
                go_roundw
                case rel => exact ⟨k + 1, by omega, by rw [HSU.out], by go_num, by first | rfl | trivial⟩
                case measure => simp [intOf]; omega
            · obtain rfl : k = T.D.length := by omega
              have hua := heldU_all T s
              clear HDr
              cases hhb : heldB T s with
              | true =>
                obtain rfl := HLB.out hhb
                rw [hhb] at hua
                clear hhb HLB
                go_wp2_with fail
                refine HQO.out.mono ?_
                rintro e wz ⟨rfl, hbz⟩
                have BZ : Hid (Below w1.heap.size w1 wz) := B9.out.trans (hbz.mono B9.out.size)
                clear hbz
                go_wp2
                go_ret
                exact ⟨rfl, HB1.out.trans (BZ.out.mono HB1.out.size)⟩
              | false =>
                rw [hhb] at hua
                clear hhb HLB
                go_wp2_with fail
                refine HQO.out.mono ?_
                rintro e wz ⟨rfl, hbz⟩
                have BZ : Hid (Below w1.heap.size w1 wz) := B9.out.trans (hbz.mono B9.out.size)
                clear hbz
                go_wp2
                go_ret
                exact ⟨rfl, HB1.out.trans (BZ.out.mono HB1.out.size)⟩
      | true =>
        have HH := hide (once_take HT.out.2 hT)
        clear hT
        go_wp2_with fail
        refine HTK.out.mono ?_
        rintro e w7 ⟨aI7, pI7, aD7, pD7, aA7, pA7, rfl, HO7, HB7⟩
        have hs7 : Hid (wr.heap.size ≤ w7.heap.size) := HB7.out.size
        have HQ8 : Hid (QB (w7.alloc (.cells #[.slice aI7 T'.I.length pI7, .slice aD7 T'.D.length pD7, .slice aA7 T'.A.length pA7, .int .i64 T'.now] 27)) w5.heap.size w1.heap.size T (.slice aI6 T.I.length pI6) (.slice aD6 T.D.length pD6) (.slice aA6 T.A.length pA6)) := (HQT.out.below HB7.out).below (below_alloc _ _)
        have B7 : Hid (Below w1.heap.size w1 (w7.alloc (.cells #[.slice aI7 T'.I.length pI7, .slice aD7 T'.D.length pD7, .slice aA7 T'.A.length pA7, .int .i64 T'.now] 27))) := (BR.out.trans (HB7.out.mono BR.out.size)).trans ((below_alloc _ _).mono (BR.out.trans (HB7.out.mono BR.out.size)).size)
        have O13 : Hid (objU (w7.alloc (.cells #[.slice aI7 T'.I.length pI7, .slice aD7 T'.D.length pD7, .slice aA7 T'.A.length pA7, .int .i64 T'.now] 27)) w7.heap.size 27 [.slice aI7 T'.I.length pI7, .slice aD7 T'.D.length pD7, .slice aA7 T'.A.length pA7, .int .i64 T'.now]) := objU.new _ _ _
        have OW7 := hide (HO7.out.below (below_alloc w7 (.cells #[.slice aI7 T'.I.length pI7, .slice aD7 T'.D.length pD7, .slice aA7 T'.A.length pA7, .int .i64 T'.now] 27)))
        have hb57 : Hid (w5.heap.size < wr.heap.size) := HQT.out.lt
        clear x0 x1 x2 x3 HTK HB7 HO7 HQT BR
        generalize hW7 : (w7.alloc (.cells #[.slice aI7 T'.I.length pI7, .slice aD7 T'.D.length pD7, .slice aA7 T'.A.length pA7, .int .i64 T'.now] 27)) = W7 at *
        clear HNM
        have HDr := hide (HQ8.out.q.d.rd (by decide))
        have hTD : T.D.length ≤ 1048576 := HT.out.2.1.2.1.1
        have HNE := hide HH.out.2.1
        have x1 := HQ8.out.o.cell 1 _ rfl
        go_wp2
        go_loopw [16] (fun i wr' => ∃ k : Nat, k ≤ T.D.length ∧ i = .int .i64 k ∧ W7 = wr') (fun i _ => T.D.length - (intOf i).toNat)
        case atStart => exact ⟨0, Nat.zero_le _, rfl, rfl⟩
        case round =>
          obtain ⟨k, hk, rfl, rfl⟩ := hrel
          by_cases hlt : k < T.D.length
          · obtain ⟨tb, tof, e, htb, c0, -, -⟩ := HDr.out.itAt hlt
            subst e
            have he := beq_str (T.D[k]'hlt).1 g
            rw [decide_eq_false (HNE.out _ (List.getElem_mem hlt))] at he
            clear HNE HH HDr HQ8 OW7 O13
            generalize (T.D[k]'hlt).1 = X at *
            go_wp2
            go_roundw
            case rel => exact ⟨k + 1, by omega, by go_num, by first | rfl | trivial⟩
            case measure => simp [intOf]; omega
          · obtain rfl : k = T.D.length := by omega
            clear HNE HDr x1
            have x0 := HQ8.out.o.cell 0 _ rfl
            have x1 := HQ8.out.o.cell 1 _ rfl
            have x2 := HQ8.out.o.cell 2 _ rfl
            have x3 := HQ8.out.o.cell 3 _ rfl
            have z0 := HQ8.out.o.fz 0
            have z1 := HQ8.out.o.fz 1
            have z2 := HQ8.out.o.fz 2
            have z3 := HQ8.out.o.fz 3
            have y0 := O13.out.cell 0 _ rfl
            have y1 := O13.out.cell 1 _ rfl
            have y2 := O13.out.cell 2 _ rfl
            have y3 := O13.out.cell 3 _ rfl
            have HQN : Hid (QB (stQ W7 w5.heap.size (.slice aI7 T'.I.length pI7) (.slice aD7 T'.D.length pD7) (.slice aA7 T'.A.length pA7) T'.now) w5.heap.size w1.heap.size T' (.slice aI7 T'.I.length pI7) (.slice aD7 T'.D.length pD7) (.slice aA7 T'.A.length pA7)) := (QB.ret0 (base := w5.heap.size + 1) HQ8.out.o (Nat.lt_succ_self _) (show w5.heap.size + 1 ≤ wr.heap.size by have := hb57.out; omega) hb57.out OW7.out).monoB (by omega)
            have BN : Hid (Below w1.heap.size w1 (stQ W7 w5.heap.size (.slice aI7 T'.I.length pI7) (.slice aD7 T'.D.length pD7) (.slice aA7 T'.A.length pA7) T'.now)) := B7.out.trans ((stQ_out _ _ _ _ _ _).below (by simp; omega) B7.out.size)
            have HT2 : Hid (q + 1 + T'.I.length ≤ 59 ∧ onT T' s) := ⟨by have := HH.out.2.2; have := HT.out.1; omega, HH.out.1⟩
            clear HQ8 O13 OW7 B7 HH HT
            go_wp2
            go_roundw
            case rel => exact ⟨q + 1, T', _, _, _, _, _, _, by go_num, HT2, HQN, BN⟩
            case measure => simp [intOf]; omega
end Go.Proofs.Ytddojjigijfgbaa
