/- Copying any value: a step within a round, on worlds alone. -/
import Derived.Test.YtamlgjmboljcdaaGreatCpyB
namespace Go.Proofs.YtamlgjmboljcdaaGreat
open Go.RowKit Go.BigFrame
set_option linter.unusedVariables false

theorem CpyR.slice {w w' : World} {te tc : TypeId} {f1 : Field} {k n : Nat} {zs : List Value} {bc bm : Nat} {ok : Addr → Prop} {a : Option Addr} {kv : Value} {fl : Bool} (h : CpyR w w' te tc f1 k n zs bc bm ok a kv fl) : ∃ b c, kv = .slice b n c := by
  rcases h.res with ⟨rfl, rfl, _⟩ | ⟨_, _, g', cap, rfl, _⟩
  · exact ⟨_, _, rfl⟩
  · exact ⟨_, _, rfl⟩
/-- an element of the row at hand: its two lists, another's -/
structure ElV (wr : World) (h : HL) (q : Nat) (Sr : List Nat) (zs : List Value) (z0 : Int) (z1 : ByteArray) (z2 : Int) (n3 : Nat) (c3 : UD) (n4 : Nat) (c4 : UD) (a3 : Option Addr) (p3 : Nat) (a4 : Option Addr) (p4 : Nat) (e3 e4 : TypeId) (ys zs3 zs4 : List Value) (S3i S4i Sb : List Nat) : Prop where
  row : rowU h.cs 5 q = .p (.int .i64 z0) (.p (.string z1) (.p (.int .i64 z2) (.l 1 n3 c3 (.l 5 n4 c4 .nil))))
  cells : zs.drop (q * 5) = .int .i64 z0 :: .string z1 :: .int .i64 z2 :: .slice a3 n3 p3 :: .slice a4 n4 p4 :: ys
  src : Sr = ((blkOf (.slice a3 n3 p3) ++ S3i) ++ (blkOf (.slice a4 n4 p4) ++ S4i)) ++ Sb
  rest : oH wr (h.cs.dropN ((q + 1) * 5)) ys Sb
  t3 : tyS 1 n3 c3 0
  t4 : tyS 5 n4 c4 6
  o3 : wr.ownsRow 0 e3 1 (.slice a3 n3 p3) n3 zs3
  h3 : oH wr c3 zs3 S3i
  o4 : wr.ownsRow 0 e4 5 (.slice a4 n4 p4) n4 zs4
  h4 : oH wr c4 zs4 S4i
theorem CpI.elem {c : CpC} {w wr : World} {d : UD} {vw lv : Value} {m : Nat} {h : HL} {q : Nat} {L0 : List HL} {S0 Ss0 : List Nat} {Lq : List HL} {Sq Ssq Sr : List Nat} {zs : List Value} {gl capl : Nat} (i : CpI c w wr d vw lv m h q L0 S0 Ss0 Lq Sq Ssq Sr zs gl capl) (hq : q < h.n) :
    ∃ z0 z1 z2 n3 c3 n4 c4 a3 p3 a4 p4 e3 e4 ys zs3 zs4 S3i S4i Sb, ElV wr h q Sr zs z0 z1 z2 n3 c3 n4 c4 a3 p3 a4 p4 e3 e4 ys zs3 zs4 S3i S4i Sb := by
  obtain ⟨z0, z1, z2, n3, c3, n4, c4, hR, g0, g1, g2, g3, g4⟩ := partsValue (i.ty.row hq)
  have h2 := i.rest
  rw [UD.drop_row, hR] at h2
  obtain ⟨xs, ys, Sa, Sb, e1, rfl, h6, h7⟩ := oH.split h2
  obtain ⟨a3, p3, a4, p4, S3, S4, rfl, rfl, ⟨k3, e3, zs3, S3i, o3, m3, rfl⟩, ⟨k4, e4, zs4, S4i, o4, m4, rfl⟩⟩ := oH.value h6
  exact ⟨z0, z1, z2, n3, c3, n4, c4, a3, p3, a4, p4, e3, e4, ys, zs3, zs4, S3i, S4i, Sb, hR, e1, rfl, h7, g3, g4, o3, m3, o4, m4⟩
theorem CpI.lens {c : CpC} {w wr : World} {d : UD} {vw lv : Value} {m : Nat} {h : HL} {q : Nat} {L0 : List HL} {S0 Ss0 : List Nat} {Lq : List HL} {Sq Ssq Sr : List Nat} {zs : List Value} {gl capl : Nat} (i : CpI c w wr d vw lv m h q L0 S0 Ss0 Lq Sq Ssq Sr zs gl capl)
    {z0 : Int} {z1 : ByteArray} {z2 : Int} {n3 : Nat} {c3 : UD} {n4 : Nat} {c4 : UD} {a3 : Option Addr} {p3 : Nat} {a4 : Option Addr} {p4 : Nat} {e3 e4 : TypeId} {ys zs3 zs4 : List Value} {S3i S4i Sb : List Nat} (e : ElV wr h q Sr zs z0 z1 z2 n3 c3 n4 c4 a3 p3 a4 p4 e3 e4 ys zs3 zs4 S3i S4i Sb) : n3 ≤ m ∧ n4 ≤ m ∧ (L0 ++ Lq).length ≤ m := by
  have h1 := mWt_row5 h.cs q
  rw [e.row] at h1
  have e2 : uszD (UD.p (.int .i64 z0) (.p (.string z1) (.p (.int .i64 z2) (.l 1 n3 c3 (.l 5 n4 c4 .nil))))) = uszD c3 + uszD c4 + 5 := by simp only [uszD]; omega
  rw [e2] at h1
  have h3 := uszD_len c3
  have h4 := uszD_len c4
  rw [e.t3.2.2.2.1] at h3
  rw [e.t4.2.2.2.1] at h4
  have hm := i.mea
  have k1 := i.src0.count
  have k2 := i.srcq.count
  rw [List.length_append]
  omega
theorem okn {H n : Nat} {Ss0 Ssq S3 S4 S4' Sb : List Nat} {a : Option Addr} (hn : ((Ss0 ++ Ssq) ++ ((S3 ++ S4) ++ Sb)).Nodup) (ha : ∀ s ∈ (Ss0 ++ Ssq) ++ ((S3 ++ S4) ++ Sb), s < H) (hs : ∀ s ∈ S4', s ∈ S4) (hb : ∀ c, some c = a → c.block ∈ S3 ++ S4 ∧ c.block ∉ S4') :
    ∀ c, (okS H ((Ss0 ++ Ssq) ++ ((S3 ++ S4) ++ Sb)) c ∨ (0 < n ∧ some c = a)) → okS H ((Ss0 ++ (Ssq ++ S4')) ++ Sb) c := by
  intro c hc
  unfold okS at hc ⊢
  simp only [List.nodup_append, List.mem_append] at hn ha hb hc ⊢
  rcases hc with ⟨h1, h2⟩ | ⟨_, h1⟩
  · refine ⟨h1, ?_⟩
    grind
  · obtain ⟨h2, h3⟩ := hb c h1
    grind
theorem own_head {w : World} {e : TypeId} {k n p : Nat} {a : Option Addr} {zs : List Value} (h : w.ownsRow 0 e k (.slice a n p) n zs) : ∀ c, some c = a → c.block ∈ blkOf (.slice a n p) := by
  intro c hc
  rcases h.2 with ⟨h1, _⟩ | ⟨g, cap, cur, h1, _⟩
  · cases h1; cases hc
  · cases h1; cases hc; simp [blkOf, Value.ownBlock]
section
variable {H N : Nat} {w wr : World} {d : UD} {vw lv : Value} {m : Nat} {h : HL} {q : Nat} {L0 : List HL} {S0 Ss0 : List Nat} {Lq : List HL} {Sq Ssq Sr : List Nat} {zs : List Value} {gl capl : Nat}
  {z0 : Int} {z1 : ByteArray} {z2 : Int} {n3 : Nat} {c3 : UD} {n4 : Nat} {c4 : UD} {a3 : Option Addr} {p3 : Nat} {a4 : Option Addr} {p4 : Nat} {e3 e4 : TypeId} {ys zs3 zs4 : List Value} {S3i S4i Sb : List Nat} {wx w3 w5 w7 : World} {kv dv : Value} {fk fd : Bool}
/-- the copy of the keys is asked -/
theorem CpI.kcall (i : CpI (cpc H N) w wr d vw lv m h q L0 S0 Ss0 Lq Sq Ssq Sr zs gl capl) (e : ElV wr h q Sr zs z0 z1 z2 n3 c3 n4 c4 a3 p3 a4 p4 e3 e4 ys zs3 zs4 S3i S4i Sb) (hw : Below wr.heap.size wr wx) (hn : n3 ≤ 100000000) :
    Calls Tryz.prog 180 #[.pointer (some ⟨H + 1, 0, none⟩), .slice a3 n3 p3] wx fun e w' => cpyAns wx w' 9 219 cpS1 1 n3 zs3 (H + 1) H (okS H ((Ss0 ++ Ssq) ++ Sr)) a3 e := by
  obtain ⟨⟨z, hz⟩, hm⟩ := i.ck.below hw
  have hn2 := i.nsrc
  have ha := i.asrc
  rw [e.src] at hn2 ha
  refine cpyS_any n3 zs3 a3 p3 z (H + 1) H _ e3 wx (uowns_frame e.o3 (fun x hx => hw.block x (ublk_lt e.o3 x hx).2)) (oH.ones e.t3.2.2.2.2 e.h3) hz hm (by omega) (fun g hg => ?_) (fun c hc => ?_) hn
  · have h1 : g < H := ha g (by simp [hg])
    refine ⟨by omega, by omega, fun o hc => hc.2 ?_⟩
    rw [e.src]; simp [hg]
  · have : c.block < H := hc.1
    omega
/-- behind the copy of the keys: the world where the keys were stored -/
theorem CpI.mid (i : CpI (cpc H N) w wr d vw lv m h q L0 S0 Ss0 Lq Sq Ssq Sr zs gl capl) (hw : Below wr.heap.size wr wx) (R3 : CpyR wx w3 9 219 cpS1 1 n3 zs3 (H + 1) H (okS H ((Ss0 ++ Ssq) ++ Sr)) a3 kv fk) :
    OutS [H + 1, H] wr w3 ∧ w3.ownsRow H 31 5 h.v h.n zs ∧ OutS [H + 1, H, h.g] wr (w3.setCell ⟨h.g, q * 5 + 3, none⟩ kv) ∧ h.g < w3.heap.size := by
  have e1 : OutS [H + 1, H] wr w3 := (OutS.of_below hw).trans R3.out
  have hg := i.anew h.g (by simp)
  have hg2 : h.g ≠ H + 1 ∧ h.g ≠ H := by
    have := hg.2.2.1
    simp only [cpc, CpC.fix, List.mem_cons, List.not_mem_nil, or_false, not_or] at this
    exact ⟨this.1, this.2.1⟩
  refine ⟨e1, uowns_frame i.row (fun x hx => e1.block x (ublk_lt i.row x hx).2 ?_), (e1.mono (fun t ht => by simp at ht; simp; omega)).setCell (by simp) _, Nat.lt_of_lt_of_le hg.2.1 e1.size⟩
  have e : x = h.g := by simpa [HL.v, blkOf, Value.ownBlock] using hx
  subst e
  simp; omega
/-- the copy of the kids is asked -/
theorem CpI.dcall (i : CpI (cpc H N) w wr d vw lv m h q L0 S0 Ss0 Lq Sq Ssq Sr zs gl capl) (e : ElV wr h q Sr zs z0 z1 z2 n3 c3 n4 c4 a3 p3 a4 p4 e3 e4 ys zs3 zs4 S3i S4i Sb) (hw : Below wr.heap.size wr wx) (hn : n4 ≤ 100000000)
    (R3 : CpyR wx w3 9 219 cpS1 1 n3 zs3 (H + 1) H (okS H ((Ss0 ++ Ssq) ++ Sr)) a3 kv fk) :
    Calls Tryz.prog 181 #[.pointer (some ⟨N + 1, 0, none⟩), .slice a4 n4 p4] (w3.setCell ⟨h.g, q * 5 + 3, none⟩ kv) fun e w' => cpyAns (w3.setCell ⟨h.g, q * 5 + 3, none⟩ kv) w' 31 222 cpV1 5 n4 zs4 (N + 1) N (okS H ((Ss0 ++ Ssq) ++ Sr)) a4 e := by
  obtain ⟨e1, hrow, e2, hgl⟩ := i.mid (q := q) hw R3
  have hn2 := i.nsrc
  have ha : ∀ s ∈ (Ss0 ++ Ssq) ++ Sr, s < H := i.asrc
  have hfx := i.nfx
  have hg := i.anew h.g (by simp)
  simp only [cpc, CpC.fix, List.nodup_cons, List.mem_cons, List.not_mem_nil, or_false, not_or, List.nodup_nil, and_true, not_false_eq_true] at hfx hg
  have hNH : H ≤ N ∧ H ≤ N + 1 := ⟨(i.fx N (by simp [cpc, CpC.fix])).1, (i.fx (N + 1) (by simp [cpc, CpC.fix])).1⟩
  have hcd : Cop (w3.setCell ⟨h.g, q * 5 + 3, none⟩ kv) 222 cpV1 (N + 1) N (okS H ((Ss0 ++ Ssq) ++ Sr)) := i.cd.outS e2 (by show N + 1 ∉ _; simp; omega) (by show N ∉ _; simp; omega) (fun c hc => by have : c.block < H := hc.1; simp; omega)
  obtain ⟨⟨z, hz⟩, hm⟩ := hcd
  rw [e.src] at hn2
  have ha2 := ha
  rw [e.src] at ha2
  refine cpyV_any n4 zs4 a4 p4 z (N + 1) N _ e4 _ (uowns_frame e.o4 (fun x hx => e2.block x (ublk_lt e.o4 x hx).2 ?_)) (oH.ones e.t4.2.2.2.2 e.h4) hz hm (by omega) (fun g hg => ?_) (fun c hc => ?_) hn
  · have h1 : x < H := ha2 x (by simp only [List.mem_append]; grind)
    simp; omega
  · have h1 : g < H := ha2 g (by simp only [List.mem_append]; grind)
    refine ⟨by omega, by omega, fun o hc => hc.2 ?_⟩
    rw [e.src]
    simp only [List.mem_append]
    grind
  · have : c.block < H := hc.1
    omega
structure CpCore (H N : Nat) (w wr w7 : World) (h : HL) (q : Nat) (Ss0 Ssq : List Nat) (zs : List Value) (gl : Nat) (kv dv : Value) (n3 : Nat) (c3 : UD) (S4' Sb : List Nat) : Prop where
  out : OutS ((cpc H N).fix ++ [gl, h.g]) wr w7
  row : w7.ownsRow H 31 5 h.v h.n ((zs.set (q * 5 + 3) kv).set (q * 5 + 4) dv)
  keys : hH w7 (.l 1 n3 c3 .nil) [kv] (blkOf kv) []
  own : own2 (blkOf kv) wr.heap.size w7.heap.size
  ck : Cop w7 219 cpS1 (H + 1) H (okS H ((Ss0 ++ (Ssq ++ S4')) ++ Sb))
  cd : Cop w7 222 cpV1 (N + 1) N (okS H ((Ss0 ++ (Ssq ++ S4')) ++ Sb))
theorem CpI.core (i : CpI (cpc H N) w wr d vw lv m h q L0 S0 Ss0 Lq Sq Ssq Sr zs gl capl) (hq : q < h.n) (e : ElV wr h q Sr zs z0 z1 z2 n3 c3 n4 c4 a3 p3 a4 p4 e3 e4 ys zs3 zs4 S3i S4i Sb) (hw : Below wr.heap.size wr wx)
    (R3 : CpyR wx w3 9 219 cpS1 1 n3 zs3 (H + 1) H (okS H ((Ss0 ++ Ssq) ++ Sr)) a3 kv fk)
    (R4 : CpyR (w3.setCell ⟨h.g, q * 5 + 3, none⟩ kv) w5 31 222 cpV1 5 n4 zs4 (N + 1) N (okS H ((Ss0 ++ Ssq) ++ Sr)) a4 dv fd)
    (ho7 : OutS [gl] (w5.setCell ⟨h.g, q * 5 + 4, none⟩ dv) w7) {S4' : List Nat} (hS4 : ∀ s ∈ S4', s ∈ S4i) : CpCore H N w wr w7 h q Ss0 Ssq zs gl kv dv n3 c3 S4' Sb := by
  obtain ⟨e1, hrow, e2, hgl3⟩ := i.mid (q := q) hw R3
  have hn2 := i.nsrc
  have ha : ∀ s ∈ (Ss0 ++ Ssq) ++ Sr, s < H := i.asrc
  rw [e.src] at hn2 ha
  have hfx := i.nfx
  have hf2 := i.fx
  have hg := i.anew h.g (by simp)
  have hglx : H ≤ gl ∧ gl < wr.heap.size := ublk_lt i.left gl (by simp [blkOf, Value.ownBlock])
  have hx1 := hf2 (H + 1) (by simp [cpc, CpC.fix])
  have hx2 := hf2 H (by simp [cpc, CpC.fix])
  have hx3 := hf2 (N + 1) (by simp [cpc, CpC.fix])
  have hx4 := hf2 N (by simp [cpc, CpC.fix])
  simp only [cpc, CpC.fix, List.nodup_cons, List.mem_cons, List.not_mem_nil, or_false, not_or, List.nodup_nil, and_true, not_false_eq_true] at hfx hg
  change H ≤ _ ∧ _ at hx1 hx2 hx3 hx4 hg
  -- from the store of the keys to the end
  have o35 : OutS [N + 1, N, h.g] w3 (w5.setCell ⟨h.g, q * 5 + 4, none⟩ dv) := (((OutS.refl _ _).setCell (p := ⟨h.g, q * 5 + 3, none⟩) (by simp) kv).trans (R4.out.mono (fun t ht => by simp at ht; simp; omega))).setCell (by simp) _
  have o37 : OutS [N + 1, N, h.g, gl] w3 w7 := (o35.mono (fun t ht => by simp at ht; simp; omega)).trans (ho7.mono (fun t ht => by simp at ht; simp [ht]))
  have o57 : OutS [h.g, gl] w5 w7 := ((OutS.refl _ _).setCell (p := ⟨h.g, q * 5 + 4, none⟩) (by simp) dv).trans (ho7.mono (fun t ht => by simp at ht; simp [ht]))
  have hws := hw.size
  have hkv : ∀ g ∈ blkOf kv, wx.heap.size ≤ g ∧ g < w3.heap.size := by
    rcases R3.res with ⟨_, rfl, _⟩ | ⟨_, _, g', cap, rfl, h1, h2⟩
    · intro g hg; simp [blkOf, Value.ownBlock] at hg
    · exact fun g hg => ublk_lt h2 g hg
  obtain ⟨k1, k2⟩ := cpy_keys R3 e.t3 (Si := S3i) (e.h3.below hw) (w' := w7) (fun g hg => o37.block g (hkv g hg).2 (by have := (hkv g hg).1; simp; omega)) o37.size
  have hS4b : ∀ s ∈ S4', s ∈ blkOf (.slice a4 n4 p4) ++ S4i := fun s hs => List.mem_append_right _ (hS4 s hs)
  have hb3 : ∀ c, some c = a3 → c.block ∈ (blkOf (.slice a3 n3 p3) ++ S3i) ++ (blkOf (.slice a4 n4 p4) ++ S4i) ∧ c.block ∉ S4' := fun c hc => by
    have h1 := own_head e.o3 c hc
    refine ⟨by simp only [List.mem_append]; exact .inl (.inl h1), fun h2 => ?_⟩
    have h3 := hS4 _ h2
    simp only [List.nodup_append, List.mem_append] at hn2
    grind
  have hb4 : ∀ c, some c = a4 → c.block ∈ (blkOf (.slice a3 n3 p3) ++ S3i) ++ (blkOf (.slice a4 n4 p4) ++ S4i) ∧ c.block ∉ S4' := fun c hc => by
    have h1 := own_head e.o4 c hc
    refine ⟨by simp only [List.mem_append]; exact .inr (.inl h1), fun h2 => ?_⟩
    have h3 := hS4 _ h2
    simp only [List.nodup_append, List.mem_append] at hn2
    grind
  have hlt : ∀ c : Addr, c.block ∈ (blkOf (.slice a3 n3 p3) ++ S3i) ++ (blkOf (.slice a4 n4 p4) ++ S4i) → c.block < H := fun c hc => ha _ (by simp only [List.mem_append] at hc ⊢; grind)
  refine ⟨?_, ?_, k1, ⟨k2.1, fun s hs => ⟨Nat.le_trans hws (k2.2 s hs).1, (k2.2 s hs).2⟩⟩, ?_, ?_⟩
  · refine (e1.mono (fun t ht => ?_)).trans (o37.mono (fun t ht => ?_))
    · simp [cpc, CpC.fix] at ht ⊢; omega
    · simp [cpc, CpC.fix] at ht ⊢; omega
  · have r1 := (hrow.stored (q * 5 + 3) kv).1
    have r2 : w5.ownsRow H 31 5 h.v h.n (zs.set (q * 5 + 3) kv) := uowns_frame r1 (fun x hx => R4.out.block x (ublk_lt r1 x hx).2 (by
      have e : x = h.g := by simpa [HL.v, blkOf, Value.ownBlock] using hx
      subst e
      simp; omega))
    have r3 := (r2.stored (q * 5 + 4) dv).1
    exact uowns_frame r3 (fun x hx => ho7.block x (ublk_lt r3 x hx).2 (by
      have e : x = h.g := by simpa [HL.v, blkOf, Value.ownBlock] using hx
      subst e
      simp; omega))
  · rw [e.src] at R3
    refine (R3.cop.outS o37 (by simp; omega) (by simp; omega) (fun c hc => ?_)).mono (okn hn2 ha hS4b hb3)
    have : c.block < H := by
      rcases hc with hc | ⟨_, hc⟩
      · exact hc.1
      · exact hlt c (hb3 c hc).1
    simp; omega
  · rw [e.src] at R4
    refine (R4.cop.outS o57 (by simp; omega) (by simp; omega) (fun c hc => ?_)).mono (okn hn2 ha hS4b hb4)
    have : c.block < H := by
      rcases hc with hc | ⟨_, hc⟩
      · exact hc.1
      · exact hlt c (hb4 c hc).1
    simp; omega
/-- a step whose value has no kids -/
theorem CpI.after0 (i : CpI (cpc H N) w wr d vw (.slice (some ⟨gl, 0, none⟩) (L0 ++ Lq).length capl) m h q L0 S0 Ss0 Lq Sq Ssq Sr zs gl capl) (hq : q < h.n) (e : ElV wr h q Sr zs z0 z1 z2 n3 c3 n4 c4 a3 p3 a4 p4 e3 e4 ys zs3 zs4 S3i S4i Sb) (hw : Below wr.heap.size wr wx)
    (R3 : CpyR wx w3 9 219 cpS1 1 n3 zs3 (H + 1) H (okS H ((Ss0 ++ Ssq) ++ Sr)) a3 kv fk)
    (R4 : CpyR (w3.setCell ⟨h.g, q * 5 + 3, none⟩ kv) w5 31 222 cpV1 5 n4 zs4 (N + 1) N (okS H ((Ss0 ++ Ssq) ++ Sr)) a4 dv fd) (h0 : n4 = 0) :
    ∃ Sq' zs' Ssq', CpI (cpc H N) w (w5.setCell ⟨h.g, q * 5 + 4, none⟩ dv) d vw (.slice (some ⟨gl, 0, none⟩) (L0 ++ Lq).length capl) m h (q + 1) L0 S0 Ss0 Lq Sq' Ssq' Sb zs' gl capl := by
  have C := i.core hq e hw R3 R4 (OutS.refl _ _) (S4' := []) (fun s hs => by cases hs)
  subst h0
  obtain ⟨rfl, rfl, hd⟩ := cpy_kids0 (w' := w5.setCell ⟨h.g, q * 5 + 4, none⟩ dv) R4 e.t4
  have hgl : H ≤ gl ∧ gl < wr.heap.size := ublk_lt i.left gl (by simp [blkOf, Value.ownBlock])
  have hgg : gl ≠ h.g := fun e => (i.anew h.g (by simp)).2.2.2 e.symm
  have hfg : gl ∉ (cpc H N).fix := fun hh => (i.fx gl hh).2.2 rfl
  obtain ⟨e1, hrow, e2, hgl3⟩ := i.mid (q := q) hw R3
  have hl : (w5.setCell ⟨h.g, q * 5 + 4, none⟩ (.slice none 0 0)).ownsRow H 29 1 (.slice (some ⟨gl, 0, none⟩) (L0 ++ Lq).length capl) (L0 ++ Lq).length ((L0 ++ Lq).map HL.v) := uowns_frame i.left (fun x hx => by
    have e : x = gl := by simpa [blkOf, Value.ownBlock] using hx
    subst e
    simp only [cpc, CpC.fix, List.mem_cons, List.not_mem_nil, or_false, not_or] at hfg
    have o2 : OutS [N + 1, N, h.g] (w3.setCell ⟨h.g, q * 5 + 3, none⟩ kv) (w5.setCell ⟨h.g, q * 5 + 4, none⟩ (.slice none 0 0)) := (R4.out.mono (fun t ht => by simp at ht; simp; omega)).setCell (by simp) _
    exact (o2.block x (Nat.lt_of_lt_of_le hgl.2 e2.size) (by simp; omega)).trans (e2.block x hgl.2 (by simp; omega)))
  obtain ⟨Sq', zs', hI⟩ := i.step (M := []) (S4' := []) hq e.row e.cells e.src e.rest C.out C.row C.keys C.own hd rfl (by simp) (by simp) (by simp) (by simp) (gl' := gl) (capl' := capl) (by rw [List.append_nil]; exact hl) (.inl rfl) C.ck C.cd (by simp [hWt])
  simp only [List.append_nil] at hI
  exact ⟨Sq', zs', _, hI⟩
/-- a step whose value has kids: their copy is left to be filled -/
theorem CpI.after1 (i : CpI (cpc H N) w wr d vw (.slice (some ⟨gl, 0, none⟩) (L0 ++ Lq).length capl) m h q L0 S0 Ss0 Lq Sq Ssq Sr zs gl capl) (hq : q < h.n) (e : ElV wr h q Sr zs z0 z1 z2 n3 c3 n4 c4 a3 p3 a4 p4 e3 e4 ys zs3 zs4 S3i S4i Sb) (hw : Below wr.heap.size wr wx)
    (R3 : CpyR wx w3 9 219 cpS1 1 n3 zs3 (H + 1) H (okS H ((Ss0 ++ Ssq) ++ Sr)) a3 kv fk) {g4 cap4 : Nat}
    (R4 : CpyR (w3.setCell ⟨h.g, q * 5 + 3, none⟩ kv) w5 31 222 cpV1 5 n4 zs4 (N + 1) N (okS H ((Ss0 ++ Ssq) ++ Sr)) a4 (.slice (some ⟨g4, 0, none⟩) n4 cap4) fd) (h0 : 0 < n4)
    {gl' capl' : Nat} (ho7 : OutS [gl] (w5.setCell ⟨h.g, q * 5 + 4, none⟩ (.slice (some ⟨g4, 0, none⟩) n4 cap4)) w7) (hl7 : w7.ownsRow H 29 1 (.slice (some ⟨gl', 0, none⟩) ((L0 ++ Lq).length + 1) capl') ((L0 ++ Lq).length + 1) ((L0 ++ Lq).map HL.v ++ [.slice (some ⟨g4, 0, none⟩) n4 cap4]))
    (hat : gl' = gl ∨ w5.heap.size ≤ gl') :
    ∃ Lq' Sq' zs' Ssq', (L0 ++ Lq').length = (L0 ++ Lq).length + 1 ∧ CpI (cpc H N) w w7 d vw (.slice (some ⟨gl', 0, none⟩) (L0 ++ Lq').length capl') m h (q + 1) L0 S0 Ss0 Lq' Sq' Ssq' Sb zs' gl' capl' := by
  have hn2 := i.nsrc
  have ha : ∀ s ∈ (Ss0 ++ Ssq) ++ Sr, s < H := i.asrc
  rw [e.src] at hn2 ha
  have C := i.core hq e hw R3 R4 ho7 (S4' := S4i) (fun s hs => hs)
  obtain ⟨e1, hrow, e2, hgl3⟩ := i.mid (q := q) hw R3
  have hws := hw.size
  have hkv : ∀ g ∈ blkOf kv, wx.heap.size ≤ g ∧ g < w3.heap.size := by
    rcases R3.res with ⟨_, rfl, _⟩ | ⟨_, _, g', cap, rfl, h1, h2⟩
    · intro g hg; simp [blkOf, Value.ownBlock] at hg
    · exact fun g hg => ublk_lt h2 g hg
  obtain ⟨h4, ho4⟩ : w3.heap.size ≤ g4 ∧ w5.ownsRow w3.heap.size 31 5 (.slice (some ⟨g4, 0, none⟩) n4 cap4) n4 zs4 := by
    rcases R4.res with ⟨h1, _⟩ | ⟨_, _, g', cap, h2, h3, h5⟩
    · omega
    · cases h2
      have e : (w3.setCell ⟨h.g, q * 5 + 3, none⟩ kv).heap.size = w3.heap.size := by simp
      rw [e] at h3 h5
      exact ⟨h3, h5⟩
  have hg4 : g4 < w5.heap.size := (ublk_lt ho4 g4 (by simp [blkOf, Value.ownBlock])).2
  have hg := i.anew h.g (by simp)
  have hgl : H ≤ gl ∧ gl < wr.heap.size := ublk_lt i.left gl (by simp [blkOf, Value.ownBlock])
  have h3s := e1.size
  have o57 : OutS [h.g, gl] w5 w7 := ((OutS.refl _ _).setCell (p := ⟨h.g, q * 5 + 4, none⟩) (by simp) _).trans (ho7.mono (fun t ht => by simp at ht; simp [ht]))
  have o4 : w7.ownsRow H 31 5 (.slice (some ⟨g4, 0, none⟩) n4 cap4) n4 zs4 := by
    have h1 := uowns_frame ho4 (w' := w7) (fun x hx => o57.block x (ublk_lt ho4 x hx).2 (by
      have e : x = g4 := by simpa [blkOf, Value.ownBlock] using hx
      subst e
      simp; omega))
    refine ⟨h1.1, ?_⟩
    rcases h1.2 with hh | ⟨g, cap, cur, a1, a2, a3⟩
    · exact .inl hh
    · refine .inr ⟨g, cap, cur, a1, ?_, a3⟩
      have := hgl; omega
  have hlt : ∀ g ∈ S4i, g < H := fun g hg => ha g (by simp only [List.mem_append]; grind)
  have hsrc : Srcs w7 31 H [⟨g4, n4, c4, cap4⟩] S4i := by
    refine ⟨zs4, S4i, [], by simp, h0, e.t4, o4, e.h4.frame _ _ _ (fun g hg => C.out.block g (e.h4.lt _ _ _ g hg) (fun hx => ?_)), rfl⟩
    have h1 := hlt g hg
    simp only [List.mem_append, List.mem_cons, List.not_mem_nil, or_false] at hx
    rcases hx with hx | rfl | rfl
    · have := (i.fx g hx).1
      change H ≤ g at this
      omega
    · omega
    · have := (i.anew h.g (by simp)).1
      change H ≤ _ at this
      omega
  have hlen : (L0 ++ (Lq ++ [(⟨g4, n4, c4, cap4⟩ : HL)])).length = (L0 ++ Lq).length + 1 := by simp; omega
  obtain ⟨Sq', zs', hI⟩ := i.step (M := [⟨g4, n4, c4, cap4⟩]) (S4' := S4i) (S4 := blkOf (.slice a4 n4 p4) ++ S4i) hq e.row e.cells e.src e.rest C.out C.row C.keys C.own (hH.open g4 n4 cap4 c4) hsrc (by simp) (fun s hs => by
      simp only [List.map_cons, List.map_nil, List.mem_cons, List.not_mem_nil, or_false] at hs
      rw [hs]
      refine ⟨by omega, Nat.lt_of_lt_of_le hg4 o57.size, fun hk => ?_⟩
      have := (hkv _ hk).2
      omega) (by
      simp only [List.nodup_append] at hn2
      grind) (fun s hs => List.mem_append_right _ hs) (gl' := gl') (capl' := capl') (by
      rw [hlen]
      have e : (L0 ++ (Lq ++ [(⟨g4, n4, c4, cap4⟩ : HL)])).map HL.v = (L0 ++ Lq).map HL.v ++ [.slice (some ⟨g4, 0, none⟩) n4 cap4] := by simp [HL.v]
      rw [e]; exact hl7) (by
      rcases hat with h | h
      · exact .inl h
      · refine .inr ⟨?_, fun hk => ?_, fun hk => ?_⟩
        · have := R4.out.size; simp at this; omega
        · have := (hkv _ hk).2; have := R4.out.size; simp at this; omega
        · simp at hk; omega) C.ck C.cd (by rw [hWt_one]; exact Nat.le_refl _)
  exact ⟨_, Sq', zs', _, hlen, hI⟩
end
end Go.Proofs.YtamlgjmboljcdaaGreat
