/- Copying any value: impl.copyOfAny, row by row. -/
import Derived.Test.YtamlgjmboljcdaaGreatCpyC
namespace Go.Proofs.YtamlgjmboljcdaaGreat
open Go.RowKit Go.BigFrame Go.Maps
set_option linter.unusedVariables false

theorem uszD_wtC : ∀ (d : UD) (fs : List UF) (i : Nat), tyU d fs i → uszD d ≤ d.len + 40 * wt d
  | .nil, _, _, _ => Nat.zero_le _
  | .p v r, fs, i, h => by have := uszD_wtC r fs (i + 1) h.2; rw [uszD, UD.len_p, wt]; omega
  | .l k n cs r, fs, i, ⟨⟨t, h1, h2, h3, h4, h5, h6⟩, h7⟩ => by
    have e1 := uszD_wtC r fs (i + 1) h7
    have e2 := uszD_wtC cs (uE t) 0 h6
    have e3 : n * k ≤ n * 40 := Nat.mul_le_mul_left n (by rw [h3]; exact uE_len t)
    rw [uszD, UD.len_l, wt]; omega
structure NewC (w w' : World) (t : TypeId) (f1 : Field) : Prop where
  cop : Cop w' t f1 (w.heap.size + 1) w.heap.size (fun _ => False)
  size : w'.heap.size = w.heap.size + 2
  bel : Below w.heap.size w w'
theorem NewC.mk2 (w : World) (t : TypeId) (f1 : Field) : NewC w ((w.alloc (.map #[] 0)).alloc (.cells #[.int .i64 10000, .map (some w.heap.size)] t)) t f1 :=
  ⟨⟨⟨10000, objU.new2 _ _ (by simp)⟩, (PMap.made w [f1] _).below ((Below.refl _ _).alloc (Nat.le_refl _) _)⟩, by simp, ((Below.refl _ _).alloc (Nat.le_refl _) _).alloc (by simp) _⟩
set_option maxHeartbeats 1600000 in
theorem newS_any (w : World) : Calls Tryz.prog 178 #[] w fun e w' => e = .returned (.pointer (some ⟨w.heap.size + 1, 0, none⟩)) ∧ Hid (NewC w w' 219 cpS1) := by
  have hmm := @run_makeMap Tryz.prog
  have HN : Hid _ := NewC.mk2 w 219 cpS1
  go_enter Tryz.func178, Tryz.ntmps178
  go_wp2
  go_ret
  exact ⟨rfl, HN⟩
set_option maxHeartbeats 1600000 in
theorem newV_any (w : World) : Calls Tryz.prog 179 #[] w fun e w' => e = .returned (.pointer (some ⟨w.heap.size + 1, 0, none⟩)) ∧ Hid (NewC w w' 222 cpV1) := by
  have hmm := @run_makeMap Tryz.prog
  have HN : Hid _ := NewC.mk2 w 222 cpV1
  go_enter Tryz.func179, Tryz.ntmps179
  go_wp2
  go_ret
  exact ⟨rfl, HN⟩
/-- what a copy is -/
def copied (w w' : World) (d : UD) (e : Ending) : Prop := ∃ ys S, e = .returned (.agg ys.toArray) ∧ oH w' d ys S ∧ own2 S w.heap.size w'.heap.size ∧ Below w.heap.size w w'
theorem copied.mk' {w w' : World} {d : UD} {ys : List Value} {S : List Nat} (h : oH w' d ys S) (hS : own2 S w.heap.size w'.heap.size) (hb : Below w.heap.size w w') : copied w w' d (.returned (.agg ys.toArray)) := ⟨ys, S, rfl, h, hS, hb⟩
theorem OutS.grownC {w w' : World} {g : Nat} (h : w.grownBy w' (some g)) : OutS [g] w w' := ⟨h.os, h.tape, h.output, h.size, fun k hk hr => h.block k hk (fun e => hr (by simpa using e))⟩
theorem infoCpL : ∃ i, Tryz.prog.info? 29 = some i ∧ i.zero = some (.slice none 0 0) ∧ i.size = 1 ∧ i.bytes = 24 := by
  have h : (Tryz.prog.info? 29).map (fun i => (i.zero, i.size, i.bytes)) = some (some (.slice none 0 0), 1, 24) := by kernel_rfl
  cases e : Tryz.prog.info? 29 with
  | none => rw [e] at h; cases h
  | some i => rw [e] at h; simp at h; exact ⟨i, rfl, h.1, h.2.1, h.2.2⟩
set_option maxRecDepth 20000 in
set_option maxHeartbeats 3200000 in
theorem copyOfAny_N (d : UD) (xs : List Value) (S : List Nat) (w : World) (ht : tyL d (uE 6)) (hwt : wt d ≤ 1048576) (hx : oH w d xs S) (hS : S.Nodup) :
    Calls Tryz.prog 152 #[.agg xs.toArray] w fun e w' => copied w w' d e := by
  have ht0 := ht
  obtain ⟨z0, z1, z2, n3, c3, n4, c4, rfl, g0, g1, g2, g3, g4⟩ := partsValue ht
  have hx0 := hx
  obtain ⟨a3, p3, a4, p4, S3, S4, rfl, rfl, o3, o4⟩ := oH.value hx
  have Ht := uhide ht0
  have Hx := uhide hx0
  have HS := uhide hS
  have HM : Hid (uszD (.p (.int .i64 z0) (.p (.string z1) (.p (.int .i64 z2) (.l 1 n3 c3 (.l 5 n4 c4 .nil))))) ≤ 100000000) := by
    have e1 := uszD_wtC _ _ _ (tyS.one6 ht0).2.2.2.2
    have e2 := ht0.len
    have e3 : (uE 6).length = 5 := rfl
    show _ ≤ _
    omega
  clear ht ht0 hx hx0 hS o3 o4 g0 g1 g2 g3 g4 hwt
  go_enter Tryz.func152, Tryz.ntmps152
  go_wp2_with fail
  have B0 : Hid (Below w.heap.size w ((w.alloc (.cells #[.int .i64 z0, .string z1, .int .i64 z2, .slice a3 n3 p3, .slice a4 n4 p4] 31)).alloc (.cells #[.int .i64 0, .string ⟨#[]⟩, .int .i64 0, .slice none 0 0, .slice none 0 0] 31))) := ((Below.refl _ _).alloc (Nat.le_refl _) _).alloc (by simp) _
  have OB : Hid (objU ((w.alloc (.cells #[.int .i64 z0, .string z1, .int .i64 z2, .slice a3 n3 p3, .slice a4 n4 p4] 31)).alloc (.cells #[.int .i64 0, .string ⟨#[]⟩, .int .i64 0, .slice none 0 0, .slice none 0 0] 31)) w.heap.size 31 [.int .i64 z0, .string z1, .int .i64 z2, .slice a3 n3 p3, .slice a4 n4 p4]) := (objU.new _ _ _).old _
  have OZ : Hid (objU ((w.alloc (.cells #[.int .i64 z0, .string z1, .int .i64 z2, .slice a3 n3 p3, .slice a4 n4 p4] 31)).alloc (.cells #[.int .i64 0, .string ⟨#[]⟩, .int .i64 0, .slice none 0 0, .slice none 0 0] 31)) (w.heap.size + 1) 31 [.int .i64 0, .string ⟨#[]⟩, .int .i64 0, .slice none 0 0, .slice none 0 0]) := objU.new2 _ _ (by simp)
  have HZ : Hid (((w.alloc (.cells #[.int .i64 z0, .string z1, .int .i64 z2, .slice a3 n3 p3, .slice a4 n4 p4] 31)).alloc (.cells #[.int .i64 0, .string ⟨#[]⟩, .int .i64 0, .slice none 0 0, .slice none 0 0] 31)).heap.size = w.heap.size + 2) := by show _ = _; simp
  generalize (w.alloc (.cells #[.int .i64 z0, .string z1, .int .i64 z2, .slice a3 n3 p3, .slice a4 n4 p4] 31)).alloc (.cells #[.int .i64 0, .string ⟨#[]⟩, .int .i64 0, .slice none 0 0, .slice none 0 0] 31) = w0 at *
  have Hx0 := uhide (Hx.out.below B0.out)
  clear Hx
  refine (newS_any w0).mono ?_
  rintro e w1 ⟨rfl, N1⟩
  go_wp2_with fail
  refine (newV_any w1).mono ?_
  rintro e w2 ⟨rfl, N2⟩
  have B2 : Hid (Below w0.heap.size w0 w2) := N1.out.bel.trans (N2.out.bel.mono N1.out.bel.size)
  have K2 : Hid (Cop w2 219 cpS1 (w0.heap.size + 1) w0.heap.size (fun _ => False)) := N1.out.cop.below N2.out.bel
  have D2 : Hid (Cop w2 222 cpV1 (w1.heap.size + 1) w1.heap.size (fun _ => False)) := N2.out.cop
  have Z1 : Hid (w1.heap.size = w0.heap.size + 2) := N1.out.size
  have Z2 : Hid (w2.heap.size = w1.heap.size + 2) := N2.out.size
  have OB2 := uhide (OB.out.below B2.out)
  have HST := uhide (CpO.start Ht.out Hx0.out HS.out rfl Z1.out Z2.out B2.out K2.out D2.out)
  have x0 := OB2.out.cell 0 _ rfl
  have x1 := OB2.out.cell 1 _ rfl
  have x2 := OB2.out.cell 2 _ rfl
  have x3 := OB2.out.cell 3 _ rfl
  have x4 := OB2.out.cell 4 _ rfl
  clear N1 N2 K2 D2 OB OB2 Hx0 HS
  generalize w1.heap.size = N at *
  generalize hD : (UD.p (.int .i64 z0) (.p (.string z1) (.p (.int .i64 z2) (.l 1 n3 c3 (.l 5 n4 c4 .nil))))) = D at *
  have HD := uhide hD
  clear hD
  generalize hM : uszD D = M at *
  clear hM
  obtain ⟨μ, hμ⟩ := least_of (fun (x : Value × World) (m : Nat) => m ≤ M ∧ ∃ L S Ss gl capl, CpO (cpc w0.heap.size N) w0 x.2 D (.slice (some ⟨w2.heap.size, 0, none⟩) 1 1) x.1 m L S Ss gl capl)
  have Hμ := uhide hμ
  clear hμ
  go_wp2_with fail
  go_loopw [6] (fun v wr => Hid (∃ m, m ≤ M ∧ ∃ L S Ss gl capl, CpO (cpc w0.heap.size N) w0 wr D (.slice (some ⟨w2.heap.size, 0, none⟩) 1 1) v m L S Ss gl capl)) (fun v wr => μ (v, wr))
  case atStart => exact ⟨M, Nat.le_refl _, _, _, _, _, _, HST.out⟩
  case round =>
    clear HST x0 x1 x2 x3 x4
    obtain ⟨m0, hm0⟩ := hrel
    obtain ⟨⟨hle, hO⟩, -⟩ := Hμ.out (_, wr) _ hm0
    generalize hmu : μ (_, wr) = m at *
    obtain ⟨L, S, Ss, gl, capl, hO⟩ := hO
    have helv := hO.elv
    subst helv
    rcases List.eq_nil_or_concat L with rfl | ⟨L', h, rfl⟩
    · have hT := hO.tree.done _ _ _ _ rfl
      obtain ⟨c, ys, S1, S2, e1, e2, hk, ⟨t, zs, hown, hoh⟩, ⟨e3, e4⟩⟩ := hT
      cases e1
      subst e4
      subst e2
      rw [← HD.out] at hoh
      have hoh0 := hoh
      obtain ⟨b3, q3, b4, q4, R3, R4, rfl, rfl, o3, o4⟩ := oH.value hoh
      have y0 : wr.cell? ⟨w2.heap.size, 0, none⟩ = some (.int .i64 z0) := by rw [hown.cellAt 0 (by decide)]; rfl
      have y1 : wr.cell? ⟨w2.heap.size, 1, none⟩ = some (.string z1) := by rw [hown.cellAt 1 (by decide)]; rfl
      have y2 : wr.cell? ⟨w2.heap.size, 2, none⟩ = some (.int .i64 z2) := by rw [hown.cellAt 2 (by decide)]; rfl
      have y3 : wr.cell? ⟨w2.heap.size, 3, none⟩ = some (.slice b3 n3 q3) := by rw [hown.cellAt 3 (by decide)]; rfl
      have y4 : wr.cell? ⟨w2.heap.size, 4, none⟩ = some (.slice b4 n4 q4) := by rw [hown.cellAt 4 (by decide)]; rfl
      have hbel := hO.bel
      have OZr : Hid (objU wr (w.heap.size + 1) 31 [.int .i64 0, .string ⟨#[]⟩, .int .i64 0, .slice none 0 0, .slice none 0 0]) := (hbel.block _ OZ.out.lt).trans OZ.out
      have hSn : own2 (R3 ++ R4) (w.heap.size + 2) wr.heap.size := by
        have h1 := hO.nnew
        have h2 := hO.anew
        have h3 := HZ.out
        refine ⟨?_, fun s hs => ?_⟩
        · simp only [List.map_nil, List.append_nil] at h1
          exact (List.nodup_append.1 h1).2.1
        · obtain ⟨q1, q2, _⟩ := h2 s (by simp only [List.mem_append] at hs ⊢; grind)
          have q1' : w0.heap.size ≤ s := q1
          have q2' : s < wr.heap.size := q2
          exact ⟨by omega, q2'⟩
      have Hoh := uhide hoh0
      have HSn := uhide hSn
      have HBw : Hid (Below w.heap.size w wr) := B0.out.trans (hbel.mono B0.out.size)
      have t0 := OZr.out.cell 0 _ rfl
      have t1 := OZr.out.cell 1 _ rfl
      have t2 := OZr.out.cell 2 _ rfl
      have t3 := OZr.out.cell 3 _ rfl
      have t4 := OZr.out.cell 4 _ rfl
      have u0 := OZr.out.fz 0
      have u1 := OZr.out.fz 1
      have u2 := OZr.out.fz 2
      have u3 := OZr.out.fz 3
      have u4 := OZr.out.fz 4
      simp only [List.length_nil]
      clear hO hown hoh hoh0 o3 o4 hm0 hle hmu Hμ hbel hSn
      go_wp2
      have HO : Hid (OutS [w.heap.size + 1] wr (((((wr.setCell ⟨w.heap.size + 1, 0, none⟩ (.int .i64 z0)).setCell ⟨w.heap.size + 1, 1, none⟩ (.string z1)).setCell ⟨w.heap.size + 1, 2, none⟩ (.int .i64 z2)).setCell ⟨w.heap.size + 1, 3, none⟩ (.slice b3 n3 q3)).setCell ⟨w.heap.size + 1, 4, none⟩ (.slice b4 n4 q4))) := by
        show OutS _ _ _
        repeat (first | with_reducible exact OutS.refl _ _ | with_reducible refine OutS.setCell ?_ (show _ ∈ [w.heap.size + 1] by simp) _)
      refine bodyPost_ret (v := .agg #[.int .i64 z0, .string z1, .int .i64 z2, .slice b3 n3 q3, .slice b4 n4 q4]) ?_ rfl (copied.mk' (S := R3 ++ R4) (ys := [.int .i64 z0, .string z1, .int .i64 z2, .slice b3 n3 q3, .slice b4 n4 q4]) ?_ ?_ ?_)
      · simp [results, Tryz.results152, go_sem, t0, t1, t2, t3, t4]
      · exact Hoh.out.outS HO.out (fun x hx => by have := HSn.out.2 x hx; simp; omega)
      · exact ⟨HSn.out.1, fun s hs => by have := HSn.out.2 s hs; have := HO.out.size; omega⟩
      · exact HBw.out.trans (HO.out.below (fun t ht => by simp at ht; omega) HBw.out.size)
    · rw [List.concat_eq_append] at hO hmu hm0 ⊢
      obtain ⟨Ss0, Sr, zs, hI, hn⟩ := CpI.start hO
      obtain ⟨g, n, cs, cap⟩ := h
      change 0 < n at hn
      have hlen : (L' ++ [(⟨g, n, cs, cap⟩ : HL)]).length = L'.length + 1 := by simp
      rw [hlen] at hmu hm0 ⊢
      have hM := HM.out
      have hwt : hWt L' + uszD cs ≤ m := by have := hO.mea; rw [hWt_app, hWt_one] at this; exact this
      have hcnt := hO.src.count
      have hmea := hO.mea
      have hn5 : n * 5 ≤ uszD cs := by have := uszD_len cs; rw [hI.ty.2.2.2.1] at this; exact this
      have hn8 : n ≤ 100000000 := by omega
      have hk8 : L'.length ≤ 100000000 := by rw [hlen] at hcnt; omega
      have hl := hO.left
      rw [hlen] at hl
      have c0 : wr.cell? ⟨gl, L'.length, none⟩ = some (.slice (some ⟨g, 0, none⟩) n cap) := by
        rw [hl.cellAt _ (by omega), List.map_append, List.getElem?_append_right (by simp)]
        simp [HL.v]
      have hcap : L'.length + 1 ≤ capl := by
        rcases hl.2 with ⟨h, _⟩ | ⟨g', cap', cur, h, _, _, h2, _⟩
        · cases h
        · cases h; exact h2
      have hgw : gl < wr.heap.size := (ublk_lt hl gl (by simp [blkOf, Value.ownBlock])).2
      have HI := uhide hI
      have Hmu := uhide hmu
      have Hle := uhide hle
      clear hO hI hmu hm0 hle hwt hcnt hmea hn5 hl hlen hM
      generalize hk : L'.length = k at *
      have Hk := uhide hk
      clear hk
      go_wp2
      go_loopw [6, 34] (fun v i wr => ∃ q : Nat, q ≤ n ∧ i = .int .i64 q ∧ Hid (∃ L0 S0 Ss0 Lq Sq Ssq Sr zs gl capl, CpI (cpc w0.heap.size N) w0 wr D (.slice (some ⟨w2.heap.size, 0, none⟩) 1 1) v m ⟨g, n, cs, cap⟩ q L0 S0 Ss0 Lq Sq Ssq Sr zs gl capl)) (fun _ i _ => n - (intOf i).toNat)
      case atStart => exact ⟨0, Nat.zero_le _, rfl, ⟨_, _, _, _, _, _, _, _, _, _, HI.out⟩⟩
      case round =>
        clear HI c0 hcap hk8 hgw
        obtain ⟨q, hq, rfl, HS⟩ := hrel
        obtain ⟨L0, S0, Ss0, Lq, Sq, Ssq, Sr, zs, gl, capl, hI⟩ := HS.out
        have helv := hI.elv
        subst helv
        by_cases hlt : q < n
        · obtain ⟨y0, y1, y2, m3, f3, m4, f4, b3, r3, b4, r4, t3, t4, ys, zs3, zs4, S3i, S4i, Sb, hE⟩ := hI.elem hlt
          have hc : ∀ j v, [Value.int .i64 y0, .string y1, .int .i64 y2, .slice b3 m3 r3, .slice b4 m4 r4][j]? = some v → wr.cell? ⟨g, q * 5 + j, none⟩ = some v := fun j v hj => by
            have hj5 : j < 5 := (List.getElem?_eq_some_iff.1 hj).1
            have h1 := hI.row
            rw [show (HL.v ⟨g, n, cs, cap⟩) = .slice (some ⟨g, 0, none⟩) n cap from rfl] at h1
            have h9 : q * 5 + j < n * 5 := by omega
            rw [h1.cellAt (q * 5 + j) h9, ← List.getElem?_drop, hE.cells]
            rw [← hj]
            match j, hj5 with
            | 0, _ => rfl
            | 1, _ => rfl
            | 2, _ => rfl
            | 3, _ => rfl
            | 4, _ => rfl
          have x0 : wr.cell? ⟨g, q * 5, none⟩ = some (.int .i64 y0) := hc 0 _ rfl
          have x1 : wr.cell? ⟨g, q * 5 + 1, none⟩ = some (.string y1) := hc 1 _ rfl
          have x2 : wr.cell? ⟨g, q * 5 + 2, none⟩ = some (.int .i64 y2) := hc 2 _ rfl
          have x3 : wr.cell? ⟨g, q * 5 + 3, none⟩ = some (.slice b3 m3 r3) := hc 3 _ rfl
          have x4 : wr.cell? ⟨g, q * 5 + 4, none⟩ = some (.slice b4 m4 r4) := hc 4 _ rfl
          have hgl : g < wr.heap.size := (ublk_lt hI.row g (by simp [HL.v, blkOf, Value.ownBlock])).2
          have hM := HM.out
          have hle := Hle.out
          obtain ⟨hn3, hn4, hL8⟩ := hI.lens hE
          have hn3 : m3 ≤ 100000000 := by omega
          have hn4 : m4 ≤ 100000000 := by omega
          have hL8 : (L0 ++ Lq).length ≤ 100000000 := by omega
          clear hM hle
          have HK : Hid (∀ wx, Below wr.heap.size wr wx → Calls Tryz.prog 180 #[.pointer (some ⟨w0.heap.size + 1, 0, none⟩), .slice b3 m3 r3] wx fun e w' => cpyAns wx w' 9 219 cpS1 1 m3 zs3 (w0.heap.size + 1) w0.heap.size (okS w0.heap.size ((Ss0 ++ Ssq) ++ Sr)) b3 e) := fun wx hb => hI.kcall hE hb hn3
          have HI := uhide hI
          have HE := uhide hE
          clear hc hI hE HS
          obtain ⟨kl, hkl⟩ : ∃ k, k = (L0 ++ Lq).length := ⟨_, rfl⟩
          rw [← hkl] at hL8 ⊢
          have Hkl := uhide hkl
          clear hkl
          go_wp2_with fail
          refine (HK.out _ (by repeat (first | with_reducible exact Below.refl _ _ | with_reducible refine Below.drew ?_ | with_reducible refine below_drewN ?_ _ | with_reducible refine Below.alloc ?_ (by (try simp) <;> omega) _))).mono ?_
          rintro e w3 ⟨kv, fk, rfl, hR3⟩
          obtain ⟨ka, kc, rfl⟩ := hR3.slice
          have BX : Hid (Below wr.heap.size wr (wr.alloc (.cells #[.int .i64 y0, .string y1, .int .i64 y2, .slice b3 m3 r3, .slice b4 m4 r4] 31))) := (Below.refl _ _).alloc (Nat.le_refl _) _
          have OX : Hid (objU (wr.alloc (.cells #[.int .i64 y0, .string y1, .int .i64 y2, .slice b3 m3 r3, .slice b4 m4 r4] 31)) wr.heap.size 31 [.int .i64 y0, .string y1, .int .i64 y2, .slice b3 m3 r3, .slice b4 m4 r4]) := objU.new _ _ _
          generalize wr.alloc (.cells #[.int .i64 y0, .string y1, .int .i64 y2, .slice b3 m3 r3, .slice b4 m4 r4] 31) = wx at *
          have HR3 := uhide hR3
          have hfx := HI.out.fx
          have q1 : w0.heap.size + 1 < wr.heap.size := (hfx (w0.heap.size + 1) (by simp [cpc, CpC.fix])).2.1
          have q2 : N + 1 < wr.heap.size := (hfx (N + 1) (by simp [cpc, CpC.fix])).2.1
          have OX3 : Hid (objU w3 wr.heap.size 31 [.int .i64 y0, .string y1, .int .i64 y2, .slice b3 m3 r3, .slice b4 m4 r4]) := OX.out.outS hR3.out (by simp; omega)
          obtain ⟨e1, hrow, e2, hg3⟩ := HI.out.mid (q := q) BX.out hR3
          change w3.ownsRow _ _ 5 (.slice (some ⟨g, 0, none⟩) n cap) n zs at hrow
          have f3 : w3.frozen? ⟨g, q * 5 + 3, none⟩ = false := hrow.frozenAt _
          obtain ⟨zz3, g3⟩ : ∃ v, w3.cell? ⟨g, q * 5 + 3, none⟩ = some v := by
            rw [hrow.cellAt _ (by omega)]
            exact ⟨_, List.getElem?_eq_getElem (by rw [hrow.1]; omega)⟩
          have y4c := (OX3.out.other ⟨g, q * 5 + 3, none⟩ (by show wr.heap.size ≠ g; omega) (.slice ka m3 kc)).cell 4 _ rfl
          have HD4 : Hid (Calls Tryz.prog 181 #[.pointer (some ⟨N + 1, 0, none⟩), .slice b4 m4 r4] (w3.setCell ⟨g, q * 5 + 3, none⟩ (.slice ka m3 kc)) fun e w' => cpyAns (w3.setCell ⟨g, q * 5 + 3, none⟩ (.slice ka m3 kc)) w' 31 222 cpV1 5 m4 zs4 (N + 1) N (okS w0.heap.size ((Ss0 ++ Ssq) ++ Sr)) b4 e) := HI.out.dcall HE.out BX.out hn4 hR3
          clear HK hR3 hfx OX e1 e2 hrow x0 x1 x2 x3 x4
          go_wp2_with fail
          refine HD4.out.mono ?_
          rintro e w5 ⟨dv, fd, rfl, hR4⟩
          have HR4 := uhide hR4
          have hgN : g ≠ N + 1 ∧ g ≠ N := by
            have := (HI.out.anew g (by simp)).2.2.1
            simp only [cpc, CpC.fix, List.mem_cons, List.not_mem_nil, or_false, not_or] at this
            exact ⟨this.2.2.1, this.2.2.2⟩
          obtain ⟨e1, hrow, e2, hg3'⟩ := HI.out.mid (q := q) BX.out HR3.out
          change w3.ownsRow _ _ 5 (.slice (some ⟨g, 0, none⟩) n cap) n zs at hrow
          have hrow4 := (hrow.stored (q * 5 + 3) (.slice ka m3 kc)).1
          have hrow5 := uowns_frame hrow4 (w' := w5) (fun x hx => hR4.out.block x (ublk_lt hrow4 x hx).2 (by
            have e : x = g := by simpa [blkOf, Value.ownBlock] using hx
            subst e
            simp; omega))
          have f4' : w5.frozen? ⟨g, q * 5 + 4, none⟩ = false := hrow5.frozenAt _
          obtain ⟨zz4, g4'⟩ : ∃ v, w5.cell? ⟨g, q * 5 + 4, none⟩ = some v := by
            rw [hrow5.cellAt _ (by omega)]
            exact ⟨_, List.getElem?_eq_getElem (by rw [hrow5.1]; omega)⟩
          have hcw5 : g < w5.heap.size := World.block_lt_of_cell? _ _ g4'
          clear hrow hrow4 hrow5 e1 e2 f3 g3 y4c HD4 hg3 hg3'
          by_cases h4 : m4 = 0
          · have HF : Hid (∃ L0 S0 Ss0 Lq Sq Ssq Sr zs gl' capl', CpI (cpc w0.heap.size N) w0 (w5.setCell ⟨g, q * 5 + 4, none⟩ dv) D (.slice (some ⟨w2.heap.size, 0, none⟩) 1 1) (.slice (some ⟨gl, 0, none⟩) kl capl) m ⟨g, n, cs, cap⟩ (q + 1) L0 S0 Ss0 Lq Sq Ssq Sr zs gl' capl') := by
              obtain ⟨Sq', zs', Ssq', hN⟩ := HI.out.after0 hlt HE.out BX.out HR3.out HR4.out h4
              rw [← Hkl.out] at hN
              exact ⟨_, _, _, _, _, _, _, _, _, _, hN⟩
            subst h4
            obtain ⟨rfl, rfl, _⟩ := cpy_kids0 (w' := w5) hR4 HE.out.t4
            clear hR4 HR4 HR3 HE HI OX3 BX Hkl
            go_wp2
            go_roundw
            case rel => exact ⟨q + 1, by omega, by go_num, HF⟩
            case measure => simp [intOf]; omega
          · obtain ⟨g4, cap4, rfl, rfl⟩ : ∃ g' cap, dv = .slice (some ⟨g', 0, none⟩) m4 cap ∧ fd = true := by
              rcases hR4.res with ⟨h, _⟩ | ⟨_, h1, g', cap, h2, _⟩
              · exact (h4 h).elim
              · exact ⟨g', cap, h2, h1⟩
            have HG : Hid (∀ (w7 : World) (gl' capl' : Nat), OutS [gl] (w5.setCell ⟨g, q * 5 + 4, none⟩ (.slice (some ⟨g4, 0, none⟩) m4 cap4)) w7 → w7.ownsRow w0.heap.size 29 1 (.slice (some ⟨gl', 0, none⟩) (kl + 1) capl') (kl + 1) ((L0 ++ Lq).map HL.v ++ [(.slice (some ⟨g4, 0, none⟩) m4 cap4)]) → (gl' = gl ∨ w5.heap.size ≤ gl') →
                ∃ L0 S0 Ss0 Lq Sq Ssq Sr zs gl2 capl2, CpI (cpc w0.heap.size N) w0 w7 D (.slice (some ⟨w2.heap.size, 0, none⟩) 1 1) (.slice (some ⟨gl', 0, none⟩) (kl + 1) capl') m ⟨g, n, cs, cap⟩ (q + 1) L0 S0 Ss0 Lq Sq Ssq Sr zs gl2 capl2) := fun w7 gl' capl' a1 a2 a3 => by
              rw [Hkl.out] at a2 ⊢
              obtain ⟨Lq', Sq', zs', Ssq', hlen, hN⟩ := HI.out.after1 hlt HE.out BX.out HR3.out HR4.out (by omega) a1 a2 a3
              rw [hlen] at hN
              exact ⟨_, _, _, _, _, _, _, _, gl', capl', hN⟩
            have hll := HI.out.left
            have hglx := ublk_lt hll gl (by simp [blkOf, Value.ownBlock])
            have hgg : gl ≠ g := fun e => (HI.out.anew g (by simp)).2.2.2 e.symm
            have hfg : gl ∉ (cpc w0.heap.size N).fix := fun hh => (HI.out.fx gl hh).2.2 rfl
            simp only [cpc, CpC.fix, List.mem_cons, List.not_mem_nil, or_false, not_or] at hfg
            obtain ⟨_, _, e2, _⟩ := HI.out.mid (q := q) BX.out HR3.out
            change OutS [w0.heap.size + 1, w0.heap.size, g] _ _ at e2
            have o5 : OutS [w0.heap.size + 1, w0.heap.size, g, N + 1, N] wr (w5.setCell ⟨g, q * 5 + 4, none⟩ (.slice (some ⟨g4, 0, none⟩) m4 cap4)) := ((e2.mono (fun t ht => by simp at ht; simp; omega)).trans (HR4.out.out.mono (fun t ht => by simp at ht; simp; omega))).setCell (by simp) _
            have How : Hid ((w5.setCell ⟨g, q * 5 + 4, none⟩ (.slice (some ⟨g4, 0, none⟩) m4 cap4)).ownsRow w0.heap.size 29 1 (.slice (some ⟨gl, 0, none⟩) kl capl) kl ((L0 ++ Lq).map HL.v)) := by
              rw [← Hkl.out] at hll
              exact uowns_frame hll (fun x hx => o5.block x (ublk_lt hll x hx).2 (by
                have e : x = gl := by simpa [blkOf, Value.ownBlock] using hx
                subst e
                simp; omega))
            have hcn : ∀ j u, [(.slice (some ⟨g4, 0, none⟩) m4 cap4)][j]? = some u → ((w5.setCell ⟨g, q * 5 + 4, none⟩ (.slice (some ⟨g4, 0, none⟩) m4 cap4)).alloc (.cells #[(.slice (some ⟨g4, 0, none⟩) m4 cap4)] 29)).cell? ((⟨w5.heap.size, 0, none⟩ : Addr).add j) = some u := by
              have := cells_new (w5.setCell ⟨g, q * 5 + 4, none⟩ (.slice (some ⟨g4, 0, none⟩) m4 cap4)) [(.slice (some ⟨g4, 0, none⟩) m4 cap4)] 29
              have e : (w5.setCell ⟨g, q * 5 + 4, none⟩ (.slice (some ⟨g4, 0, none⟩) m4 cap4)).heap.size = w5.heap.size := by simp
              rw [e] at this
              exact this
            have Hcn := uhide hcn
            have hb5 : w0.heap.size ≤ w5.heap.size := by have := o5.size; simp at this; omega
            obtain ⟨i2, hi2, hi20, hi21, hi22⟩ := infoCpL
            clear hR4 HR4 HR3 HE HI OX3 BX e2 o5 hll hglx hcn hfg
            go_wp2_with (at_builtin; refine wpList_append_lies _ rfl _ _ 204 rfl w0.heap.size 29 i2 _ 1 24 Tryz.underlying204 hi2 hi20 hi21 hi22 rfl (by decide) (.slice (some ⟨gl, 0, none⟩) kl capl) kl _ rfl (How.out.alloc _) ⟨w5.heap.size, 0, none⟩ 1 1 [(.slice (some ⟨g4, 0, none⟩) m4 cap4)] rfl rfl Hcn.out (fun u hu => by simp at hu; rcases hu with rfl; rfl) (by decide) (by unfold maxLen; omega) (by omega) (by simp; omega) _ rfl ?_; intro g7 cap7 w7 hown7 hgrow7 hat7 hlt7)
            have HS7 := uhide (HG.out w7 g7 cap7 ((OutS.of_below ((Below.refl _ _).alloc (Nat.le_refl _) _)).trans (OutS.grownC hgrow7)) hown7 (by
              rcases hat7 with h | h
              · exact .inl (by cases h; rfl)
              · exact .inr (by simp at h; omega)))
            clear hown7 hgrow7 hat7 hlt7 HG How Hcn hi2 hi20 hi21 hi22
            go_wp2
            go_roundw
            case rel => exact ⟨q + 1, by omega, by go_num, HS7⟩
            case measure => simp [intOf]; omega
        · have e : q = n := by omega
          subst e
          obtain ⟨S', m', hlt', hO⟩ := hI.over hn
          have HS2 := uhide hO
          have Hlt := uhide hlt'
          clear hI HS hO hlt'
          go_wp2
          go_roundw
          case rel => exact ⟨m', by have := Hle.out; have := Hlt.out; omega, _, _, _, _, _, HS2.out⟩
          case measure =>
            have := (Hμ.out (_, wr) m' ⟨by have := Hle.out; have := Hlt.out; omega, _, _, _, _, _, HS2.out⟩).2
            have e := Hmu.out
            have h3 := Hlt.out
            rw [e]
            exact Nat.lt_of_le_of_lt this h3
end Go.Proofs.YtamlgjmboljcdaaGreat
