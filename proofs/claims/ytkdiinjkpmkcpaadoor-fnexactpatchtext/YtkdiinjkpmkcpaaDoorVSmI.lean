/- impl.SameValue: row by row, the rows that are left in a list of their own. -/
import Derived.Test.YtkdiinjkpmkcpaaDoorVSmK
import Derived.Test.YtkdiinjkpmkcpaaDoorU4
import Derived.Deep.RegionHeld3
import Derived.Deep.CutRange
import Derived.Maps.OwnSet
namespace Go.Proofs.YtkdiinjkpmkcpaaDoor
open Go.RowKit Go.BigFrame Go.Maps
set_option linter.unusedVariables false

theorem uszD_wt : ∀ (d : UD) (fs : List UF) (i : Nat), tyU d fs i → uszD d ≤ d.len + 40 * wt d
  | .nil, _, _, _ => Nat.zero_le _
  | .p v r, fs, i, h => by have := uszD_wt r fs (i + 1) h.2; rw [uszD, UD.len_p, wt]; omega
  | .l k n cs r, fs, i, ⟨⟨t, h1, h2, h3, h4, h5, h6⟩, h7⟩ => by
    have e1 := uszD_wt r fs (i + 1) h7
    have e2 := uszD_wt cs (uE t) 0 h6
    have e3 : n * k ≤ n * 40 := Nat.mul_le_mul_left n (by rw [h3]; exact uE_len t)
    rw [uszD, UD.len_l, wt]; omega
/-- the blocks that are kept: the old ones, and the two first rows -/
def keptB (H k : Nat) : Prop := k < H ∨ k = H + 3 ∨ k = H + 4
def okB (H : Nat) (S : List Nat) (c : Addr) : Prop := keptB H c.block ∧ c.block ∉ S
/-- what stands at the head of a round -/
structure SvO (w wr : World) (T : TypeId) (fs : List Field) (P : Prop) (M : Nat) (v : Value) (m : Nat) : Prop where
  ex : ∃ (L : List (Nat × UD × UD)) (xs : List Value) (S : List Nat) (g cap : Nat), v = .slice (some ⟨g, 0, none⟩) L.length cap ∧ wr.ownsRow (w.heap.size + 5) T 2 (.slice (some ⟨g, 0, none⟩) L.length cap) L.length xs ∧ Pend wr (keptB w.heap.size) L xs S ∧ S.Nodup ∧
    PMap wr fs (w.heap.size + 2) (okB w.heap.size S) ∧ (P ↔ allEq L) ∧ mWt L ≤ m
  le : m ≤ M
  bel : Below w.heap.size w wr
  size : w.heap.size + 5 < wr.heap.size
theorem UD.app_nil' (d : UD) : d.app .nil = d := by apply UD.ext; rw [UD.app_toL]; show d.toL ++ [] = _; rw [List.append_nil]
theorem tyS.row1 {d : UD} {t : Nat} (hf : 0 < (uE t).length) (h : tyL d (uE t)) : tyS (uE t).length 1 d t := by
  refine ⟨hf, rfl, by decide, by rw [h.len, Nat.one_mul], ?_⟩
  have := tyU.row hf (d := d) (rest := .nil) (i := 0) (j := 0) (by rw [List.drop_zero]; exact h) (Nat.zero_mod _) trivial
  rw [UD.app_nil'] at this
  exact this
theorem oS.one {w : World} {d : UD} {xs : List Value} {S : List Nat} (T : TypeId) (h : oH w d xs S) (hl : xs.length = 5) {B : Nat} (hB : B = w.heap.size) : oS (w.alloc (.cells xs.toArray T)) 5 1 d (.slice (some ⟨B, 0, none⟩) 1 1) (B :: S) := by
  subst hB
  exact ⟨by decide, T, xs, S, by simpa using World.ownsRow_lit (base := 0) (size := 5) (e := T) w xs.toArray 1 (Nat.zero_le _) (by decide) (by simp [hl]), h.below ((Below.refl _ _).alloc (Nat.le_refl _) _), rfl⟩
theorem SvO.start {w : World} {d d' : UD} {xs ys : List Value} {S0 S1 : List Nat} (T T2 : TypeId) (fs : List Field) (hx : oH w d xs S0) (hy : oH w d' ys S1) (hn : S0.Nodup) (ht : tyL d (uE 6)) (ht' : tyL d' (uE 6)) (hl : xs.length = 5) (hl' : ys.length = 5) :
    SvO w ((((((w.alloc (.cells xs.toArray T)).alloc (.cells ys.toArray T)).alloc (.map #[] 0)).alloc (.cells xs.toArray T)).alloc (.cells ys.toArray T)).alloc (.cells #[.slice (some ⟨w.heap.size + 1 + 1 + 1, 0, none⟩) 1 1, .slice (some ⟨w.heap.size + 1 + 1 + 1 + 1, 0, none⟩) 1 1] T2)) T2 fs (d = d') (uszD d)
      (.slice (some ⟨w.heap.size + 1 + 1 + 1 + 1 + 1, 0, none⟩) 1 1) (uszD d) := by
  have b1 : ∀ o1 o2 o3 : Obj, Below w.heap.size w (((w.alloc o1).alloc o2).alloc o3) := fun o1 o2 o3 => (((Below.refl _ _).alloc (Nat.le_refl _) _).alloc (by simp) _).alloc (by simp; omega) _
  refine ⟨⟨[(1, d, d')], [.slice (some ⟨w.heap.size + 1 + 1 + 1, 0, none⟩) 1 1, .slice (some ⟨w.heap.size + 1 + 1 + 1 + 1, 0, none⟩) 1 1], (w.heap.size + 1 + 1 + 1) :: S0, w.heap.size + 1 + 1 + 1 + 1 + 1, 1, rfl, ?_, ?_, ?_, ?_, ?_, ?_⟩, Nat.le_refl _, ?_, by simp⟩
  · have := World.ownsRow_lit (base := w.heap.size + 5) (size := 2) (e := T2) (((((w.alloc (.cells xs.toArray T)).alloc (.cells ys.toArray T)).alloc (.map #[] 0)).alloc (.cells xs.toArray T)).alloc (.cells ys.toArray T)) #[.slice (some ⟨w.heap.size + 1 + 1 + 1, 0, none⟩) 1 1, .slice (some ⟨w.heap.size + 1 + 1 + 1 + 1, 0, none⟩) 1 1] 1 (by simp) (by decide) (by rfl)
    simpa using this
  · refine ⟨_, _, [], (w.heap.size + 1 + 1 + 1) :: S0, (w.heap.size + 1 + 1 + 1 + 1) :: S1, [], rfl, by simp, Nat.one_pos, tyS.row1 (t := 6) (by decide) ht, tyS.row1 (t := 6) (by decide) ht', ?_, ?_, ?_, ?_, rfl, rfl⟩
    · exact (oS.one T (hx.below (b1 _ _ _)) hl (by simp)).below (((Below.refl _ _).alloc (Nat.le_refl _) _).alloc (by simp) _)
    · exact (oS.one T (hy.below ((b1 _ _ _).alloc (by simp; omega) _)) hl' (by simp)).below ((Below.refl _ _).alloc (Nat.le_refl _) _)
    · intro t ht
      rcases List.mem_cons.1 ht with rfl | ht
      · exact .inr (.inl rfl)
      · exact .inl (hx.lt _ _ _ t ht)
    · intro t ht
      rcases List.mem_cons.1 ht with rfl | ht
      · exact .inr (.inr rfl)
      · exact .inl (hy.lt _ _ _ t ht)
  · exact List.nodup_cons.2 ⟨fun h => by have := hx.lt _ _ _ _ h; omega, hn⟩
  · have := PMap.made ((w.alloc (.cells xs.toArray T)).alloc (.cells ys.toArray T)) fs (okB w.heap.size ((w.heap.size + 1 + 1 + 1) :: S0))
    have e : ((w.alloc (.cells xs.toArray T)).alloc (.cells ys.toArray T)).heap.size = w.heap.size + 2 := by simp
    rw [e] at this
    exact this.below ((((Below.refl _ _).alloc (Nat.le_refl _) _).alloc (by simp) _).alloc (by simp) _)
  · rw [allEq.cons]; exact ⟨fun h => ⟨h, fun r hr => by cases hr⟩, fun h => h.1⟩
  · rw [mWt_cons]; exact Nat.le_refl _
  · exact (((b1 _ _ _).alloc (by simp; omega) _).alloc (by simp; omega) _).alloc (by simp; omega) _
/-- within a round: the rows that are left, the two at hand from the q-th element on -/
structure SvI (w wr : World) (T : TypeId) (fs : List Field) (P : Prop) (n : Nat) (da db : UD) (ga capa gb capb rb : Nat) (v : Value) (q m : Nat) : Prop where
  ex : ∃ (L : List (Nat × UD × UD)) (xs : List Value) (S Sq Tq : List Nat) (g cap : Nat), v = .slice (some ⟨g, 0, none⟩) L.length cap ∧ wr.ownsRow (w.heap.size + 5) T 2 (.slice (some ⟨g, 0, none⟩) L.length cap) L.length xs ∧ Pend wr (keptB w.heap.size) L xs S ∧
    Cur wr (keptB w.heap.size) n da ga capa q Sq ∧ Cur wr (keptB w.heap.size) n db gb capb q Tq ∧ (Sq ++ S).Nodup ∧ PMap wr fs (w.heap.size + 2) (okB w.heap.size (Sq ++ S)) ∧ (P ↔ tailEq n q da db ∧ allEq L) ∧ mWt L + uszD (da.dropN (q * 5)) + q ≤ m ∧ g ≠ rb
  obj : objU wr rb T [.slice (some ⟨ga, 0, none⟩) n capa, .slice (some ⟨gb, 0, none⟩) n capb]
  rlo : w.heap.size + 5 ≤ rb
  bel : Below w.heap.size w wr
  size : w.heap.size + 5 < wr.heap.size
theorem kept_out {H g : Nat} {wr w' : World} (ho : OutS [g] wr w') (hs : H + 5 < wr.heap.size) (hg : g = H + 2 ∨ H + 5 ≤ g) : ∀ b, keptB H b → w'.heap[b]? = wr.heap[b]? := fun b hb => ho.block b (by unfold keptB at hb; omega) (by unfold keptB at hb; simp; omega)
theorem SvI.start {w wr w2 : World} {T : TypeId} {fs : List Field} {P : Prop} {n : Nat} {da db : UD} {ga capa gb capb g cap m : Nat} {L : List (Nat × UD × UD)} {ys : List Value} {S1 T1 S2 : List Nat}
    (hown : wr.ownsRow (w.heap.size + 5) T 2 (.slice (some ⟨g, 0, none⟩) (L.length + 1) cap) (L.length + 1) (ys ++ [.slice (some ⟨ga, 0, none⟩) n capa, .slice (some ⟨gb, 0, none⟩) n capb])) (hg : w.heap.size + 5 ≤ g ∧ g < wr.heap.size)
    (hp : Pend wr (keptB w.heap.size) L ys S2) (hca : Cur wr (keptB w.heap.size) n da ga capa 0 S1) (hcb : Cur wr (keptB w.heap.size) n db gb capb 0 T1) (hnd : ((ga :: S1) ++ S2).Nodup) (hm : PMap w2 fs (w.heap.size + 2) (fun c => okB w.heap.size ((ga :: S1) ++ S2) c ∨ c = ⟨ga, 0, none⟩))
    (hta : tyS 5 n da 6) (htb : tyS 5 n db 6) (hiff : P ↔ allEq ((n, da, db) :: L)) (hwt : uszD da + mWt L ≤ m) (ho : OutS [w.heap.size + 2] wr w2) (hobj : objU w2 wr.heap.size T [.slice (some ⟨ga, 0, none⟩) n capa, .slice (some ⟨gb, 0, none⟩) n capb]) (hbel : Below w.heap.size w wr) (hsz : w.heap.size + 5 < wr.heap.size) :
    SvI w w2 T fs P n da db ga capa gb capb wr.heap.size (.slice (some ⟨g, 0, none⟩) L.length cap) 0 m := by
  have hk := kept_out ho hsz (.inl rfl)
  have hyl := hp.len
  refine ⟨⟨L, ys, S2, S1, T1, g, cap, rfl, ?_, hp.frame hk, hca.frame hk, hcb.frame hk, (List.nodup_cons.1 hnd).2, hm.mono (fun c hc => ?_), ?_, ?_, by omega⟩, hobj, by omega, hbel.trans (ho.below (fun t ht => by simp at ht; omega) (by omega)), by have := ho.size; omega⟩
  · have h1 := owns_short hown (Nat.le_succ L.length)
    have e : (ys ++ [Value.slice (some ⟨ga, 0, none⟩) n capa, .slice (some ⟨gb, 0, none⟩) n capb]).take (L.length * 2) = ys := by rw [← hyl]; exact List.take_left
    rw [e] at h1
    exact uowns_frame h1 (fun x hx => ho.block x (ublk_lt h1 x hx).2 (by have := (ublk_lt h1 x hx).1; simp; omega))
  · rcases hc with ⟨h1, h2⟩ | rfl
    · exact ⟨h1, fun h => h2 (by simp at h ⊢; exact .inr h)⟩
    · exact ⟨hca.good, fun h => (List.nodup_cons.1 hnd).1 h⟩
  · rw [hiff, allEq.cons, tailEq_zero hta htb]
  · rw [Nat.zero_mul, UD.dropN_zero]; omega
theorem nodup_mid {A B C D : List Nat} (h : (((A ++ B) ++ C) ++ D).Nodup) : (C ++ (B ++ D)).Nodup ∧ (C ++ D).Nodup := by
  simp only [List.nodup_append, List.mem_append] at h ⊢
  obtain ⟨⟨⟨hA, hB, hAB⟩, hC, hABC⟩, hD, hABCD⟩ := h
  refine ⟨⟨hC, ⟨hB, hD, fun a ha b hb => hABCD a (.inl (.inr ha)) b hb⟩, fun a ha b hb => ?_⟩, hC, hD, fun a ha b hb => hABCD a (.inr ha) b hb⟩
  rcases hb with hb | hb
  · exact fun e => hABC b (.inr hb) a ha e.symm
  · exact hABCD a (.inr ha) b hb
theorem OutS.grown {w w' : World} {g : Nat} (h : w.grownBy w' (some g)) : OutS [g] w w' := ⟨h.os, h.tape, h.output, h.size, fun k hk hr => h.block k hk (fun e => hr (by simpa using e))⟩
theorem Tryd.infoSvR : (Tryd.prog.info? 86).map (fun i => (i.zero, i.size, i.bytes)) = some (some (.agg #[.slice none 0 0, .slice none 0 0]), 2, 48) := by kernel_rfl
/-- a round within is over: the rest of the two rows -/
theorem SvI.next {w wi w4 : World} {T : TypeId} {fs : List Field} {P : Prop} {n : Nat} {da db : UD} {ga capa gb capb rb q m : Nat} {L' : List (Nat × UD × UD)} {xs' : List Value} {S S3 S4 S' Sb Tb : List Nat} {g g' cap' : Nat}
    (hown : w4.ownsRow (w.heap.size + 5) T 2 (.slice (some ⟨g', 0, none⟩) L'.length cap') L'.length xs') (hg : g' = g ∨ wi.heap.size ≤ g') (hp : Pend w4 (keptB w.heap.size) L' xs' S') (hca : Cur wi (keptB w.heap.size) n da ga capa (q + 1) Sb) (hcb : Cur wi (keptB w.heap.size) n db gb capb (q + 1) Tb)
    (hnd : (Sb ++ S').Nodup) (hsub : ∀ t, t ∈ Sb ++ S' → t ∈ ((S3 ++ S4) ++ Sb) ++ S) (hm : PMap wi fs (w.heap.size + 2) (okB w.heap.size (((S3 ++ S4) ++ Sb) ++ S))) (hiff : P ↔ tailEq n (q + 1) da db ∧ allEq L') (hwt : mWt L' + uszD (da.dropN ((q + 1) * 5)) + (q + 1) ≤ m) (hne : g ≠ rb)
    (ho : OutS [g] wi w4) (hobj : objU wi rb T [.slice (some ⟨ga, 0, none⟩) n capa, .slice (some ⟨gb, 0, none⟩) n capb]) (hrlo : w.heap.size + 5 ≤ rb) (hbel : Below w.heap.size w wi) (hsz : w.heap.size + 5 < wi.heap.size) (hglo : w.heap.size + 5 ≤ g) :
    SvI w w4 T fs P n da db ga capa gb capb rb (.slice (some ⟨g', 0, none⟩) L'.length cap') (q + 1) m := by
  have hk := kept_out ho hsz (.inr hglo)
  refine ⟨⟨L', xs', S', Sb, Tb, g', cap', rfl, hown, hp, hca.frame hk, hcb.frame hk, hnd, ?_, hiff, hwt, ?_⟩, hobj.outS ho (by simpa using Ne.symm hne), hrlo, hbel.trans (ho.below (fun t ht => by simp at ht; omega) (by omega)), by have := ho.size; omega⟩
  · exact (hm.mono (ok' := okB w.heap.size (Sb ++ S')) (fun c hc => ⟨hc.1, fun h => hc.2 (hsub _ h)⟩)).frame (ho.block _ (by omega) (by simp; omega)) (fun c hc => hk _ hc.1)
  · have := hobj.lt
    rcases hg with rfl | hg
    · exact hne
    · omega
theorem infoSv : ∃ i, Tryd.prog.info? 39 = some i ∧ i.size ≠ 0 := by
  have h := Tryd.infoUValue
  cases e : Tryd.prog.info? 39 with
  | none => rw [e] at h; cases h
  | some i => rw [e] at h; simp at h; exact ⟨i, rfl, by rw [h.2.1]; decide⟩
def svF : List Field := [⟨"b", 88, 1, false, "", "loop.example/g00119/impl", 8⟩, ⟨"count", 3, 2, false, "", "loop.example/g00119/impl", 16⟩]
theorem sv_key : PKey Tryd.prog 90 ⟨"a", 88, 0, false, "", "loop.example/g00119/impl", 0⟩ svF where
  under := ⟨_, by kernel_rfl, rfl⟩
  held := by kernel_rfl
  name := by decide
  off := rfl
  first := by
    obtain ⟨i, h1, h2⟩ := infoSv
    exact ⟨_, i, by kernel_rfl, h1, h2⟩
  rest := fun f hf => by
    obtain ⟨i, h1, h2⟩ := infoSv
    simp only [svF, List.mem_cons, List.mem_nil_iff, or_false] at hf
    rcases hf with rfl | rfl
    · exact .inl ⟨_, i, by kernel_rfl, h1, h2⟩
    · exact .inr ⟨.i64, by kernel_rfl⟩
theorem sv_map : ∃ e, Tryd.prog.underlying 84 = some (.map 90 e) ∧ ∀ w, (zeroValue e).run Tryd.prog w = .ok (.agg #[]) w := ⟨91, by kernel_rfl, fun w => by kernel_rfl⟩
theorem sv_cells (a b : Addr) (n : Int) : keyCells svF a #[.pointer (some a), .pointer (some b), .int .i64 n] := ⟨rfl, fun f hf => by
  simp only [svF, List.mem_cons, List.mem_nil_iff, or_false] at hf
  rcases hf with rfl | rfl
  · exact ⟨_, rfl⟩
  · exact ⟨_, rfl⟩⟩
theorem openBlk.below {w w' : World} {g : Nat} (h : openBlk w g) (hb : Below w.heap.size w w') : openBlk w' g := by
  obtain ⟨cs, t, h⟩ := h
  exact ⟨cs, t, (hb.block g (Array.getElem?_eq_some_iff.1 h).1).trans h⟩
set_option maxRecDepth 20000 in
set_option maxHeartbeats 3200000 in
theorem iSame_any (d d' : UD) (xs ys : List Value) (S0 S1 : List Nat) (lo hi lo' hi' : Nat) (w : World) (r : Bool) (ht : tyL d (uE 6)) (ht' : tyL d' (uE 6)) (hx : oH w d xs S0) (hS : own2 S0 lo hi) (hy : oH w d' ys S1) (hw : wt d ≤ 1048576) (hr : r = true ↔ d = d') :
    Calls Tryd.prog 41 #[.agg xs.toArray, .agg ys.toArray] w fun e w' => e = .returned (.bool r) ∧ Below w.heap.size w w' := by
  have hmm := @run_makeMap Tryd.prog
  obtain ⟨z0, z1, z2, n3, c3, n4, c4, rfl, g0, g1, g2, g3, g4⟩ := partsValue ht
  obtain ⟨y0, y1, y2, m3, e3, m4, e4, rfl, k0, k1, k2, k3, k4⟩ := partsValue ht'
  obtain ⟨a3, p3, a4, p4, S3, S4, rfl, rfl, o3, o4⟩ := oH.value hx
  obtain ⟨b3, q3, b4, q4, R3, R4, rfl, rfl, u3, u4⟩ := oH.value hy
  have HST : Hid _ := SvO.start 39 86 svF hx hy hS.1 ht ht' rfl rfl
  have HM : Hid (uszD (.p (.int .i64 z0) (.p (.string z1) (.p (.int .i64 z2) (.l 1 n3 c3 (.l 5 n4 c4 .nil))))) ≤ 100000000) := by
    have e1 := uszD_wt _ _ _ (tyS.row1 (t := 6) (by decide) ht).2.2.2.2
    have e2 := ht.len
    have e3 : (uE 6).length = 5 := rfl
    show _ ≤ _
    omega
  generalize uszD (.p (.int .i64 z0) (.p (.string z1) (.p (.int .i64 z2) (.l 1 n3 c3 (.l 5 n4 c4 .nil))))) = M at HST HM
  generalize hP : (UD.p (.int .i64 z0) (.p (.string z1) (.p (.int .i64 z2) (.l 1 n3 c3 (.l 5 n4 c4 .nil)))) = .p (.int .i64 y0) (.p (.string y1) (.p (.int .i64 y2) (.l 1 m3 e3 (.l 5 m4 e4 .nil))))) = P at HST hr
  have HR := uhide hr
  obtain ⟨μ, hμ⟩ := least_of (fun (x : Value × World) (m : Nat) => SvO w x.2 86 svF P M x.1 m)
  have Hμ := uhide hμ
  clear g0 g1 g2 g3 g4 k0 k1 k2 k3 k4 ht ht' hx hy hr o3 o4 u3 u4 hS hP hμ
  go_enter Tryd.func41, Tryd.ntmps41
  go_wp2_with fail
  go_loopw [6] (fun v wr => Hid (∃ m, SvO w wr 86 svF P M v m)) (fun v wr => μ (v, wr))
  case atStart => exact ⟨_, HST⟩
  case round =>
    clear HST
    obtain ⟨m0, hm0⟩ := hrel
    obtain ⟨hO, -⟩ := Hμ.out (_, wr) _ hm0
    generalize hmu : μ (_, wr) = m at *
    obtain ⟨⟨L, xs, S, g, cap, hv, hown, hpend, hnd, hmap, hiff, hwt⟩, hle, hbel, hsz⟩ := hO
    subst hv
    cases L with
    | nil =>
      have hrt : r = true := HR.out.2 (hiff.2 (fun r hr => by cases hr))
      subst hrt
      clear hown hpend hnd hmap hiff hwt Hμ hmu hm0 HR HM hle
      have HB := uhide hbel
      clear hbel
      go_wp2
      go_ret
      exact ⟨rfl, HB.out⟩
    | cons q L =>
      obtain ⟨n, da, db⟩ := q
      obtain ⟨ca, cb, ys, S1, T1, S2, rfl, rfl, hn, hta, htb, hoa, hob, hga, hgb, hrest⟩ := hpend
      obtain ⟨ga, capa, S1', rfl, rfl, hca⟩ := Cur.start hoa hn hga
      obtain ⟨gb, capb, T1', rfl, rfl, hcb⟩ := Cur.start hob hn hgb
      have hyl := hrest.len
      have hcnt := hrest.count
      rw [mWt_cons] at hwt
      simp only [List.length_cons] at hown hwt hn hta htb ⊢
      have hM := HM.out
      have hk8 : L.length ≤ 100000000 := by omega
      have hcap : L.length + 1 ≤ cap := by
        rcases hown.2 with ⟨h, _⟩ | ⟨g', cap', cur, h, _, _, h2, _⟩
        · cases h
        · cases h; exact h2
      have c0 : wr.cell? ⟨g, L.length * 2, none⟩ = some (.slice (some ⟨ga, 0, none⟩) n capa) := by
        rw [hown.cellAt _ (by omega), List.getElem?_append_right (by omega), hyl]; simp
      have c1 : wr.cell? ⟨g, L.length * 2 + 1, none⟩ = some (.slice (some ⟨gb, 0, none⟩) n capb) := by
        rw [hown.cellAt _ (by omega), List.getElem?_append_right (by omega), hyl]; simp
      have hgl : w.heap.size + 5 ≤ g ∧ g < wr.heap.size := by
        obtain ⟨h1, h2⟩ := hown.lt g rfl
        exact ⟨h1, h2⟩
      have hn0 := hn
      have hn8 : n ≤ 100000000 := by
        have e := uszD_len da
        rw [hta.2.2.2.1] at e
        omega
      have Hown := uhide hown
      have Hyl := uhide hyl
      have HZ := uhide (And.intro hgl.1 (And.intro hsz hM))
      have Hrest := uhide hrest
      have Hca := uhide hca
      have Hcb := uhide hcb
      have Hta := uhide hta
      have Htb := uhide htb
      have Hnd := uhide hnd
      have Hmap := uhide hmap
      have Hiff := uhide hiff
      have Hwt := uhide hwt
      have HB := uhide hbel
      have Hmu := uhide hmu
      have Hle := uhide hle
      have hgw := hgl.2
      clear hown hyl hgl hsz hM hrest hca hcb hta htb hnd hmap hiff hwt hbel hmu hle hoa hob hga hgb hcnt hm0 HM
      generalize hk : L.length = k at *
      have Hk := uhide hk
      clear hk
      go_wp2
      have OR : Hid (objU (wr.alloc (.cells #[.slice (some ⟨ga, 0, none⟩) n capa, .slice (some ⟨gb, 0, none⟩) n capb] 86)) wr.heap.size 86 [.slice (some ⟨ga, 0, none⟩) n capa, .slice (some ⟨gb, 0, none⟩) n capb]) := objU.new _ _ _
      have HW1 : Hid (Below wr.heap.size wr (wr.alloc (.cells #[.slice (some ⟨ga, 0, none⟩) n capa, .slice (some ⟨gb, 0, none⟩) n capb] 86))) := (Below.refl _ _).alloc (Nat.le_refl _) _
      have hz1 : wr.heap.size < (wr.alloc (.cells #[.slice (some ⟨ga, 0, none⟩) n capa, .slice (some ⟨gb, 0, none⟩) n capb] 86)).heap.size := by simp
      generalize wr.alloc (.cells #[.slice (some ⟨ga, 0, none⟩) n capa, .slice (some ⟨gb, 0, none⟩) n capb] 86) = w1 at *
      have r0 := OR.out.cell 0 _ rfl
      have r1 := OR.out.cell 1 _ rfl
      have n0 := World.new_ne w1 ⟨wr.heap.size, 0, none⟩ r0
      have n1 := World.new_ne w1 ⟨wr.heap.size, 1, none⟩ r1
      clear c0 c1 hgw
      go_region_held3 (fun w' => w'.cell? ⟨wr.heap.size, 0, none⟩ = some (.slice (some ⟨ga, 0, none⟩) n capa) ∧ w'.cell? ⟨wr.heap.size, 1, none⟩ = some (.slice (some ⟨gb, 0, none⟩) n capb)) (go_keep) (fail)
      obtain ⟨eM, hme, hze⟩ := sv_map
      have Hoa : Hid (openBlk wr ga) := Hca.out.blk
      have Hga : Hid (keptB w.heap.size ga) := Hca.out.good
      clear r0 r1 n0 n1
      go_wp2_with (first
        | (at_lookup; refine wpList_lookup_ptr _ rfl _ _ 84 rfl eM sv_key hme (hze _) (w.heap.size + 1 + 1) (okB w.heap.size ((ga :: S1') ++ S2)) rfl (Hmap.out.below (by repeat (first | with_reducible exact HW1.out | with_reducible refine Below.drew ?_ | with_reducible refine below_drewN ?_ _ | with_reducible refine Below.alloc ?_ (by (try simp) <;> omega) _))) ⟨ga, 0, none⟩ _ rfl (sv_cells _ _ _) (Hoa.out.below (by repeat (first | with_reducible exact HW1.out | with_reducible refine Below.drew ?_ | with_reducible refine below_drewN ?_ _ | with_reducible refine Below.alloc ?_ (by (try simp) <;> omega) _))) (fun h => h.2 (by simp)) ?_)
        | (at_mapUpdate; refine wpList_update_ptr _ rfl _ _ _ 84 rfl eM sv_key hme (w.heap.size + 1 + 1) (okB w.heap.size ((ga :: S1') ++ S2)) rfl (Hmap.out.below (by repeat (first | with_reducible exact HW1.out | with_reducible refine Below.drew ?_ | with_reducible refine below_drewN ?_ _ | with_reducible refine Below.alloc ?_ (by (try simp) <;> omega) _))) ⟨ga, 0, none⟩ _ rfl (sv_cells _ _ _) (Hoa.out.below (by repeat (first | with_reducible exact HW1.out | with_reducible refine Below.drew ?_ | with_reducible refine below_drewN ?_ _ | with_reducible refine Below.alloc ?_ (by (try simp) <;> omega) _))) (fun h => h.2 (by simp)) (by have := Hga.out; unfold keptB at this; show ga ≠ _; omega) ?_
           intro w2 hmap2 hout2
           have OR2 : Hid (objU w2 wr.heap.size 86 [.slice (some ⟨ga, 0, none⟩) n capa, .slice (some ⟨gb, 0, none⟩) n capb]) := (OR.out.below (by repeat (first | with_reducible exact Below.refl _ _ | with_reducible refine Below.drew ?_ | with_reducible refine below_drewN ?_ _ | with_reducible refine Below.alloc ?_ (by (try simp) <;> omega) _))).outS hout2 (by have := HZ.out; simp; omega)
           have HW2 : Hid (OutS [w.heap.size + 1 + 1] wr w2) := OutS.trans (OutS.of_below (by repeat (first | with_reducible exact HW1.out | with_reducible refine Below.drew ?_ | with_reducible refine below_drewN ?_ _ | with_reducible refine Below.alloc ?_ (by (try simp) <;> omega) _))) hout2
           have Hm2 := uhide hmap2
           have r0 := OR2.out.cell 0 _ rfl
           have r1 := OR2.out.cell 1 _ rfl
           clear hmap2 hout2))
      have HS : Hid (SvI w w2 86 svF P n da db ga capa gb capb wr.heap.size (.slice (some ⟨g, 0, none⟩) k cap) 0 m) := by
        show SvI _ _ _ _ _ _ _ _ _ _ _ _ _ _ _ _
        have hO := Hown.out
        have hI := Hiff.out
        rw [← Hk.out] at hO ⊢
        exact SvI.start hO ⟨HZ.out.1, by have := (World.ownsRow.lt hO g rfl).2; exact this⟩ Hrest.out Hca.out Hcb.out Hnd.out Hm2.out Hta.out Htb.out hI Hwt.out HW2.out OR2.out HB.out HZ.out.2.1
      have hmM : m ≤ M := Hle.out
      have HmM : Hid (m ≤ 100000000) := by have := HZ.out.2.2; have := Hle.out; show _ ≤ _; omega
      clear Hown Hrest Hca Hcb Hnd Hm2 Hiff Hwt HW2 OR2 HB HZ Hyl Hmap OR HW1 hz1 Hoa Hga hn0 hk8 hcap Hle r0 r1
      generalize wr.heap.size = rb at HS ⊢
      go_loopw [6, 58] (fun v i wr => ∃ q : Nat, q ≤ n ∧ i = .int .i64 q ∧ Hid (SvI w wr 86 svF P n da db ga capa gb capb rb v q m)) (fun _ i _ => n - (intOf i).toNat)
      case atStart => exact ⟨0, Nat.zero_le _, rfl, HS⟩
      case round =>
        clear HS
        obtain ⟨q, hq, rfl, HS⟩ := hrel
        obtain ⟨⟨L2, xs, S, Sq, Tq, g2, cap2, rfl, hown, hpend, hca, hcb, hnd, hmap, hiff, hwt, hne⟩, hobj, hrlo, hbel, hsz⟩ := HS.out
        by_cases hlt : q < n
        · obtain ⟨s0, s1, s2, l3, f3, l4, f4, sa3, sp3, sa4, sp4, S3', S4', Sb, hRa, t3, t4, rfl, o3, o4, x0, x1, x2, x3, x4, hs1, hca'⟩ := hca.step Hta.out hlt
          obtain ⟨t0, t1, t2, i3, j3, i4, j4, ta3, tp3, ta4, tp4, R3', R4', Tb, hRb, v3, v4, rfl, u3, u4, y0', y1', y2', y3', y4', ht1, hcb'⟩ := hcb.step Htb.out hlt
          have hst : P ↔ (s0 = t0 ∧ s1 = t1 ∧ s2 = t2 ∧ (l3 = i3 ∧ f3 = j3) ∧ l4 = i4 ∧ f4 = j4) ∧ tailEq n (q + 1) da db ∧ allEq L2 := by
            rw [hiff, tailEq_step hlt, hRa, hRb, val_eq, and_assoc]
          have hU3 : uS wr 0 wr.heap.size 1 l3 f3 (.slice sa3 l3 sp3) := o3.u (fun g hg => ⟨Nat.zero_le _, o3.lt g hg⟩)
          have hV3 : uS wr 0 wr.heap.size 1 i3 j3 (.slice ta3 i3 tp3) := u3.u (fun g hg => ⟨Nat.zero_le _, u3.lt g hg⟩)
          have r0 := hobj.cell 0 _ rfl
          have r1 := hobj.cell 1 _ rfl
          have hrl := hobj.lt
          have hgal : ga < wr.heap.size := World.block_lt_of_cell? _ _ x0
          have hgbl : gb < wr.heap.size := World.block_lt_of_cell? _ _ y0'
          have hl4 := t4.2.2.1
          have hi4 := v4.2.2.1
          by_cases hsh : s0 = t0 ∧ s1 = t1 ∧ s2 = t2 ∧ (l3 = i3 ∧ f3 = j3) ∧ l4 = i4
          rotate_left
          · have hrf : r = false := by
              cases hr' : r with
              | false => rfl
              | true =>
                have := hst.1 (HR.out.1 hr')
                exact (hsh ⟨this.1.1, this.1.2.1, this.1.2.2.1, this.1.2.2.2.1, this.1.2.2.2.2.1⟩).elim
            have HC : Hid (∀ wx, Below wr.heap.size wr wx → Calls Tryd.prog 55 #[.agg #[.int .i64 s0, .string s1, .int .i64 s2, .slice sa3 l3 sp3, .slice sa4 l4 sp4], .agg #[.int .i64 t0, .string t1, .int .i64 t2, .slice ta3 i3 tp3, .slice ta4 i4 tp4]] wx fun e w' => e = .returned (.bool false) ∧ Hid (Below wx.heap.size wx w')) := fun wx hb => sameButKids_any _ _ _ _ _ _ _ _ _ _ _ _ _ _ _ _ _ _ _ _ 0 wr.heap.size 0 wr.heap.size wx false t3 v3 hl4 hi4 (hU3.below hb) (hV3.below hb) ⟨(fun h => by cases h), fun h => (hsh h).elim⟩
            have HBI := uhide hbel
            have hz4 : w.heap.size < wr.heap.size := by omega
            subst hrf
            clear hst hU3 hV3 hRa hRb t3 t4 v3 v4 o3 o4 u3 u4 hca hcb hca' hcb' hs1 ht1 hown hpend hnd hmap hiff hwt hobj HS Hta Htb HR HmM Hμ Hmu hsh hbel hl4 hi4
            go_wp2_with fail
            refine (HC.out _ (by repeat (first | with_reducible exact Below.refl _ _ | with_reducible refine Below.drew ?_ | with_reducible refine below_drewN ?_ _ | with_reducible refine Below.alloc ?_ (by (try simp) <;> omega) _))).mono ?_
            rintro e w3 ⟨rfl, hb3⟩
            go_wp2
            go_ret
            exact ⟨rfl, HBI.out.trans (Below.mono (Below.trans (by repeat (first | with_reducible exact Below.refl _ _ | with_reducible refine Below.drew ?_ | with_reducible refine below_drewN ?_ _ | with_reducible refine Below.alloc ?_ (by (try simp) <;> omega) _)) (hb3.out.mono (by simp; omega))) (Nat.le_of_lt hz4))⟩
          obtain ⟨rfl, rfl, rfl, ⟨rfl, rfl⟩, rfl⟩ := hsh
          have HC : Hid (∀ wx, Below wr.heap.size wr wx → Calls Tryd.prog 55 #[.agg #[.int .i64 s0, .string s1, .int .i64 s2, .slice sa3 l3 sp3, .slice sa4 l4 sp4], .agg #[.int .i64 s0, .string s1, .int .i64 s2, .slice ta3 l3 tp3, .slice ta4 l4 tp4]] wx fun e w' => e = .returned (.bool true) ∧ Hid (Below wx.heap.size wx w')) := fun wx hb => sameButKids_any _ _ _ _ _ _ _ _ _ _ _ _ _ _ _ _ _ _ _ _ 0 wr.heap.size 0 wr.heap.size wx true t3 v3 hl4 hi4 (hU3.below hb) (hV3.below hb) ⟨fun _ => ⟨rfl, rfl, rfl, ⟨rfl, rfl⟩, rfl⟩, fun _ => rfl⟩
          have hst2 : P ↔ f4 = j4 ∧ tailEq n (q + 1) da db ∧ allEq L2 := hst.trans ⟨fun h => ⟨h.1.2.2.2.2.2, h.2⟩, fun h => ⟨⟨rfl, rfl, rfl, ⟨rfl, rfl⟩, rfl, h.1⟩, h.2⟩⟩
          have hgl := (hown.lt g2 rfl)
          have hnm := nodup_mid hnd
          have hus := mWt_row da q
          rw [hRa, uszD_val] at hus
          have hcnt := hpend.count
          have HF : Hid (∀ w3, Below wr.heap.size wr w3 → l4 = 0 → SvI w w3 86 svF P n da db ga capa gb capb rb (.slice (some ⟨g2, 0, none⟩) L2.length cap2) (q + 1) m) := fun w3 hb h0 => by
            have ho : OutS [g2] wr w3 := OutS.of_below hb
            have hk := kept_out ho hsz (.inr hgl.1)
            refine SvI.next (S3 := S3') (S4 := S4') (S := S) (uowns_frame hown (fun x hx => hb.block x (ublk_lt hown x hx).2)) (.inl rfl) (hpend.frame hk) hca' hcb' hnm.2 (fun t ht => ?_) hmap ?_ (by omega) hne ho hobj hrlo hbel hsz hgl.1
            · simp only [List.mem_append] at ht ⊢; rcases ht with h | h
              · exact .inl (.inr h)
              · exact .inr h
            · have e1 : f4 = .nil := UD.len_nil (by rw [t4.2.2.2.1, h0, Nat.zero_mul])
              have e2 : j4 = .nil := UD.len_nil (by rw [v4.2.2.2.1, h0, Nat.zero_mul])
              rw [hst2, e1, e2]; exact ⟨fun h => h.2, fun h => ⟨rfl, h⟩⟩
          have HG : Hid (∀ (w4 : World) (g3 cap3 : Nat), OutS [g2] wr w4 → (g3 = g2 ∨ wr.heap.size ≤ g3) → 0 < l4 → w4.ownsRow (w.heap.size + 5) 86 2 (.slice (some ⟨g3, 0, none⟩) (L2.length + 1) cap3) (L2.length + 1) (xs ++ [.slice sa4 l4 sp4, .slice ta4 l4 tp4]) →
              SvI w w4 86 svF P n da db ga capa gb capb rb (.slice (some ⟨g3, 0, none⟩) (L2.length + 1) cap3) (q + 1) m) := fun w4 g3 cap3 ho hg3 h0 hown4 => by
            have hk := kept_out ho hsz (.inr hgl.1)
            refine SvI.next (L' := (l4, f4, j4) :: L2) (S3 := S3') (S4 := S4') (S := S) (S' := S4' ++ S) hown4 hg3 ⟨_, _, xs, S4', R4', S, rfl, rfl, h0, t4, v4, o4.frame (fun b hb => hk b (hca.all b (by simp [hb]))), u4.frame (fun b hb => hk b (hcb.all b (by simp [hb]))), fun b hb => hca.all b (by simp [hb]), fun b hb => hcb.all b (by simp [hb]), hpend.frame hk⟩ hca' hcb' hnm.1 (fun t ht => ?_) hmap ?_ ?_ hne ho hobj hrlo hbel hsz hgl.1
            · simp only [List.mem_append] at ht ⊢; rcases ht with h | h | h
              · exact .inl (.inr h)
              · exact .inl (.inl (.inr h))
              · exact .inr h
            · rw [hst2, allEq.cons]; exact ⟨fun h => ⟨h.2.1, h.1, h.2.2⟩, fun h => ⟨h.2.1, h.1, h.2.2⟩⟩
            · rw [mWt_cons]; show uszD f4 + mWt L2 + _ + _ ≤ _; omega
          have How := uhide hown
          have hL8 : L2.length ≤ 100000000 := by have := HmM.out; omega
          have hgl2 := hgl.2
          have hz4 : w.heap.size + 5 < wr.heap.size := hsz
          have hl48 : (l4 : Int) ≤ 9223372036854775807 := by unfold maxLen at hl4; omega
          obtain ⟨i2, hi2, hi20, hi21, hi22⟩ := infoU Tryd.infoSvR
          clear hst hst2 hU3 hV3 hRa hRb t3 t4 v3 v4 o3 o4 u3 u4 hca hcb hca' hcb' hs1 ht1 hown hpend hnd hmap hiff hwt hobj HS Hta Htb HmM hbel hl4 hi4 hgl hnm hus hcnt hne hsz hrlo
          go_wp2_with fail
          refine (HC.out _ (by repeat (first | with_reducible exact Below.refl _ _ | with_reducible refine Below.drew ?_ | with_reducible refine below_drewN ?_ _ | with_reducible refine Below.alloc ?_ (by (try simp) <;> omega) _))).mono ?_
          rintro e w3 ⟨rfl, hb3⟩
          have OX : Hid (objU w3 wr.heap.size 39 [.int .i64 s0, .string s1, .int .i64 s2, .slice sa3 l3 sp3, .slice sa4 l4 sp4]) := objU.below (objU.old (objU.new _ _ _) _) hb3.out
          have OY : Hid (objU w3 (wr.heap.size + 1) 39 [.int .i64 s0, .string s1, .int .i64 s2, .slice ta3 l3 tp3, .slice ta4 l4 tp4]) := objU.below (objU.new2 _ _ (by simp)) hb3.out
          have HB3 : Hid (Below wr.heap.size wr w3) := Below.trans (by repeat (first | with_reducible exact Below.refl _ _ | with_reducible refine Below.drew ?_ | with_reducible refine below_drewN ?_ _ | with_reducible refine Below.alloc ?_ (by (try simp) <;> omega) _)) (hb3.out.mono (by simp; omega))
          have xx4 := OX.out.cell 4 _ rfl
          have yy4 := OY.out.cell 4 _ rfl
          clear hb3 x0 x1 x2 x3 x4 y0' y1' y2' y3' y4' HC r0 r1
          by_cases h0 : 0 < l4
          · have How3 := uhide (uowns_frame How.out (fun x hx => HB3.out.block x (ublk_lt How.out x hx).2))
            have hz3 : wr.heap.size < w3.heap.size := OX.out.lt
            go_wp2_with (at_builtin; refine wpList_append_lies _ rfl _ _ 87 rfl (w.heap.size + 5) 86 i2 _ 2 48 Tryd.underlying87 hi2 hi20 hi21 hi22 rfl (by decide) (.slice (some ⟨g2, 0, none⟩) L2.length cap2) L2.length xs rfl (How3.out.alloc _) ⟨w3.heap.size, 0, none⟩ 1 1 [.slice sa4 l4 sp4, .slice ta4 l4 tp4] rfl rfl (cells_new _ _ _) (fun u hu => by simp at hu; rcases hu with rfl | rfl <;> rfl) (by decide) (by unfold maxLen; omega) (by omega) (by simp; omega) _ rfl ?_; intro g3 cap3 w4 hown4 hgrow4 hat4 hlt4)
            have HS4 := uhide (HG.out w4 g3 cap3 ((OutS.trans (OutS.of_below HB3.out) (OutS.of_below ((Below.refl _ _).alloc (Nat.le_refl _) _))).trans (OutS.grown hgrow4)) (by
              have hat5 : some g2 = some g3 ∨ g3 = w3.heap.size + 1 := hat4.imp id (fun h => h.trans (by simp))
              rcases hat5 with h | h
              · exact .inl (Option.some.inj h).symm
              · exact .inr (by omega)) h0 hown4)
            clear hown4 hgrow4 hat4 hlt4
            go_wp2
            go_roundw
            case rel => exact ⟨q + 1, by omega, by go_num, HS4⟩
            case measure => simp [intOf]; omega
          · have HS4 := uhide (HF.out w3 HB3.out (by omega))
            go_wp2
            go_roundw
            case rel => exact ⟨q + 1, by omega, by go_num, HS4⟩
            case measure => simp [intOf]; omega
        · have e : q = n := by omega
          subst e
          have HS2 : Hid (∃ m', m' < m ∧ SvO w wr 86 svF P M (.slice (some ⟨g2, 0, none⟩) L2.length cap2) m') := by
            refine ⟨mWt L2, by omega, ⟨⟨L2, xs, S, g2, cap2, rfl, hown, hpend, (List.nodup_append.1 hnd).2.1, hmap.mono (fun c hc => ⟨hc.1, fun h => hc.2 (by simp [h])⟩), ?_, Nat.le_refl _⟩, ?_, hbel, hsz⟩⟩
            · rw [hiff, tailEq_end]; exact ⟨fun h => h.2, fun h => ⟨trivial, h⟩⟩
            · omega
          clear hown hpend hca hcb hnd hmap hiff hwt hne hobj hrlo hbel hsz HS
          go_wp2
          go_roundw
          case rel =>
            obtain ⟨m', _, h⟩ := HS2.out
            exact ⟨m', h⟩
          case measure =>
            obtain ⟨m', h1, h⟩ := HS2.out
            have := (Hμ.out (_, wr) m' h).2
            have e := Hmu.out
            have hkk := Hk.out
            simp only [List.length_cons, hkk] at e
            simp at e ⊢
            omega
end Go.Proofs.YtkdiinjkpmkcpaaDoor
