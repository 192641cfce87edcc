/- Objects of one kind, both sides. -/
import Derived.Test.YtamlgjmboljcdaaObsU
import Derived.Test.YtamlgjmboljcdaaUFBase
namespace Go.Proofs.Ytamlgjmboljcdaa
open Go.RowKit Go.BigFrame
set_option linter.unusedVariables false

theorem infoObO : ∃ i, Try.prog.info? 43 = some i ∧ i.zero = some (.agg #[.int .i64 0, .string ByteArray.empty, .int .i64 0, .int .i64 0, .int .i64 0, .bool false, .slice none 0 0, .int .i64 0, .string ByteArray.empty, .int .i64 0, .slice none 0 0, .slice none 0 0, .int .i64 0, .string ByteArray.empty, .int .i64 0, .slice none 0 0, .slice none 0 0]) ∧ i.size = 17 ∧ i.bytes ≤ 1000 := by
  have h : (Try.prog.info? 43).map (fun i => (i.zero, i.size, decide (i.bytes ≤ 1000))) = some (some (.agg #[.int .i64 0, .string ByteArray.empty, .int .i64 0, .int .i64 0, .int .i64 0, .bool false, .slice none 0 0, .int .i64 0, .string ByteArray.empty, .int .i64 0, .slice none 0 0, .slice none 0 0, .int .i64 0, .string ByteArray.empty, .int .i64 0, .slice none 0 0, .slice none 0 0]), 17, true) := by kernel_rfl
  cases e : Try.prog.info? 43 with
  | none => rw [e] at h; cases h
  | some i => rw [e] at h; simp at h; exact ⟨i, rfl, h.1, h.2.1, h.2.2⟩
set_option maxRecDepth 40000 in
set_option maxHeartbeats 3200000 in
theorem sObjs_N {lo hi : Nat} (n : Nat) (cs : UD) (rev next : Int) (n3 : Nat) (c3 : UD) (kind : Int) (xs : List Value) (w : World) (ht : tyS 17 n cs 8) (hwt : n + wt cs ≤ 1048576) (hx : uH w lo hi (.l 17 n cs (.p (.int .i64 rev) (.p (.int .i64 next) (.l 19 n3 c3 .nil)))) xs) :
    Calls Try.prog 22 #[.agg xs.toArray, .int .i64 kind] w fun e w' => ∃ c S, e = .returned c ∧ oS w' 17 (selU cs kind n).2 (selU cs kind n).1 c S ∧ own2 S w.heap.size w'.heap.size ∧ Below w.heap.size w w' := by
  obtain ⟨v0, _, rfl, s0, ⟨_, rfl, ⟨_, rfl, ⟨v3, _, rfl, _, rfl⟩⟩⟩⟩ := hx
  obtain ⟨a0, p0, rfl, -⟩ := uS.slice_of6 s0
  have S0 := uhide s0
  clear s0
  have Ht := uhide ht
  have hn8 : n ≤ 1048576 := by omega
  have HW : Hid (wt cs ≤ 1048576) := by show _ ≤ _; omega
  have BX : Hid (Below w.heap.size w ((w.alloc (.cells #[.slice a0 n p0, .int .i64 rev, .int .i64 next, v3] 25)).alloc (.cells #[] 43))) := ((Below.refl _ _).alloc (Nat.le_refl _) _).alloc (by simp) _
  have OBX : Hid (objU ((w.alloc (.cells #[.slice a0 n p0, .int .i64 rev, .int .i64 next, v3] 25)).alloc (.cells #[] 43)) w.heap.size 25 [.slice a0 n p0, .int .i64 rev, .int .i64 next, v3]) := (objU.new _ _ _).old _
  have HAX : Hid (AS (w.heap.size + 1) ((w.alloc (.cells #[.slice a0 n p0, .int .i64 rev, .int .i64 next, v3] 25)).alloc (.cells #[] 43)) 43 17 (.slice (some ⟨w.heap.size + 1, 0, none⟩) 0 0) .nil 0) := by
    have := AS.lit (w := w.alloc (.cells #[.slice a0 n p0, .int .i64 rev, .int .i64 next, v3] 25)) (e := 43) (k := 17) (base := w.heap.size + 1) (by simp)
    exact uhide (by simpa using this)
  clear ht hwt
  go_enter Try.func22, Try.ntmps22
  go_wp2_with fail
  go_loopw [5, 6] (fun v i wr => ∃ q : Nat, q ≤ n ∧ i = .int .i64 q ∧ Hid (AS (w.heap.size + 1) wr 43 17 v (selU cs kind q).1 (selU cs kind q).2) ∧ Hid (objU wr w.heap.size 25 [.slice a0 n p0, .int .i64 rev, .int .i64 next, v3]) ∧ Hid (Below w.heap.size w wr)) (fun _ i _ => n - (intOf i).toNat)
  case atStart => exact ⟨0, Nat.zero_le _, rfl, HAX, OBX, BX⟩
  case round =>
    clear HAX OBX BX
    obtain ⟨q, hq, rfl, HA, OB, HB⟩ := hrel
    have b0 := OB.out.cell 0 _ rfl
    obtain ⟨av, pv, hav⟩ := HA.out.slice
    subst hav
    have hsel := (selU_ty (kind := kind) Ht.out q hq).1
    by_cases hlt : q < n
    · obtain ⟨b, off, rfl, hbr, hm⟩ := (S0.out.below HB.out).cells (by omega)
      have htr := Ht.out.row hlt
      obtain ⟨z0, z1, z2, z3, z4, z5, n6, c6, z7, z8, z9, n10, c10, n11, c11, z12, z13, z14, n15, c15, n16, c16, hR0, -⟩ := partsObj htr
      have hR := uhide hR0
      have hwr : wt (rowU cs 17 q) ≤ 1048576 := by have := wt_row cs 17 q; have := HW.out; omega
      obtain ⟨xr, hxr, hcl⟩ := (hm.row 17 q).hand
      have hxl : xr.length = 17 := hxr.len.trans (tyL.len htr)
      have RG : Hid (wr.rangeAt b (off + q * 17) xr) := hcl
      have FZ : Hid ((Try.prog.info? 43).map (·.size) = some xr.length) := by show _ = _; rw [hxl]; exact Try.zObj_impl_Obj
      have hx0 : xr[0]? = some (.int .i64 z0) := by
        have h := hxr
        rw [hR0] at h
        obtain ⟨_, rfl, _⟩ := h
        rfl
      have x0 : wr.cell? ⟨b, off + q * 17, none⟩ = some (.int .i64 z0) := hcl 0 _ hx0
      have HCO : Hid (∀ wx, Below wr.heap.size wr wx → Calls Try.prog 47 #[.agg xr.toArray] wx fun e w' => ∃ ys T, e = .returned (.agg ys.toArray) ∧ ys.length = 17 ∧ Hid (oH w' (rowU cs 17 q) ys T) ∧ Hid (own2 T wx.heap.size w'.heap.size) ∧ Hid (∀ u ∈ ys, u.oneCell' = true) ∧ Hid (Below wx.heap.size wx w')) := fun wx hb => (l7Copy_N (lo := lo) (hi := hi) _ xr wx htr hwr (hxr.below hb)).mono fun e w' ⟨ys, T, q1, q2, q3, q4⟩ => ⟨ys, T, q1, q2.len.trans (tyL.len htr), q2, q3, ones_own htr q2, q4⟩
      clear hxr hcl hm hR0 hwr htr hx0
      have hqn : (q : Int) < (n : Int) := by omega
      have hq0 : (0 : Int) ≤ (q : Int) := Int.natCast_nonneg _
      by_cases hk : kindO (rowU cs 17 q) = kind
      · have hkz := hk
        rw [hR.out] at hkz
        change z0 = kind at hkz
        obtain ⟨e1, e2⟩ := selU_hit hk
        have E1 := uhide e1
        have E2 := uhide e2
        have c1 : (z0 == kind) = true := by simpa using hkz
        obtain ⟨hlen, xs0, S0', how0, hoh0, hS0, hne⟩ := HA.out
        have hvb := fun g hg => (ublk_lt how0 g hg).2
        have HD := uhide (And.intro hlen (And.intro hoh0 (And.intro hS0 (And.intro hne hvb))))
        have How := uhide how0
        have Hrow := uhide (rowU_len cs 17 q n Ht.out.2.2.2.1 hlt)
        clear hlen how0 hoh0 hS0 hne hvb e1 e2 hkz hk
        go_wp2_with (first
          | ((with_reducible refine wpList_load_row2 ?qqg1 43 ?qqx1 ?qqo1 b (off + q * 17) ?qqh1 xr Try.rObj_impl_Obj FZ.out RG.out ?_); (case qqg1 => rfl); (case qqo1 => rfl); (case qqh1 => first | (simp [Act.eval]; done) | (simp [Act.eval, Act.put]; done)))
          )
        refine (HCO.out _ (Below.refl _ _)).mono ?_
        rintro e w2 ⟨ys, T, rfl, hyl, ho, hT, hone, hb2⟩
        have HW2 : Hid (Below wr.heap.size wr w2) := Below.trans (Below.refl wr.heap.size wr) (hb2.out.mono (Below.size (Below.refl wr.heap.size wr)))
        have hT' : Hid (own2 T wr.heap.size w2.heap.size) := hT.out.mono (Below.size (Below.refl wr.heap.size wr)) (Nat.le_refl _)
        have how := uowns_frame How.out (fun x hx => HW2.out.block x (ublk_lt How.out x hx).2)
        have How2 := uhide how
        have hbase : w.heap.size + 1 ≤ w2.heap.size := by have := OB.out.lt; have := HW2.out.size; omega
        have Hbase := uhide hbase
        obtain ⟨i0, hi0, hi1, hi2, hi3⟩ := infoObO
        clear how hbase
        go_wp2_with (at_builtin; rw [foldZ (zs := [.int .i64 0, .string ⟨#[]⟩, .int .i64 0, .int .i64 0, .int .i64 0, .bool false, .slice none 0 0, .int .i64 0, .string ⟨#[]⟩, .int .i64 0, .slice none 0 0, .slice none 0 0, .int .i64 0, .string ⟨#[]⟩, .int .i64 0, .slice none 0 0, .slice none 0 0]) hyl]; refine wpList_append_lies _ rfl _ _ 22 rfl (w.heap.size + 1) 43 i0 _ 17 i0.bytes Try.underlying22 hi0 hi1 hi2 rfl rfl (by decide) (.slice av (selU cs kind q).2 pv) (selU cs kind q).2 _ rfl (How2.out.alloc _) ⟨w2.heap.size, 0, none⟩ 1 1 ys rfl (by omega) (cells_new _ _ _) hone.out (by decide) (by unfold maxLen; omega) (by have : ((selU cs kind q).2 + 1) * i0.bytes ≤ ((selU cs kind q).2 + 1) * 1000 := Nat.mul_le_mul_left _ hi3; omega) (by have := Hbase.out; simp; omega) _ rfl ?_; intro g3 cap3 w3 hown3 hgrow3 hat3 hlt3)
        have HA3 : Hid (AS (w.heap.size + 1) w3 43 17 (.slice (some ⟨g3, 0, none⟩) ((selU cs kind q).2 + 1) cap3) (selU cs kind (q + 1)).1 (selU cs kind (q + 1)).2) := by
          show AS _ _ _ _ _ _ _
          rw [E1.out, E2.out]
          obtain ⟨hlen, hoh, hS0, hne, hvb⟩ := HD.out
          exact AS.snoc (b0 := wr.heap.size) hlen (How2.out.alloc _) ((hoh.below HW2.out).below ((Below.refl _ _).alloc (Nat.le_refl _) _)) hS0 hne hvb (ho.out.below ((Below.refl _ _).alloc (Nat.le_refl _) _)) (hT'.out.mono (Nat.le_refl _) (by simp)) (by have := OB.out.lt; omega) (by have := HW2.out.size; simp; omega) Hrow.out hown3 hgrow3 hat3
        have HG : Hid (Below (w.heap.size + 1) (w2.alloc (.cells ys.toArray 43)) w3) := Below.grown (Below.refl _ _) hgrow3 (by have := Hbase.out; simp; omega) (fun k hk => (uowns_blk How2.out hk).1)
        have HB4 : Hid (Below (w.heap.size + 1) wr w3) := ((HW2.out.mono (by have := OB.out.lt; omega)).alloc (by have := Hbase.out; omega) _).trans HG.out
        have OB3 : Hid (objU w3 w.heap.size 25 [.slice (some ⟨b, off, none⟩) n p0, .int .i64 rev, .int .i64 next, v3]) := (HB4.out.block w.heap.size (by omega)).trans OB.out
        have HB3 : Hid (Below w.heap.size w w3) := HB.out.trans (HB4.out.mono (by omega))
        clear hown3 hgrow3 hat3 hlt3 HG HB4 HD ho hT hT' hone How How2
        go_wp2
        go_roundw
        case rel => exact ⟨q + 1, by omega, by go_num, HA3, OB3, HB3⟩
        case measure => simp [intOf]; omega
      · have e1 := selU_miss hk
        have hkz := hk
        rw [hR.out] at hkz
        change z0 ≠ kind at hkz
        have c1 : (z0 == kind) = false := by simpa using hkz
        have HA2 : Hid (AS (w.heap.size + 1) wr 43 17 (.slice av (selU cs kind q).2 pv) (selU cs kind (q + 1)).1 (selU cs kind (q + 1)).2) := by show AS _ _ _ _ _ _ _; rw [e1]; exact HA.out
        clear e1 hkz hk
        go_wp2
        have HA3 := HA2
        have OB3 := OB
        have HB3 := HB
        go_roundw
        case rel => exact ⟨q + 1, by omega, by go_num, HA3, OB3, HB3⟩
        case measure => simp [intOf]; omega
    · have e : q = n := by omega
      subst e
      obtain ⟨S4, k4, w4⟩ := HA.out.done (by decide) (by have := OB.out.lt; omega)
      have HF : Hid (∃ S, oS wr 17 (selU cs kind q).2 (selU cs kind q).1 (.slice av (selU cs kind q).2 pv) S ∧ own2 S w.heap.size wr.heap.size ∧ Below w.heap.size w wr) := ⟨S4, k4, w4.mono (by omega) (Nat.le_refl _), HB.out⟩
      clear HA k4 w4
      go_wp2
      go_ret
      obtain ⟨S, h1, h2, h3⟩ := HF.out
      exact ⟨_, S, rfl, h1, h2, h3⟩
set_option maxRecDepth 40000 in
set_option maxHeartbeats 3200000 in
theorem iObjs_N {lo hi : Nat} (n : Nat) (cs : UD) (rev next : Int) (n3 : Nat) (c3 : UD) (kind : Int) (xs : List Value) (S0 : List Nat) (w : World) (ht : tyS 17 n cs 8) (hwt : n + wt cs ≤ 1048576) (hx : oH w (.l 17 n cs (.p (.int .i64 rev) (.p (.int .i64 next) (.l 19 n3 c3 .nil)))) xs S0) (hS : S0.Nodup) :
    Calls Try.prog 23 #[.agg xs.toArray, .int .i64 kind] w fun e w' => ∃ c S, e = .returned c ∧ oS w' 17 (selU cs kind n).2 (selU cs kind n).1 c S ∧ own2 S w.heap.size w'.heap.size ∧ Below w.heap.size w w' := by
  obtain ⟨v0, _, S1, _, rfl, rfl, hk0, ⟨e0, zs0, o0, m0⟩, ⟨_, rfl, ⟨_, rfl, ⟨v3, _, _, _, rfl, rfl, _, _, ⟨rfl, rfl⟩⟩⟩⟩⟩ := hx
  have hS1 : S1.Nodup := by simp only [List.nodup_append] at hS; exact hS.1.2.1
  obtain ⟨a0, p0, rfl⟩ := uowns_slice o0
  have O0 := uhide o0
  have M0 := uhide m0
  have HS1 := uhide hS1
  clear o0 m0 hS1 hS
  have Ht := uhide ht
  have hn8 : n ≤ 1048576 := by omega
  have HW : Hid (wt cs ≤ 1048576) := by show _ ≤ _; omega
  have BX : Hid (Below w.heap.size w ((w.alloc (.cells #[.slice a0 n p0, .int .i64 rev, .int .i64 next, v3] 25)).alloc (.cells #[] 43))) := ((Below.refl _ _).alloc (Nat.le_refl _) _).alloc (by simp) _
  have OBX : Hid (objU ((w.alloc (.cells #[.slice a0 n p0, .int .i64 rev, .int .i64 next, v3] 25)).alloc (.cells #[] 43)) w.heap.size 25 [.slice a0 n p0, .int .i64 rev, .int .i64 next, v3]) := (objU.new _ _ _).old _
  have HAX : Hid (AS (w.heap.size + 1) ((w.alloc (.cells #[.slice a0 n p0, .int .i64 rev, .int .i64 next, v3] 25)).alloc (.cells #[] 43)) 43 17 (.slice (some ⟨w.heap.size + 1, 0, none⟩) 0 0) .nil 0) := by
    have := AS.lit (w := w.alloc (.cells #[.slice a0 n p0, .int .i64 rev, .int .i64 next, v3] 25)) (e := 43) (k := 17) (base := w.heap.size + 1) (by simp)
    exact uhide (by simpa using this)
  clear ht hwt
  go_enter Try.func23, Try.ntmps23
  go_wp2_with fail
  go_loopw [5, 12] (fun v i wr => ∃ q : Nat, q ≤ n ∧ i = .int .i64 q ∧ Hid (AS (w.heap.size + 1) wr 43 17 v (selU cs kind q).1 (selU cs kind q).2) ∧ Hid (objU wr w.heap.size 25 [.slice a0 n p0, .int .i64 rev, .int .i64 next, v3]) ∧ Hid (Below w.heap.size w wr)) (fun _ i _ => n - (intOf i).toNat)
  case atStart => exact ⟨0, Nat.zero_le _, rfl, HAX, OBX, BX⟩
  case round =>
    clear HAX OBX BX
    obtain ⟨q, hq, rfl, HA, OB, HB⟩ := hrel
    have b0 := OB.out.cell 0 _ rfl
    obtain ⟨av, pv, hav⟩ := HA.out.slice
    subst hav
    have hsel := (selU_ty (kind := kind) Ht.out q hq).1
    by_cases hlt : q < n
    · obtain ⟨xr, Sq, hxr, hsq, hnq, hcq⟩ := M0.out.rowAt 17 q
      have htr := Ht.out.row hlt
      obtain ⟨z0, z1, z2, z3, z4, z5, n6, c6, z7, z8, z9, n10, c10, n11, c11, z12, z13, z14, n15, c15, n16, c16, hR0, -⟩ := partsObj htr
      have hR := uhide hR0
      have hwr : wt (rowU cs 17 q) ≤ 1048576 := by have := wt_row cs 17 q; have := HW.out; omega
      have hxl : xr.length = 17 := hxr.len.trans (tyL.len htr)
      obtain ⟨b, rfl⟩ : ∃ b, a0 = some ⟨b, 0, none⟩ := by
        rcases O0.out.2 with ⟨h, h1⟩ | ⟨g, cap, cur, h, _⟩
        · omega
        · cases h; exact ⟨g, rfl⟩
      have hbw : b < w.heap.size := (ublk_lt O0.out b (by simp [blkOf, Value.ownBlock])).2
      have RG : Hid (wr.rangeAt b (q * 17) xr) := fun j v hj => by
        have hj17 : j < 17 := by have := (List.getElem?_eq_some_iff.1 hj).1; omega
        have h1 : w.cell? ⟨b, q * 17 + j, none⟩ = some v := by rw [O0.out.cellAt (q * 17 + j) (by omega)]; exact hcq j v hj
        rw [HB.out.cell (p := ⟨b, q * 17 + j, none⟩) hbw]; exact h1
      have hbr : b < wr.heap.size := by have := HB.out.size; omega
      have FZ : Hid ((Try.prog.info? 43).map (·.size) = some xr.length) := by show _ = _; rw [hxl]; exact Try.zObj_impl_Obj
      have HU : Hid (∀ u ∈ xr, u.oneCell' = true) := ones_own htr hxr
      have x0 : Hid (xr[0]? = some (.int .i64 z0)) := by
        have h := hxr
        rw [hR0] at h
        obtain ⟨_, rfl, _⟩ := h
        rfl
      have HCO : Hid (∀ wx, Below wr.heap.size wr wx → Calls Try.prog 48 #[.agg xr.toArray] wx fun e w' => ∃ ys T, e = .returned (.agg ys.toArray) ∧ ys.length = 17 ∧ Hid (oH w' (rowU cs 17 q) ys T) ∧ Hid (own2 T wx.heap.size w'.heap.size) ∧ Hid (∀ u ∈ ys, u.oneCell' = true) ∧ Hid (Below wx.heap.size wx w')) := fun wx hb => (copyOfObj_N _ xr Sq wx htr hwr ((hxr.below HB.out).below hb) (hnq HS1.out)).mono fun e w' ⟨ys, T, q1, q2, q3, q4⟩ => ⟨ys, T, q1, q2.len.trans (tyL.len htr), q2, q3, ones_own htr q2, q4⟩
      clear hxr hsq hnq hcq hR0 hwr htr
      have hqn : (q : Int) < (n : Int) := by omega
      have hq0 : (0 : Int) ≤ (q : Int) := Int.natCast_nonneg _
      by_cases hk : kindO (rowU cs 17 q) = kind
      · have hkz := hk
        rw [hR.out] at hkz
        change z0 = kind at hkz
        obtain ⟨e1, e2⟩ := selU_hit hk
        have E1 := uhide e1
        have E2 := uhide e2
        have c1 : (z0 == kind) = true := by simpa using hkz
        obtain ⟨hlen, xs0, S0', how0, hoh0, hS0, hne⟩ := HA.out
        have hvb := fun g hg => (ublk_lt how0 g hg).2
        have HD := uhide (And.intro hlen (And.intro hoh0 (And.intro hS0 (And.intro hne hvb))))
        have How := uhide how0
        have Hrow := uhide (rowU_len cs 17 q n Ht.out.2.2.2.1 hlt)
        clear hlen how0 hoh0 hS0 hne hvb e1 e2 hkz hk
        have TH : Hid ((wr.alloc (.cells [.int .i64 0, .string ⟨#[]⟩, .int .i64 0, .int .i64 0, .int .i64 0, .bool false, .slice none 0 0, .int .i64 0, .string ⟨#[]⟩, .int .i64 0, .slice none 0 0, .slice none 0 0, .int .i64 0, .string ⟨#[]⟩, .int .i64 0, .slice none 0 0, .slice none 0 0].toArray 43)).there wr.heap.size 0 xr.length) := by show World.there _ _ _ _; rw [hxl]; exact (objU.new wr 43 [.int .i64 0, .string ⟨#[]⟩, .int .i64 0, .int .i64 0, .int .i64 0, .bool false, .slice none 0 0, .int .i64 0, .string ⟨#[]⟩, .int .i64 0, .slice none 0 0, .slice none 0 0, .int .i64 0, .string ⟨#[]⟩, .int .i64 0, .slice none 0 0, .slice none 0 0]).there 0 17 (by decide)
        have RA : Hid ((wr.alloc (.cells [.int .i64 0, .string ⟨#[]⟩, .int .i64 0, .int .i64 0, .int .i64 0, .bool false, .slice none 0 0, .int .i64 0, .string ⟨#[]⟩, .int .i64 0, .slice none 0 0, .slice none 0 0, .int .i64 0, .string ⟨#[]⟩, .int .i64 0, .slice none 0 0, .slice none 0 0].toArray 43)).rangeAt b (q * 17) xr) := fun j v hj => (((Below.refl _ _).alloc (Nat.le_refl _) _).cell (p := ⟨b, q * 17 + j, none⟩) hbr).trans (RG.out j v hj)
        go_wp2_with (first
          | ((with_reducible refine wpList_load_row2 ?qqg2 43 ?qqx2 ?qqo2 b (q * 17) ?qqh2 xr Try.rObj_impl_Obj FZ.out RG.out ?_); (case qqg2 => rfl); (case qqo2 => rfl); (case qqh2 => first | (simp [Act.eval]; done) | (simp [Act.eval, Act.put]; done)))
          | ((with_reducible refine wpList_load_row2 ?qqg3 43 ?qqx3 ?qqo3 b (q * 17) ?qqh3 xr Try.rObj_impl_Obj FZ.out RA.out ?_); (case qqg3 => rfl); (case qqo3 => rfl); (case qqh3 => first | (simp [Act.eval]; done) | (simp [Act.eval, Act.put]; done)))
          | (skip
             (with_reducible refine wpList_store_cells ?qqg4 43 ?qqx4 ?qqy4 ?qqo4 ?qqd4 wr.heap.size 0 ?qqh4 (.agg xr.toArray) ?qqv4 xr cells_agg HU.out FZ.out TH.out ?_); (case qqg4 => rfl); (case qqo4 => rfl); (case qqd4 => rfl); (case qqh4 => first | (simp [Act.eval]; done) | (simp [Act.eval, Act.put]; done)); (case qqv4 => first | (simp [Act.eval]; done) | (simp [Act.eval, Act.put]; done))
             intro wy ey
             have EY : Hid (OutS [wr.heap.size] (wr.alloc (.cells [.int .i64 0, .string ⟨#[]⟩, .int .i64 0, .int .i64 0, .int .i64 0, .bool false, .slice none 0 0, .int .i64 0, .string ⟨#[]⟩, .int .i64 0, .slice none 0 0, .slice none 0 0, .int .i64 0, .string ⟨#[]⟩, .int .i64 0, .slice none 0 0, .slice none 0 0].toArray 43)) wy) := by subst ey; exact OutS.setCells xr 0 _
             have BY : Hid (Below wr.heap.size wr wy) := ((Below.refl _ _).alloc (Nat.le_refl _) _).trans (EY.out.below (fun t ht => by simp at ht; omega) (by simp))
             have OY : Hid (objU wy wr.heap.size 43 xr) := by
               have h := objU.setCells xr [.int .i64 0, .string ⟨#[]⟩, .int .i64 0, .int .i64 0, .int .i64 0, .bool false, .slice none 0 0, .int .i64 0, .string ⟨#[]⟩, .int .i64 0, .slice none 0 0, .slice none 0 0, .int .i64 0, .string ⟨#[]⟩, .int .i64 0, .slice none 0 0, .slice none 0 0] [] [] (wr.alloc (.cells [.int .i64 0, .string ⟨#[]⟩, .int .i64 0, .int .i64 0, .int .i64 0, .bool false, .slice none 0 0, .int .i64 0, .string ⟨#[]⟩, .int .i64 0, .slice none 0 0, .slice none 0 0, .int .i64 0, .string ⟨#[]⟩, .int .i64 0, .slice none 0 0, .slice none 0 0].toArray 43)) (by simpa using objU.new wr 43 [.int .i64 0, .string ⟨#[]⟩, .int .i64 0, .int .i64 0, .int .i64 0, .bool false, .slice none 0 0, .int .i64 0, .string ⟨#[]⟩, .int .i64 0, .slice none 0 0, .slice none 0 0, .int .i64 0, .string ⟨#[]⟩, .int .i64 0, .slice none 0 0, .slice none 0 0]) (by rw [hxl]; rfl)
               subst ey; exact uhide (by simpa using h)
             have k0 := OY.out.cell 0 _ x0.out
             have RX : Hid (wy.rangeAt wr.heap.size 0 xr) := OY.out.range 0 xr (fun j v h => by rw [Nat.zero_add]; exact h)
             clear ey EY)
          | ((with_reducible refine wpList_load_row2 ?qqg5 43 ?qqx5 ?qqo5 wr.heap.size 0 ?qqh5 xr Try.rObj_impl_Obj FZ.out RX.out ?_); (case qqg5 => rfl); (case qqo5 => rfl); (case qqh5 => first | (simp [Act.eval]; done) | (simp [Act.eval, Act.put]; done)))
          )
        refine (HCO.out wy BY.out).mono ?_
        rintro e w2 ⟨ys, T, rfl, hyl, ho, hT, hone, hb2⟩
        have HW2 : Hid (Below wr.heap.size wr w2) := Below.trans BY.out (hb2.out.mono (Below.size BY.out))
        have hT' : Hid (own2 T wr.heap.size w2.heap.size) := hT.out.mono (Below.size BY.out) (Nat.le_refl _)
        have how := uowns_frame How.out (fun x hx => HW2.out.block x (ublk_lt How.out x hx).2)
        have How2 := uhide how
        have hbase : w.heap.size + 1 ≤ w2.heap.size := by have := OB.out.lt; have := HW2.out.size; omega
        have Hbase := uhide hbase
        obtain ⟨i0, hi0, hi1, hi2, hi3⟩ := infoObO
        clear how hbase
        go_wp2_with (at_builtin; rw [foldZ (zs := [.int .i64 0, .string ⟨#[]⟩, .int .i64 0, .int .i64 0, .int .i64 0, .bool false, .slice none 0 0, .int .i64 0, .string ⟨#[]⟩, .int .i64 0, .slice none 0 0, .slice none 0 0, .int .i64 0, .string ⟨#[]⟩, .int .i64 0, .slice none 0 0, .slice none 0 0]) hyl]; refine wpList_append_lies _ rfl _ _ 22 rfl (w.heap.size + 1) 43 i0 _ 17 i0.bytes Try.underlying22 hi0 hi1 hi2 rfl rfl (by decide) (.slice av (selU cs kind q).2 pv) (selU cs kind q).2 _ rfl (How2.out.alloc _) ⟨w2.heap.size, 0, none⟩ 1 1 ys rfl (by omega) (cells_new _ _ _) hone.out (by decide) (by unfold maxLen; omega) (by have : ((selU cs kind q).2 + 1) * i0.bytes ≤ ((selU cs kind q).2 + 1) * 1000 := Nat.mul_le_mul_left _ hi3; omega) (by have := Hbase.out; simp; omega) _ rfl ?_; intro g3 cap3 w3 hown3 hgrow3 hat3 hlt3)
        have HA3 : Hid (AS (w.heap.size + 1) w3 43 17 (.slice (some ⟨g3, 0, none⟩) ((selU cs kind q).2 + 1) cap3) (selU cs kind (q + 1)).1 (selU cs kind (q + 1)).2) := by
          show AS _ _ _ _ _ _ _
          rw [E1.out, E2.out]
          obtain ⟨hlen, hoh, hS0, hne, hvb⟩ := HD.out
          exact AS.snoc (b0 := wr.heap.size) hlen (How2.out.alloc _) ((hoh.below HW2.out).below ((Below.refl _ _).alloc (Nat.le_refl _) _)) hS0 hne hvb (ho.out.below ((Below.refl _ _).alloc (Nat.le_refl _) _)) (hT'.out.mono (Nat.le_refl _) (by simp)) (by have := OB.out.lt; omega) (by have := HW2.out.size; simp; omega) Hrow.out hown3 hgrow3 hat3
        have HG : Hid (Below (w.heap.size + 1) (w2.alloc (.cells ys.toArray 43)) w3) := Below.grown (Below.refl _ _) hgrow3 (by have := Hbase.out; simp; omega) (fun k hk => (uowns_blk How2.out hk).1)
        have HB4 : Hid (Below (w.heap.size + 1) wr w3) := ((HW2.out.mono (by have := OB.out.lt; omega)).alloc (by have := Hbase.out; omega) _).trans HG.out
        have OB3 : Hid (objU w3 w.heap.size 25 [.slice (some ⟨b, 0, none⟩) n p0, .int .i64 rev, .int .i64 next, v3]) := (HB4.out.block w.heap.size (by omega)).trans OB.out
        have HB3 : Hid (Below w.heap.size w w3) := HB.out.trans (HB4.out.mono (by omega))
        clear hown3 hgrow3 hat3 hlt3 HG HB4 HD ho hT hT' hone How How2
        go_wp2
        go_roundw
        case rel => exact ⟨q + 1, by omega, by go_num, HA3, OB3, HB3⟩
        case measure => simp [intOf]; omega
      · have e1 := selU_miss hk
        have hkz := hk
        rw [hR.out] at hkz
        change z0 ≠ kind at hkz
        have c1 : (z0 == kind) = false := by simpa using hkz
        have HA2 : Hid (AS (w.heap.size + 1) wr 43 17 (.slice av (selU cs kind q).2 pv) (selU cs kind (q + 1)).1 (selU cs kind (q + 1)).2) := by show AS _ _ _ _ _ _ _; rw [e1]; exact HA.out
        clear e1 hkz hk
        have TH : Hid ((wr.alloc (.cells [.int .i64 0, .string ⟨#[]⟩, .int .i64 0, .int .i64 0, .int .i64 0, .bool false, .slice none 0 0, .int .i64 0, .string ⟨#[]⟩, .int .i64 0, .slice none 0 0, .slice none 0 0, .int .i64 0, .string ⟨#[]⟩, .int .i64 0, .slice none 0 0, .slice none 0 0].toArray 43)).there wr.heap.size 0 xr.length) := by show World.there _ _ _ _; rw [hxl]; exact (objU.new wr 43 [.int .i64 0, .string ⟨#[]⟩, .int .i64 0, .int .i64 0, .int .i64 0, .bool false, .slice none 0 0, .int .i64 0, .string ⟨#[]⟩, .int .i64 0, .slice none 0 0, .slice none 0 0, .int .i64 0, .string ⟨#[]⟩, .int .i64 0, .slice none 0 0, .slice none 0 0]).there 0 17 (by decide)
        have RA : Hid ((wr.alloc (.cells [.int .i64 0, .string ⟨#[]⟩, .int .i64 0, .int .i64 0, .int .i64 0, .bool false, .slice none 0 0, .int .i64 0, .string ⟨#[]⟩, .int .i64 0, .slice none 0 0, .slice none 0 0, .int .i64 0, .string ⟨#[]⟩, .int .i64 0, .slice none 0 0, .slice none 0 0].toArray 43)).rangeAt b (q * 17) xr) := fun j v hj => (((Below.refl _ _).alloc (Nat.le_refl _) _).cell (p := ⟨b, q * 17 + j, none⟩) hbr).trans (RG.out j v hj)
        go_wp2_with (first
          | ((with_reducible refine wpList_load_row2 ?qqg6 43 ?qqx6 ?qqo6 b (q * 17) ?qqh6 xr Try.rObj_impl_Obj FZ.out RG.out ?_); (case qqg6 => rfl); (case qqo6 => rfl); (case qqh6 => first | (simp [Act.eval]; done) | (simp [Act.eval, Act.put]; done)))
          | ((with_reducible refine wpList_load_row2 ?qqg7 43 ?qqx7 ?qqo7 b (q * 17) ?qqh7 xr Try.rObj_impl_Obj FZ.out RA.out ?_); (case qqg7 => rfl); (case qqo7 => rfl); (case qqh7 => first | (simp [Act.eval]; done) | (simp [Act.eval, Act.put]; done)))
          | (skip
             (with_reducible refine wpList_store_cells ?qqg8 43 ?qqx8 ?qqy8 ?qqo8 ?qqd8 wr.heap.size 0 ?qqh8 (.agg xr.toArray) ?qqv8 xr cells_agg HU.out FZ.out TH.out ?_); (case qqg8 => rfl); (case qqo8 => rfl); (case qqd8 => rfl); (case qqh8 => first | (simp [Act.eval]; done) | (simp [Act.eval, Act.put]; done)); (case qqv8 => first | (simp [Act.eval]; done) | (simp [Act.eval, Act.put]; done))
             intro wy ey
             have EY : Hid (OutS [wr.heap.size] (wr.alloc (.cells [.int .i64 0, .string ⟨#[]⟩, .int .i64 0, .int .i64 0, .int .i64 0, .bool false, .slice none 0 0, .int .i64 0, .string ⟨#[]⟩, .int .i64 0, .slice none 0 0, .slice none 0 0, .int .i64 0, .string ⟨#[]⟩, .int .i64 0, .slice none 0 0, .slice none 0 0].toArray 43)) wy) := by subst ey; exact OutS.setCells xr 0 _
             have BY : Hid (Below wr.heap.size wr wy) := ((Below.refl _ _).alloc (Nat.le_refl _) _).trans (EY.out.below (fun t ht => by simp at ht; omega) (by simp))
             have OY : Hid (objU wy wr.heap.size 43 xr) := by
               have h := objU.setCells xr [.int .i64 0, .string ⟨#[]⟩, .int .i64 0, .int .i64 0, .int .i64 0, .bool false, .slice none 0 0, .int .i64 0, .string ⟨#[]⟩, .int .i64 0, .slice none 0 0, .slice none 0 0, .int .i64 0, .string ⟨#[]⟩, .int .i64 0, .slice none 0 0, .slice none 0 0] [] [] (wr.alloc (.cells [.int .i64 0, .string ⟨#[]⟩, .int .i64 0, .int .i64 0, .int .i64 0, .bool false, .slice none 0 0, .int .i64 0, .string ⟨#[]⟩, .int .i64 0, .slice none 0 0, .slice none 0 0, .int .i64 0, .string ⟨#[]⟩, .int .i64 0, .slice none 0 0, .slice none 0 0].toArray 43)) (by simpa using objU.new wr 43 [.int .i64 0, .string ⟨#[]⟩, .int .i64 0, .int .i64 0, .int .i64 0, .bool false, .slice none 0 0, .int .i64 0, .string ⟨#[]⟩, .int .i64 0, .slice none 0 0, .slice none 0 0, .int .i64 0, .string ⟨#[]⟩, .int .i64 0, .slice none 0 0, .slice none 0 0]) (by rw [hxl]; rfl)
               subst ey; exact uhide (by simpa using h)
             have k0 := OY.out.cell 0 _ x0.out
             have RX : Hid (wy.rangeAt wr.heap.size 0 xr) := OY.out.range 0 xr (fun j v h => by rw [Nat.zero_add]; exact h)
             clear ey EY)
          )
        have HA3 := uhide (HA2.out.below BY.out)
        have OB3 := uhide (OB.out.below BY.out)
        have HB3 : Hid (Below w.heap.size w wy) := HB.out.trans (BY.out.mono HB.out.size)
        go_roundw
        case rel => exact ⟨q + 1, by omega, by go_num, HA3, OB3, HB3⟩
        case measure => simp [intOf]; omega
    · have e : q = n := by omega
      subst e
      obtain ⟨S4, k4, w4⟩ := HA.out.done (by decide) (by have := OB.out.lt; omega)
      have HF : Hid (∃ S, oS wr 17 (selU cs kind q).2 (selU cs kind q).1 (.slice av (selU cs kind q).2 pv) S ∧ own2 S w.heap.size wr.heap.size ∧ Below w.heap.size w wr) := ⟨S4, k4, w4.mono (by omega) (Nat.le_refl _), HB.out⟩
      clear HA k4 w4
      go_wp2
      go_ret
      obtain ⟨S, h1, h2, h3⟩ := HF.out
      exact ⟨_, S, rfl, h1, h2, h3⟩
end Go.Proofs.Ytamlgjmboljcdaa
