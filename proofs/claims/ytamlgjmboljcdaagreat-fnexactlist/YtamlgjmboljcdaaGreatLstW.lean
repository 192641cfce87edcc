/- Objects copied by the spec, row by row: spec.l7CopyObjs. -/
import Derived.Test.YtamlgjmboljcdaaGreatObsU
import Derived.Test.YtamlgjmboljcdaaGreatCpEach
namespace Go.Proofs.YtamlgjmboljcdaaGreat
open Go.RowKit Go.BigFrame
set_option linter.unusedVariables false
set_option maxRecDepth 40000 in
set_option maxHeartbeats 3200000 in
theorem l7CopyObjs_N {lo hi : Nat} (n : Nat) (cs : UD) (c : Value) (w : World) (ht : tyS 17 n cs 8) (hwt : n + wt cs ≤ 1048576) (hx : uS w lo hi 17 n cs c) :
    Calls Tryz.prog 134 #[c] w fun e w' => ∃ c' S, e = .returned c' ∧ oS w' 17 n cs c' S ∧ own2 S w.heap.size w'.heap.size ∧ Below w.heap.size w w' := by
  obtain ⟨a0, p0, rfl, -⟩ := uS.slice_of6 hx
  have S0 := uhide hx
  have Ht := uhide ht
  have hn8 : n ≤ 1048576 := by omega
  have HW : Hid (wt cs ≤ 1048576) := by show _ ≤ _; omega
  have BX : Hid (Below w.heap.size w (w.alloc (.cells #[] 38))) := (Below.refl _ _).alloc (Nat.le_refl _) _
  have HAX : Hid (AS w.heap.size (w.alloc (.cells #[] 38)) 38 17 (.slice (some ⟨w.heap.size, 0, none⟩) 0 0) .nil 0) := AS.lit (Nat.le_refl _)
  clear ht hwt hx
  go_enter Tryz.func134, Tryz.ntmps134
  go_wp2_with fail
  go_loopw [3, 4] (fun v i wr => ∃ q : Nat, q ≤ n ∧ i = .int .i64 q ∧ Hid (AS w.heap.size wr 38 17 v (cs.takeN (q * 17)) q) ∧ Hid (Below w.heap.size w wr)) (fun _ i _ => n - (intOf i).toNat)
  case atStart => exact ⟨0, Nat.zero_le _, rfl, by rw [Nat.zero_mul]; exact HAX, BX⟩
  case round =>
    clear HAX BX
    obtain ⟨q, hq, rfl, HA, HB⟩ := hrel
    obtain ⟨av, pv, hav⟩ := HA.out.slice
    subst hav
    by_cases hlt : q < n
    · obtain ⟨b, off, rfl, hbr, hm⟩ := (S0.out.below HB.out).cells (by omega)
      have htr := Ht.out.row hlt
      have hwr : wt (rowU cs 17 q) ≤ 1048576 := by have := wt_row cs 17 q; have := HW.out; omega
      obtain ⟨xr, hxr, hcl⟩ := (hm.row 17 q).hand
      have hxl : xr.length = 17 := hxr.len.trans (tyL.len htr)
      have RG : Hid (wr.rangeAt b (off + q * 17) xr) := hcl
      have FZ : Hid ((Tryz.prog.info? 38).map (·.size) = some xr.length) := by show _ = _; rw [hxl]; exact Tryz.zObj_impl_Obj
      have HCO : Hid (∀ wx, Below wr.heap.size wr wx → Calls Tryz.prog 92 #[.agg xr.toArray] wx fun e w' => ∃ ys T, e = .returned (.agg ys.toArray) ∧ ys.length = 17 ∧ Hid (oH w' (rowU cs 17 q) ys T) ∧ Hid (own2 T wx.heap.size w'.heap.size) ∧ Hid (∀ u ∈ ys, u.oneCell' = true) ∧ Hid (Below wx.heap.size wx w')) := fun wx hb => (l7Copy_N (lo := lo) (hi := hi) _ xr wx htr hwr (hxr.below hb)).mono fun e w' ⟨ys, T, q1, q2, q3, q4⟩ => ⟨ys, T, q1, q2.len.trans (tyL.len htr), q2, q3, ones_own htr q2, q4⟩
      have hqn : (q : Int) < (n : Int) := by omega
      have hq0 : (0 : Int) ≤ (q : Int) := Int.natCast_nonneg _
      have hrw := UD.take_row cs 17 q
      have Hrw := uhide hrw
      obtain ⟨hlen, xs0, S0', how0, hoh0, hS0, hne⟩ := HA.out
      have hvb := fun g hg => (ublk_lt how0 g hg).2
      have HD := uhide (And.intro hlen (And.intro hoh0 (And.intro hS0 (And.intro hne hvb))))
      have How := uhide how0
      have Hrow := uhide (rowU_len cs 17 q n Ht.out.2.2.2.1 hlt)
      clear hlen how0 hoh0 hS0 hne hvb hxr hcl hm hwr htr hrw
      go_wp2_with (first
        | ((with_reducible refine wpList_load_row2 ?qqg48 38 ?qqx48 ?qqo48 b (off + q * 17) ?qqh48 xr Tryz.rObj_impl_Obj FZ.out RG.out ?_); (case qqg48 => rfl); (case qqo48 => rfl); (case qqh48 => first | (simp [Act.eval]; done) | (simp [Act.eval, Act.put]; done)))
        )
      refine (HCO.out _ (Below.refl _ _)).mono ?_
      rintro e w2 ⟨ys, T, rfl, hyl, ho, hT, hone, hb2⟩
      have HW2 : Hid (Below wr.heap.size wr w2) := hb2
      have how := uowns_frame How.out (fun x hx => HW2.out.block x (ublk_lt How.out x hx).2)
      have How2 := uhide how
      have hbase : w.heap.size ≤ w2.heap.size := by have := HB.out.size; have := HW2.out.size; omega
      have Hbase := uhide hbase
      obtain ⟨i0, hi0, hi1, hi2, hi3⟩ := infoEachO
      clear how hbase
      go_wp2_with (at_builtin; rw [foldZ (zs := [.int .i64 0, .string ⟨#[]⟩, .int .i64 0, .int .i64 0, .int .i64 0, .bool false, .slice none 0 0, .int .i64 0, .string ⟨#[]⟩, .int .i64 0, .slice none 0 0, .slice none 0 0, .int .i64 0, .string ⟨#[]⟩, .int .i64 0, .slice none 0 0, .slice none 0 0]) hyl]; refine wpList_append_lies _ rfl _ _ 24 rfl w.heap.size 38 i0 _ 17 i0.bytes Tryz.underlying24 hi0 hi1 hi2 rfl rfl (by decide) (.slice av q pv) q _ rfl (How2.out.alloc _) ⟨w2.heap.size, 0, none⟩ 1 1 ys rfl (by omega) (cells_new _ _ _) hone.out (by decide) (by unfold maxLen; omega) (by have : (q + 1) * i0.bytes ≤ (q + 1) * 1000 := Nat.mul_le_mul_left _ hi3; omega) (by have := Hbase.out; simp; omega) _ rfl ?_; intro g3 cap3 w3 hown3 hgrow3 hat3 hlt3)
      have HA3 : Hid (AS w.heap.size w3 38 17 (.slice (some ⟨g3, 0, none⟩) (q + 1) cap3) (cs.takeN ((q + 1) * 17)) (q + 1)) := by
        show AS _ _ _ _ _ _ _
        rw [Hrw.out]
        obtain ⟨hlen, hoh, hS0, hne, hvb⟩ := HD.out
        exact AS.snoc (b0 := wr.heap.size) hlen (How2.out.alloc _) ((hoh.below HW2.out).below ((Below.refl _ _).alloc (Nat.le_refl _) _)) hS0 hne hvb (ho.out.below ((Below.refl _ _).alloc (Nat.le_refl _) _)) (hT.out.mono (Nat.le_refl _) (by simp)) (by have := HB.out.size; omega) (by have := HW2.out.size; simp; omega) Hrow.out hown3 hgrow3 hat3
      have HG : Hid (Below w.heap.size (w2.alloc (.cells ys.toArray 38)) w3) := Below.grown (Below.refl _ _) hgrow3 (by have := Hbase.out; simp; omega) (fun k hk => (uowns_blk How2.out hk).1)
      have HB3 : Hid (Below w.heap.size w w3) := (HB.out.trans ((HW2.out.mono HB.out.size).alloc Hbase.out _)).trans HG.out
      clear hown3 hgrow3 hat3 hlt3 HG HD ho hT hone How How2
      go_wp2
      go_roundw
      case rel => exact ⟨q + 1, by omega, by go_num, HA3, HB3⟩
      case measure => simp [intOf]; omega
    · have e : q = n := by omega
      subst e
      obtain ⟨S4, k4, w4⟩ := HA.out.done (by decide) HB.out.size
      rw [UD.takeAll Ht.out.2.2.2.1] at k4
      have HF : Hid (∃ S, oS wr 17 q cs (.slice av q pv) S ∧ own2 S w.heap.size wr.heap.size ∧ Below w.heap.size w wr) := ⟨S4, k4, w4, HB.out⟩
      clear HA k4 w4
      go_wp2
      go_ret
      obtain ⟨S, h1, h2, h3⟩ := HF.out
      exact ⟨_, S, rfl, h1, h2, h3⟩
set_option maxRecDepth 20000 in
set_option maxHeartbeats 3200000 in
theorem copyOfMirror_N (z0 : Int) (n : Nat) (cs : UD) (c : Value) (S0 : List Nat) (w : World) (ht : tyS 17 n cs 8) (hwt : n + wt cs ≤ 1048576) (hx : oS w 17 n cs c S0) (hS : S0.Nodup) :
    Calls Tryz.prog 106 #[.agg #[.int .i64 z0, c]] w fun e w' => copied w w' (.p (.int .i64 z0) (.l 17 n cs .nil)) e := by
  obtain ⟨a0, p0, rfl⟩ := hx.slice
  have BX : Hid (Below w.heap.size w ((w.alloc (.cells #[.int .i64 z0, .slice a0 n p0] 48)).alloc (.cells #[.int .i64 0, .slice none 0 0] 48))) := ((Below.refl _ _).alloc (Nat.le_refl _) _).alloc (by simp) _
  have OX : Hid (objU ((w.alloc (.cells #[.int .i64 z0, .slice a0 n p0] 48)).alloc (.cells #[.int .i64 0, .slice none 0 0] 48)) w.heap.size 48 [.int .i64 z0, .slice a0 n p0]) := (objU.new _ _ _).old _
  have OZ : Hid (objU ((w.alloc (.cells #[.int .i64 z0, .slice a0 n p0] 48)).alloc (.cells #[.int .i64 0, .slice none 0 0] 48)) (w.heap.size + 1) 48 [.int .i64 0, .slice none 0 0]) := objU.new2 _ _ (by simp)
  have SZ : Hid (w.heap.size + 2 ≤ ((w.alloc (.cells #[.int .i64 z0, .slice a0 n p0] 48)).alloc (.cells #[.int .i64 0, .slice none 0 0] 48)).heap.size) := by show _ ≤ _; simp
  have HC : Hid (Calls Tryz.prog 141 #[.slice a0 n p0, .func (.func 87) #[] #[]] ((w.alloc (.cells #[.int .i64 z0, .slice a0 n p0] 48)).alloc (.cells #[.int .i64 0, .slice none 0 0] 48)) fun e w' => ∃ c' S, e = .returned c' ∧ oS w' 17 n cs c' S ∧ own2 S ((w.alloc (.cells #[.int .i64 z0, .slice a0 n p0] 48)).alloc (.cells #[.int .i64 0, .slice none 0 0] 48)).heap.size w'.heap.size ∧ Below ((w.alloc (.cells #[.int .i64 z0, .slice a0 n p0] 48)).alloc (.cells #[.int .i64 0, .slice none 0 0] 48)).heap.size ((w.alloc (.cells #[.int .i64 z0, .slice a0 n p0] 48)).alloc (.cells #[.int .i64 0, .slice none 0 0] 48)) w') := copyEachO_N n cs _ S0 _ ht hwt (hx.below BX.out) hS
  clear ht hwt hx hS
  go_enter Tryz.func106, Tryz.ntmps106
  go_wp2_with fail
  refine HC.out.mono ?_
  rintro e w2 ⟨c', S, rfl, hc, hS, hb⟩
  obtain ⟨a1, p1, rfl⟩ := hc.slice
  have OX2 := uhide (OX.out.below hb)
  have OZ2 := uhide (OZ.out.below hb)
  have B2 : Hid (Below w.heap.size w w2) := BX.out.trans (hb.mono BX.out.size)
  have HSS : Hid (own2 S (w.heap.size + 2) w2.heap.size) := hS.mono SZ.out (Nat.le_refl _)
  have HCC := uhide hc
  have x0 := OX2.out.cell 0 _ rfl
  have x1 := OX2.out.cell 1 _ rfl
  have f1 := OX2.out.fz 1
  have z0c := OZ2.out.cell 0 _ rfl
  have z1c := OZ2.out.cell 1 _ rfl
  have g0 := OZ2.out.fz 0
  have g1 := OZ2.out.fz 1
  clear hc hS hb HC OX OZ BX SZ
  go_wp2
  have HO : Hid (OutS [w.heap.size, w.heap.size + 1] w2 (((w2.setCell ⟨w.heap.size, 1, none⟩ (.slice a1 n p1)).setCell ⟨w.heap.size + 1, 0, none⟩ (.int .i64 z0)).setCell ⟨w.heap.size + 1, 1, none⟩ (.slice a1 n p1))) := by
    show OutS _ _ _
    repeat (first | with_reducible exact OutS.refl _ _ | with_reducible refine OutS.setCell ?_ (show _ ∈ [w.heap.size, w.heap.size + 1] by simp) _)
  refine bodyPost_ret (v := .agg #[.int .i64 z0, .slice a1 n p1]) ?_ rfl (copied.mk' (S := S ++ []) (ys := [.int .i64 z0, .slice a1 n p1]) ?_ ?_ ?_)
  · simp [results, Tryz.results106, go_sem, z0c, z1c]
  · exact oH.consP _ (oH.consS (HCC.out.frame (fun g hg => HO.out.block g (HCC.out.lt g hg) (by have := HSS.out.2 g hg; simp; omega))) (oH.nil _))
  · rw [List.append_nil]; exact ⟨HSS.out.1, fun s hs => by have := HSS.out.2 s hs; have := HO.out.size; omega⟩
  · exact B2.out.trans (HO.out.below (fun t ht => by simp at ht; omega) B2.out.size)
end Go.Proofs.YtamlgjmboljcdaaGreat
