/- Texts of one claim, joined: each in its own section, in build order. -/
import Derived.Test.YtdnodaoeflbfkaaGreatJ4
import Derived.KernelRfl
import Derived.Test.YtdnodaoeflbfkaaGreatChecked
import Derived.WalkKit
import Derived.WalkSpells
import Derived.WalkLawsBesides
import Derived.Lib.OthersKept
import Derived.BigQuiet
import Derived.Deep.QuietTactic
import Derived.Lib.Strings
import Derived.Outline
import Derived.Deep.RegionWith
import Derived.Test.YtdnodaoeflbfkaaGreatJ3
import Derived.Test.YtdnodaoeflbfkaaGreatJ1
import Derived.Deep.Slices
import Derived.Test.YtdnodaoeflbfkaaGreatJ2
/- Changes copied by the spec, row by row: spec.l7CopyLog. -/
namespace Go.Proofs.YtdnodaoeflbfkaaGreat
open Go.RowKit Go.BigFrame
set_option linter.unusedVariables false
set_option linter.unusedSimpArgs false
theorem len17 {ys : List Value} (h : ys.length = 17) : ∃ y0 y1 y2 y3 y4 y5 y6 y7 y8 y9 y10 y11 y12 y13 y14 y15 y16, ys = [y0, y1, y2, y3, y4, y5, y6, y7, y8, y9, y10, y11, y12, y13, y14, y15, y16] :=
  match ys, h with
  | [y0, y1, y2, y3, y4, y5, y6, y7, y8, y9, y10, y11, y12, y13, y14, y15, y16], _ => ⟨y0, y1, y2, y3, y4, y5, y6, y7, y8, y9, y10, y11, y12, y13, y14, y15, y16, rfl⟩
theorem infoC : ∃ i, Tryz.prog.info? 140 = some i ∧ i.zero = some (.agg #[.int .i64 0, .bool false, .int .i64 0, .string ByteArray.empty, .int .i64 0, .int .i64 0, .int .i64 0, .bool false, .slice none 0 0, .int .i64 0, .string ByteArray.empty, .int .i64 0, .slice none 0 0, .slice none 0 0, .int .i64 0, .string ByteArray.empty, .int .i64 0, .slice none 0 0, .slice none 0 0]) ∧ i.size = 19 ∧ i.bytes ≤ 1000 := by
  have h : (Tryz.prog.info? 140).map (fun i => (i.zero, i.size, decide (i.bytes ≤ 1000))) = some (some (.agg #[.int .i64 0, .bool false, .int .i64 0, .string ByteArray.empty, .int .i64 0, .int .i64 0, .int .i64 0, .bool false, .slice none 0 0, .int .i64 0, .string ByteArray.empty, .int .i64 0, .slice none 0 0, .slice none 0 0, .int .i64 0, .string ByteArray.empty, .int .i64 0, .slice none 0 0, .slice none 0 0]), 19, true) := by kernel_rfl
  cases e : Tryz.prog.info? 140 with
  | none => rw [e] at h; cases h
  | some i => rw [e] at h; simp at h; exact ⟨i, rfl, h.1, h.2.1, h.2.2⟩
set_option maxRecDepth 40000 in
set_option maxHeartbeats 3200000 in
theorem l7CopyLog_N {lo hi : Nat} (n : Nat) (cs : UD) (c : Value) (w : World) (ht : tyS 19 n cs 9) (hwt : n + wt cs ≤ 1048576) (hx : uS w lo hi 19 n cs c) :
    Calls Tryz.prog 99 #[c] w fun e w' => ∃ c' S, e = .returned c' ∧ oS w' 19 n cs c' S ∧ own2 S w.heap.size w'.heap.size ∧ Below w.heap.size w w' := by
  obtain ⟨a0, p0, rfl, -⟩ := uS.slice_of6 hx
  have S0 := uhide hx
  have Ht := uhide ht
  have hn8 : n ≤ 1048576 := by omega
  have HW : Hid (wt cs ≤ 1048576) := by show _ ≤ _; omega
  have BX : Hid (Below w.heap.size w (w.alloc (.cells #[] 140))) := (Below.refl _ _).alloc (Nat.le_refl _) _
  have HAX : Hid (AS w.heap.size (w.alloc (.cells #[] 140)) 140 19 (.slice (some ⟨w.heap.size, 0, none⟩) 0 0) .nil 0) := AS.lit (Nat.le_refl _)
  clear ht hwt hx
  go_enter Tryz.func99, Tryz.ntmps99
  go_wp2_with fail
  go_loopw [3, 4] (fun v i wr => ∃ q : Nat, q ≤ n ∧ i = .int .i64 q ∧ Hid (AS w.heap.size wr 140 19 v (cs.takeN (q * 19)) q) ∧ Hid (Below w.heap.size w wr)) (fun _ i _ => n - (intOf i).toNat)
  case atStart => exact ⟨0, Nat.zero_le _, rfl, by rw [Nat.zero_mul]; exact HAX, BX⟩
  case round =>
    clear HAX BX
    obtain ⟨q, hq, rfl, HA, HB⟩ := hrel
    obtain ⟨av, pv, hav⟩ := HA.out.slice
    subst hav
    by_cases hlt : q < n
    · obtain ⟨b, off, rfl, hbr, hm⟩ := S0.out.cells (by omega)
      have htr := Ht.out.row hlt
      have hwr : wt (rowU cs 19 q) ≤ 1048576 := by have := wt_row cs 19 q; have := HW.out; omega
      obtain ⟨xr, hxr, hcl⟩ := (hm.row 19 q).hand
      obtain ⟨z0, z1, o, hR0, g0, hto⟩ := partsC htr
      have hwo : wt o ≤ 1048576 := by rw [hR0] at hwr; simp only [wt, wtP] at hwr; omega
      rw [hR0] at hxr
      obtain ⟨_, rfl, ⟨xo, rfl, hxo⟩⟩ := hxr
      have HXO := uhide hxo
      have HTO := uhide hto
      obtain ⟨b2, b3, b4, b5, b6, b7, m8, e8, b9, b10, b11, m12, e12, m13, e13, b14, b15, b16, m17, e17, m18, e18, hO, -⟩ := partsObj hto
      rw [hO] at hxo
      obtain ⟨_, rfl, ⟨_, rfl, ⟨_, rfl, ⟨_, rfl, ⟨_, rfl, ⟨_, rfl, ⟨v8, _, rfl, -, ⟨_, rfl, ⟨_, rfl, ⟨_, rfl, ⟨v12, _, rfl, -, ⟨v13, _, rfl, -, ⟨_, rfl, ⟨_, rfl, ⟨_, rfl, ⟨v17, _, rfl, -, ⟨v18, _, rfl, -, rfl⟩⟩⟩⟩⟩⟩⟩⟩⟩⟩⟩⟩⟩⟩⟩⟩⟩ := hxo
      have HS19 : Hid (∀ wx, Below w.heap.size w wx → wx.cell? ⟨b, off + q * 19, none⟩ = some (.int .i64 z0) ∧ wx.cell? ⟨b, off + q * 19 + 1, none⟩ = some (.bool z1) ∧ wx.cell? ⟨b, off + q * 19 + 2, none⟩ = some (.int .i64 b2) ∧ wx.cell? ⟨b, off + q * 19 + 3, none⟩ = some (.string b3) ∧ wx.cell? ⟨b, off + q * 19 + 4, none⟩ = some (.int .i64 b4) ∧ wx.cell? ⟨b, off + q * 19 + 5, none⟩ = some (.int .i64 b5) ∧ wx.cell? ⟨b, off + q * 19 + 6, none⟩ = some (.int .i64 b6) ∧ wx.cell? ⟨b, off + q * 19 + 7, none⟩ = some (.bool b7) ∧ wx.cell? ⟨b, off + q * 19 + 8, none⟩ = some (v8) ∧ wx.cell? ⟨b, off + q * 19 + 9, none⟩ = some (.int .i64 b9) ∧ wx.cell? ⟨b, off + q * 19 + 10, none⟩ = some (.string b10) ∧ wx.cell? ⟨b, off + q * 19 + 11, none⟩ = some (.int .i64 b11) ∧ wx.cell? ⟨b, off + q * 19 + 12, none⟩ = some (v12) ∧ wx.cell? ⟨b, off + q * 19 + 13, none⟩ = some (v13) ∧ wx.cell? ⟨b, off + q * 19 + 14, none⟩ = some (.int .i64 b14) ∧ wx.cell? ⟨b, off + q * 19 + 15, none⟩ = some (.string b15) ∧ wx.cell? ⟨b, off + q * 19 + 16, none⟩ = some (.int .i64 b16) ∧ wx.cell? ⟨b, off + q * 19 + 17, none⟩ = some (v17) ∧ wx.cell? ⟨b, off + q * 19 + 18, none⟩ = some (v18)) := fun wx hb => ⟨(hb.cell (p := ⟨b, _, none⟩) hbr).trans (hcl 0 _ rfl), (hb.cell (p := ⟨b, _, none⟩) hbr).trans (hcl 1 _ rfl), (hb.cell (p := ⟨b, _, none⟩) hbr).trans (hcl 2 _ rfl), (hb.cell (p := ⟨b, _, none⟩) hbr).trans (hcl 3 _ rfl), (hb.cell (p := ⟨b, _, none⟩) hbr).trans (hcl 4 _ rfl), (hb.cell (p := ⟨b, _, none⟩) hbr).trans (hcl 5 _ rfl), (hb.cell (p := ⟨b, _, none⟩) hbr).trans (hcl 6 _ rfl), (hb.cell (p := ⟨b, _, none⟩) hbr).trans (hcl 7 _ rfl), (hb.cell (p := ⟨b, _, none⟩) hbr).trans (hcl 8 _ rfl), (hb.cell (p := ⟨b, _, none⟩) hbr).trans (hcl 9 _ rfl), (hb.cell (p := ⟨b, _, none⟩) hbr).trans (hcl 10 _ rfl), (hb.cell (p := ⟨b, _, none⟩) hbr).trans (hcl 11 _ rfl), (hb.cell (p := ⟨b, _, none⟩) hbr).trans (hcl 12 _ rfl), (hb.cell (p := ⟨b, _, none⟩) hbr).trans (hcl 13 _ rfl), (hb.cell (p := ⟨b, _, none⟩) hbr).trans (hcl 14 _ rfl), (hb.cell (p := ⟨b, _, none⟩) hbr).trans (hcl 15 _ rfl), (hb.cell (p := ⟨b, _, none⟩) hbr).trans (hcl 16 _ rfl), (hb.cell (p := ⟨b, _, none⟩) hbr).trans (hcl 17 _ rfl), (hb.cell (p := ⟨b, _, none⟩) hbr).trans (hcl 18 _ rfl)⟩
      have q19 := HS19.out wr HB.out
      obtain ⟨q0, q1, q2, q3, q4, q5, q6, q7, q8, q9, q10, q11, q12, q13, q14, q15, q16, q17, q18⟩ := q19
      have HCO : Hid (∀ wx, Below wr.heap.size wr wx → Calls Tryz.prog 169 #[.agg #[.int .i64 b2, .string b3, .int .i64 b4, .int .i64 b5, .int .i64 b6, .bool b7, v8, .int .i64 b9, .string b10, .int .i64 b11, v12, v13, .int .i64 b14, .string b15, .int .i64 b16, v17, v18]] wx fun e w' => ∃ y0 y1 y2 y3 y4 y5 y6 y7 y8 y9 y10 y11 y12 y13 y14 y15 y16 T, e = .returned (.agg #[y0, y1, y2, y3, y4, y5, y6, y7, y8, y9, y10, y11, y12, y13, y14, y15, y16]) ∧ Hid (oH w' o [y0, y1, y2, y3, y4, y5, y6, y7, y8, y9, y10, y11, y12, y13, y14, y15, y16] T) ∧ Hid (own2 T wx.heap.size w'.heap.size) ∧ Hid (∀ u ∈ ([y0, y1, y2, y3, y4, y5, y6, y7, y8, y9, y10, y11, y12, y13, y14, y15, y16] : List Value), u.oneCell' = true) ∧ Hid (Below wx.heap.size wx w')) := fun wx hb => (l7Copy_N (lo := lo) (hi := hi) _ [.int .i64 b2, .string b3, .int .i64 b4, .int .i64 b5, .int .i64 b6, .bool b7, v8, .int .i64 b9, .string b10, .int .i64 b11, v12, v13, .int .i64 b14, .string b15, .int .i64 b16, v17, v18] wx HTO.out hwo (HXO.out.below (HB.out.trans (hb.mono HB.out.size)))).mono fun e w' ⟨ys, T, q1, q2, q3, q4⟩ => by
        obtain ⟨y0, y1, y2, y3, y4, y5, y6, y7, y8, y9, y10, y11, y12, y13, y14, y15, y16, rfl⟩ := len17 (q2.len.trans (tyL.len HTO.out))
        exact ⟨y0, y1, y2, y3, y4, y5, y6, y7, y8, y9, y10, y11, y12, y13, y14, y15, y16, T, q1, q2, q3, ones_own HTO.out q2, q4⟩
      have hqn : (q : Int) < (n : Int) := by omega
      have hq0 : (0 : Int) ≤ (q : Int) := Int.natCast_nonneg _
      have hrw := UD.take_row cs 19 q
      rw [hR0] at hrw
      have Hrw := uhide hrw
      obtain ⟨hlen, xs0, S0', how0, hoh0, hS0, hne⟩ := HA.out
      have hvb := fun g hg => (ublk_lt how0 g hg).2
      have HD := uhide (And.intro hlen (And.intro hoh0 (And.intro hS0 (And.intro hne hvb))))
      have How := uhide how0
      have Hrow := uhide (rowU_len cs 19 q n Ht.out.2.2.2.1 hlt)
      rw [hR0] at Hrow
      obtain ⟨i0, hi0, hi1, hi2, hi3⟩ := infoC
      have hvl : w.heap.size ≤ wr.heap.size := HB.out.size
      have Hvl := uhide hvl
      clear hlen how0 hoh0 hS0 hne hvb hcl hm hwr htr hrw hR0 hwo hto hO hvl
      go_wp2
      go_region_held3 (fun wx => wx.cell? ⟨b, off + q * 19, none⟩ = some (.int .i64 z0) ∧ wx.cell? ⟨b, off + q * 19 + 1, none⟩ = some (.bool z1) ∧ wx.cell? ⟨b, off + q * 19 + 2, none⟩ = some (.int .i64 b2) ∧ wx.cell? ⟨b, off + q * 19 + 3, none⟩ = some (.string b3) ∧ wx.cell? ⟨b, off + q * 19 + 4, none⟩ = some (.int .i64 b4) ∧ wx.cell? ⟨b, off + q * 19 + 5, none⟩ = some (.int .i64 b5) ∧ wx.cell? ⟨b, off + q * 19 + 6, none⟩ = some (.int .i64 b6) ∧ wx.cell? ⟨b, off + q * 19 + 7, none⟩ = some (.bool b7) ∧ wx.cell? ⟨b, off + q * 19 + 8, none⟩ = some (v8) ∧ wx.cell? ⟨b, off + q * 19 + 9, none⟩ = some (.int .i64 b9) ∧ wx.cell? ⟨b, off + q * 19 + 10, none⟩ = some (.string b10) ∧ wx.cell? ⟨b, off + q * 19 + 11, none⟩ = some (.int .i64 b11) ∧ wx.cell? ⟨b, off + q * 19 + 12, none⟩ = some (v12) ∧ wx.cell? ⟨b, off + q * 19 + 13, none⟩ = some (v13) ∧ wx.cell? ⟨b, off + q * 19 + 14, none⟩ = some (.int .i64 b14) ∧ wx.cell? ⟨b, off + q * 19 + 15, none⟩ = some (.string b15) ∧ wx.cell? ⟨b, off + q * 19 + 16, none⟩ = some (.int .i64 b16) ∧ wx.cell? ⟨b, off + q * 19 + 17, none⟩ = some (v17) ∧ wx.cell? ⟨b, off + q * 19 + 18, none⟩ = some (v18)) (first | assumption | exact HS19.out _ (by repeat (first | with_reducible exact HB.out | with_reducible exact HB3.out | with_reducible exact HB2.out | with_reducible refine Below.drew ?_ | with_reducible refine Below.alloc ?_ (by first | exact HB2.out.size | simp) _)) | go_keep)
        (first
        | (go_at_call 169
           refine (HCO.out _ (by repeat (first | with_reducible exact Below.refl _ _ | with_reducible refine Below.drew ?_))).mono ?_
           rintro e w2 ⟨y0, y1, y2, y3, y4, y5, y6, y7, y8, y9, y10, y11, y12, y13, y14, y15, y16, T, rfl, ho, hT, hone, hb2⟩
           have HW2 : Hid (Below wr.heap.size wr w2) := (show Below wr.heap.size wr _ from by repeat (first | with_reducible exact Below.refl _ _ | with_reducible refine Below.drew ?_)).trans (hb2.out.mono (by first | exact Nat.le_refl _ | simp))
           have hT2 : Hid (own2 T wr.heap.size w2.heap.size) := hT.out.mono (by first | exact Nat.le_refl _ | simp) (Nat.le_refl _)
           have HB2 : Hid (Below w.heap.size w w2) := HB.out.trans (HW2.out.mono HB.out.size)
           have how := uowns_frame How.out (fun x hx => HW2.out.block x (ublk_lt How.out x hx).2)
           have How2 := uhide how
           have Hbase : Hid (w.heap.size ≤ w2.heap.size) := Nat.le_trans Hvl.out HW2.out.size
           have hone2 : Hid (∀ u ∈ ([Value.int .i64 z0, Value.bool z1, y0, y1, y2, y3, y4, y5, y6, y7, y8, y9, y10, y11, y12, y13, y14, y15, y16] : List Value), u.oneCell' = true) := fun u hu => by
             rcases List.mem_cons.1 hu with rfl | hu
             · rfl
             · rcases List.mem_cons.1 hu with rfl | hu
               · rfl
               · exact hone.out u hu
           clear how hb2 hT hone HCO)
        | (refine step_append_lies _ rfl (.tmp 12) (.tmp 30) 67 rfl w.heap.size 140 i0 _ 19 i0.bytes Tryz.underlying67 hi0 hi1 hi2 rfl rfl (by decide) (.slice av q pv) q _ (by simp [Act.eval]) (by first | exact How2.out.alloc _ | exact (How2.out.alloc _).drew) ⟨w2.heap.size, 0, none⟩ 1 1 [Value.int .i64 z0, Value.bool z1, y0, y1, y2, y3, y4, y5, y6, y7, y8, y9, y10, y11, y12, y13, y14, y15, y16] (by simp [Act.eval]) rfl (cells_new _ _ _) hone2.out (by decide) (by unfold maxLen; omega) (by have : (q + 1) * i0.bytes ≤ (q + 1) * 1000 := Nat.mul_le_mul_left _ hi3; omega) (by have := Hbase.out; simp; omega) _ rfl ?_
           intro g3 cap3 w3 hown3 hgrow3 hat3 hlt3
           have HA3 : Hid (AS w.heap.size w3 140 19 (.slice (some ⟨g3, 0, none⟩) (q + 1) cap3) (cs.takeN ((q + 1) * 19)) (q + 1)) := by
             show AS _ _ _ _ _ _ _
             rw [Hrw.out]
             obtain ⟨hlen, hoh, hS0, hne, hvb⟩ := HD.out
             exact AS.snoc (b0 := wr.heap.size) hlen (How2.out.alloc _) ((hoh.below HW2.out).below ((Below.refl _ _).alloc (Nat.le_refl _) _)) hS0 hne hvb (oH.consP _ (oH.consP _ (ho.out.below ((Below.refl _ _).alloc (Nat.le_refl _) _)))) (hT2.out.mono (Nat.le_refl _) (by simp)) Hvl.out (by have := HW2.out.size; simp; omega) Hrow.out hown3 hgrow3 hat3
           have HG : Hid (Below w.heap.size (w2.alloc (.cells [Value.int .i64 z0, Value.bool z1, y0, y1, y2, y3, y4, y5, y6, y7, y8, y9, y10, y11, y12, y13, y14, y15, y16].toArray 140)) w3) := Below.grown (Below.refl _ _) hgrow3 (by have := Hbase.out; simp; omega) (fun k hk => (uowns_blk How2.out hk).1)
           have HB3 : Hid (Below w.heap.size w w3) := (HB.out.trans ((HW2.out.mono HB.out.size).alloc Hbase.out _)).trans HG.out
           clear hown3 hgrow3 hat3 hlt3 HG HD ho hT2 hone2 How How2))
      all_goals go_wp2
      all_goals go_roundw
      all_goals first
        | (case rel => exact ⟨q + 1, by omega, by go_num, HA3, HB3⟩)
        | (case measure => (simp [intOf]; omega))
    · have e : q = n := by omega
      subst e
      obtain ⟨S4, k4, w4⟩ := HA.out.done (by decide) HB.out.size
      rw [UD.takeAll Ht.out.2.2.2.1] at k4
      have HF : Hid (∃ S, oS wr 19 q cs (.slice av q pv) S ∧ own2 S w.heap.size wr.heap.size ∧ Below w.heap.size w wr) := ⟨S4, k4, w4, HB.out⟩
      clear HA k4 w4
      go_wp2
      go_ret
      obtain ⟨S, h1, h2, h3⟩ := HF.out
      exact ⟨_, S, rfl, h1, h2, h3⟩
end Go.Proofs.YtdnodaoeflbfkaaGreat
/- Contracts of the two NameOk and what they call: both answer 'nameB', for every string. -/
namespace Go.Proofs.YtdnodaoeflbfkaaGreat
open Go.RowKit

theorem hide {p : Prop} (h : p) : Hid p := h
def inB (x a b : Int) : Bool := decide (a ≤ x ∧ x ≤ b)
def nbI (x : Int) : Bool := decide ((97 ≤ x ∧ x ≤ 122) ∨ (48 ≤ x ∧ x ≤ 57) ∨ x = 45)
/-- the byte at a place, as a number -/
def byt (s : ByteArray) (i : Nat) : Int := ((s.data.toList[i]?.getD 0).toNat : Int)
def okTo (s : ByteArray) (k : Nat) : Prop := ∀ j, j < k → nbI (byt s j) = true
def nameB (s : ByteArray) : Bool := decide ((∀ j, j < s.size → nbI (byt s j) = true) ∧ 1 ≤ s.size ∧ s.size ≤ 20 ∧ byt s 0 ≠ 45 ∧ byt s (s.size - 1) ≠ 45)

theorem byt_get (s : ByteArray) (i : Nat) (h : i < s.size) : byt s i = ((s[i]'h).toNat : Int) := by
  unfold byt
  have h' : i < s.data.toList.length := by simpa using h
  rw [List.getElem?_eq_getElem h']
  rfl
theorem byt_bd (s : ByteArray) (i : Nat) : 0 ≤ byt s i ∧ byt s i < 256 := by
  unfold byt
  have := (s.data.toList[i]?.getD 0).toNat_lt
  omega
theorem okTo_succ {s : ByteArray} {k : Nat} (h : okTo s k) (hk : nbI (byt s k) = true) : okTo s (k + 1) := by
  intro j hj
  by_cases e : j = k
  · rw [e]; exact hk
  · exact h j (by omega)
theorem nameB_bad {s : ByteArray} {k : Nat} (hk : k < s.size) (h : nbI (byt s k) = false) : nameB s = false := by
  unfold nameB
  rw [decide_eq_false_iff_not]
  rintro ⟨h1, -⟩
  have := h1 k hk
  rw [h] at this
  cases this

theorem ret_bool {a b : Bool} (h : a = b) : Ending.returned (.bool a) = .returned (.bool b) := by rw [h]

theorem l1In_any (x a b : Int) (w : World) : Calls Tryz.prog 98 #[.int .i64 x, .int .i64 a, .int .i64 b] w fun e w' => e = .returned (.bool (inB x a b)) ∧ w' = w := by
  go_enter Tryz.func98, Tryz.ntmps98
  go_wp2
  all_goals go_ret
  all_goals exact ⟨ret_bool (by rw [Bool.eq_iff_iff]; simp [inB]; omega), rfl⟩
theorem nameRune_any (x : Int) (w : World) : Calls Tryz.prog 190 #[.int .i32 x] w fun e w' => e = .returned (.bool (nbI x)) ∧ w' = w := by
  go_enter Tryz.func190, Tryz.ntmps190
  go_wp2
  all_goals go_ret
  all_goals exact ⟨ret_bool (by rw [Bool.eq_iff_iff]; simp [nbI]; omega), rfl⟩

theorem cls (c : Int) : (inB c 97 122 = true ∧ Hid (nbI c = true)) ∨ (inB c 97 122 = false ∧ inB c 48 57 = true ∧ Hid (nbI c = true)) ∨
    (inB c 97 122 = false ∧ inB c 48 57 = false ∧ (c != 45) = false ∧ Hid (nbI c = true)) ∨ (inB c 97 122 = false ∧ inB c 48 57 = false ∧ (c != 45) = true ∧ Hid (nbI c = false)) := by
  unfold Hid inB nbI
  simp only [decide_eq_true_eq, decide_eq_false_iff_not, bne_iff_ne, bne_eq_false_iff_eq]
  omega
/-- the last row of both, the bytes being right -/
theorem nameB_end {s : ByteArray} (hok : okTo s s.size) : (inB s.size 1 20 = false ∧ Hid (nameB s = false)) ∨
    ∃ (h0 : 0 < s.size) (h1 : s.size - 1 < s.size), inB s.size 1 20 = true ∧ s.size ≤ 20 ∧ ((((s[0]'h0).toNat : Int) != 45) = false ∧ Hid (nameB s = false) ∨ (((s[0]'h0).toNat : Int) != 45) = true ∧
      ((((s[s.size - 1]'h1).toNat : Int) != 45) = false ∧ Hid (nameB s = false) ∨ (((s[s.size - 1]'h1).toNat : Int) != 45) = true ∧ Hid (nameB s = true))) := by
  by_cases hz : inB s.size 1 20 = true
  · right
    have hz' := hz
    unfold inB at hz'
    simp only [decide_eq_true_eq] at hz'
    have h0 : 0 < s.size := by omega
    have h1 : s.size - 1 < s.size := by omega
    refine ⟨h0, h1, hz, by omega, ?_⟩
    have e0 := byt_get s 0 h0
    have e1 := byt_get s (s.size - 1) h1
    simp only [← e0, ← e1, Hid, nameB, bne_iff_ne, bne_eq_false_iff_eq, decide_eq_true_eq, decide_eq_false_iff_not, ne_eq]
    by_cases a : byt s 0 = 45
    · left; exact ⟨a, fun h => h.2.2.2.1 a⟩
    · right
      refine ⟨a, ?_⟩
      by_cases b : byt s (s.size - 1) = 45
      · left; exact ⟨b, fun h => h.2.2.2.2 b⟩
      · right; exact ⟨b, hok, by omega, by omega, a, b⟩
  · left
    have hz' : inB s.size 1 20 = false := by simpa using hz
    refine ⟨hz', ?_⟩
    unfold inB at hz
    simp only [decide_eq_true_eq] at hz
    unfold Hid nameB
    rw [decide_eq_false_iff_not]
    rintro ⟨-, a, b, -⟩
    omega

theorem sname_any (s : ByteArray) (w : World) (hs : s.size ≤ maxLen) : Calls Tryz.prog 127 #[.string s] w fun e w' => e = .returned (.bool (nameB s)) ∧ w' = w := by
  unfold maxLen at hs
  go_enter Tryz.func127, Tryz.ntmps127
  go_wp2
  go_loop [3] (fun i => ∃ k : Nat, k ≤ s.size ∧ i = .int .i64 k ∧ okTo s k) (fun i => s.size - (intOf i).toNat)
  case atStart => exact ⟨0, Nat.zero_le _, rfl, fun j hj => by omega⟩
  case round =>
    obtain ⟨k, hk, rfl, hok⟩ := hrel
    by_cases hlt : k < s.size
    · have hb := byt_bd s k
      rw [byt_get s k hlt] at hb
      have hsucc := fun h => okTo_succ hok (k := k) h
      have hbad := fun h => nameB_bad (s := s) hlt h
      have hc := cls (byt s k)
      rw [byt_get s k hlt] at hsucc hbad hc
      clear hok
      have Hs : Hid (nbI (s[k]'hlt).toNat = true → okTo s (k + 1)) := hsucc
      have Hb : Hid (nbI (s[k]'hlt).toNat = false → nameB s = false) := hbad
      clear hsucc hbad
      rcases hc with ⟨h1, hn⟩ | ⟨h1, h2, hn⟩ | ⟨h1, h2, h3, hn⟩ | ⟨h1, h2, h3, hn⟩
      all_goals
        go_wp2_with (go_at_call 98; refine (l1In_any _ _ _ _).mono ?_; rintro e w' ⟨rfl, rfl⟩)
      · go_round
        case rel => exact ⟨k + 1, by omega, by go_num, Hs.out hn.out⟩
        case measure => simp [intOf]; omega
      · go_round
        case rel => exact ⟨k + 1, by omega, by go_num, Hs.out hn.out⟩
        case measure => simp [intOf]; omega
      · go_round
        case rel => exact ⟨k + 1, by omega, by go_num, Hs.out hn.out⟩
        case measure => simp [intOf]; omega
      · go_ret
        exact ⟨ret_bool (Hb.out hn.out).symm, rfl⟩
    · have e : k = s.size := by omega
      subst e
      rcases nameB_end hok with ⟨h1, hn⟩ | ⟨h0, h01, h1, h20, ⟨h2, hn⟩ | ⟨h2, ⟨h3, hn⟩ | ⟨h3, hn⟩⟩⟩
      all_goals clear hok
      all_goals
        go_wp2_with (go_at_call 98; refine (l1In_any _ _ _ _).mono ?_; rintro e w' ⟨rfl, rfl⟩)
      all_goals (go_ret; exact ⟨ret_bool hn.out.symm, rfl⟩)

theorem width_pos (s : ByteArray) (pos : Nat) (h : pos < s.size) : 1 ≤ (Utf8.decode s pos).2 := by
  by_cases ha : (s[pos]'h).toNat < 128
  · rw [decode_ascii s pos h ha]
    exact Nat.le_refl _
  · exact (decode_high s pos h (by omega)).2
theorem rune_is (s : ByteArray) (pos : Nat) (h : pos < s.size) : (nbI ((Utf8.decode s pos).1 : Int) = true ∧ Hid (nbI (byt s pos) = true ∧ (Utf8.decode s pos).2 = 1)) ∨ (nbI ((Utf8.decode s pos).1 : Int) = false ∧ Hid (nbI (byt s pos) = false)) := by
  by_cases ha : (s[pos]'h).toNat < 128
  · rw [decode_ascii s pos h ha, byt_get s pos h]
    by_cases hn : nbI ((s[pos]'h).toNat : Int) = true
    · exact .inl ⟨hn, hn, rfl⟩
    · have hn' : nbI ((s[pos]'h).toNat : Int) = false := by simpa using hn
      exact .inr ⟨hn', hn'⟩
  · have hd := (decode_high s pos h (by omega)).1
    right
    rw [byt_get s pos h]
    unfold Hid nbI
    simp only [decide_eq_false_iff_not]
    omega
theorem nameB_long {s : ByteArray} (h : 20 < s.size) : nameB s = false := by
  unfold nameB; rw [decide_eq_false_iff_not]; omega
theorem nameB_none {s : ByteArray} (h : s.size = 0) : nameB s = false := by
  unfold nameB; rw [decide_eq_false_iff_not]; omega

theorem empty_iff (s : ByteArray) : s.toList.isEmpty = decide (s.size = 0) := by
  rw [Lib.toList_data, Bool.eq_iff_iff, List.isEmpty_iff, decide_eq_true_eq]
  constructor
  · intro h; have := congrArg List.length h; simpa using this
  · intro h; exact List.eq_nil_of_length_eq_zero (by simpa using h)

set_option maxRecDepth 1000000 in
theorem iname_any (s : ByteArray) (w : World) : Calls Tryz.prog 129 #[.string s] w fun e w' => e = .returned (.bool (nameB s)) ∧ Below w.heap.size w w' := by
  by_cases hz : s.size = 0
  · have he : s.toList.isEmpty = true := by rw [empty_iff, decide_eq_true hz]
    have hn : Hid (nameB s = false) := nameB_none hz
    clear hz
    go_enter Tryz.func129, Tryz.ntmps129
    go_wp2
    go_ret
    exact ⟨ret_bool hn.out.symm, Below.refl _ _⟩
  have he : s.toList.isEmpty = false := by rw [empty_iff, decide_eq_false hz]
  by_cases hl : 20 < s.size
  · have hn : Hid (nameB s = false) := nameB_long hl
    have hl' : (20 : Int) < (s.size : Int) := by omega
    clear hz hl
    go_enter Tryz.func129, Tryz.ntmps129
    go_wp2
    go_ret
    exact ⟨ret_bool hn.out.symm, Below.refl _ _⟩
  have hl' : ¬ (20 : Int) < (s.size : Int) := by omega
  go_enter Tryz.func129, Tryz.ntmps129
  go_wp2
  go_loopw [] (fun wr => ∃ pos : Nat, pos ≤ s.size ∧ wr.heap[w.heap.size]? = some (.stringIter s pos) ∧ Below w.heap.size w wr ∧ okTo s pos) (fun wr => s.size - wr.iterPos w.heap.size)
  case atStart => exact ⟨0, Nat.zero_le _, World.iter_heap w s 0, (Below.refl _ _).alloc (Nat.le_refl _) _, fun j hj => by omega⟩
  case round =>
    obtain ⟨pos, hpos, hit, hbw, hok⟩ := hrel
    have hpos0 : wr.iterPos w.heap.size = pos := by simp [World.iterPos, hit]
    by_cases hp : pos < s.size
    · have hnx : ∀ ty, (Instr.next (.pointer (some ⟨w.heap.size, 0, none⟩)) true ty).run Tryz.prog wr = _ := fun ty => Lib.run_next_any_at wr w.heap.size s pos ty hit hp
      have hit2 := Lib.iterAt_heap wr w.heap.size s pos (pos + (Utf8.decode s pos).2) hit
      have hbw2 := Lib.below_iterAt hbw (k := w.heap.size) (Nat.le_refl _) s (pos + (Utf8.decode s pos).2)
      have hpos2 : (wr.iterAt w.heap.size s (pos + (Utf8.decode s pos).2)).iterPos w.heap.size = pos + (Utf8.decode s pos).2 := by simp [World.iterPos, hit2]
      obtain ⟨W1, hW1⟩ : ∃ W1, W1 = wr.iterAt w.heap.size s (pos + (Utf8.decode s pos).2) := ⟨_, rfl⟩
      rw [← hW1] at hnx hit2 hbw2 hpos2
      have Hp : Hid (W1.iterPos w.heap.size = pos + (Utf8.decode s pos).2) := hpos2
      have Hp0 : Hid (wr.iterPos w.heap.size = pos) := hpos0
      have Hi : Hid (W1.heap[w.heap.size]? = some (.stringIter s (pos + (Utf8.decode s pos).2))) := hit2
      have Hs : Hid (nbI (byt s pos) = true → okTo s (pos + 1)) := fun h => okTo_succ hok (k := pos) h
      have Hb : Hid (nbI (byt s pos) = false → nameB s = false) := fun h => nameB_bad (s := s) hp h
      clear hW1 hit hbw hpos2 hit2 hok hpos0
      rcases rune_is s pos hp with ⟨h1, hn⟩ | ⟨h1, hn⟩
      all_goals
        go_wp2_with (go_at_call 190; refine (nameRune_any _ _).mono ?_; rintro e w' ⟨rfl, rfl⟩)
      · go_roundw
        case rel => exact ⟨pos + (Utf8.decode s pos).2, by rw [hn.out.2]; omega, Hi.out, hbw2, by rw [hn.out.2]; exact Hs.out hn.out.1⟩
        case measure => rw [Hp.out, Hp0.out, hn.out.2]; omega
      · go_ret
        exact ⟨ret_bool (Hb.out hn.out).symm, hbw2⟩
    · have e : pos = s.size := by omega
      subst e
      have hnx : ∀ ty, (Instr.next (.pointer (some ⟨w.heap.size, 0, none⟩)) true ty).run Tryz.prog wr = _ := fun ty => Lib.run_next_end_at wr w.heap.size s s.size ty hit hp
      rcases nameB_end hok with ⟨h1, hn⟩ | ⟨h0, h01, h1, h20, ⟨h2, hn⟩ | ⟨h2, ⟨h3, hn⟩ | ⟨h3, hn⟩⟩⟩
      · exfalso; unfold inB at h1; simp only [decide_eq_false_iff_not] at h1; omega
      all_goals clear hok hpos0 hit
      all_goals go_wp2
      all_goals (go_ret; exact ⟨ret_bool hn.out.symm, hbw⟩)
end Go.Proofs.YtdnodaoeflbfkaaGreat
/- Small facts that many texts want. -/
namespace Go.Proofs.YtdnodaoeflbfkaaGreat
open Go.RowKit Go.BigFrame
set_option linter.unusedVariables false
theorem ret_int {k : IntKind} {a b : Int} (h : a = b) : Ending.returned (.int k a) = .returned (.int k b) := by rw [h]

theorem beq_str (s t : ByteArray) : (s.toList == t.toList) = decide (s = t) := by
  rw [Lib.toList_data, Lib.toList_data, Bool.eq_iff_iff, beq_iff_eq, decide_eq_true_eq]
  constructor
  · intro h
    apply ByteArray.ext
    exact Array.ext' h
  · intro h; rw [h]

theorem below_drewN {B : Nat} {a w : World} (h : Below B a w) (n : Nat) : Below B a (w.drewN n) := h.trans ⟨rfl, rfl, rfl, Nat.le_refl _, fun _ _ => rfl⟩
def ltS (a b : ByteArray) : Bool := Op.bytesLess a.toList b.toList
end Go.Proofs.YtdnodaoeflbfkaaGreat
/- Rows of strings: where a slice of strings leads; the three helpers of the laws over them. -/
namespace Go.Proofs.YtdnodaoeflbfkaaGreat
open Go.RowKit
set_option linter.unusedVariables false

/-- rows of strings: one cell each -/
def strAt (w : World) (b off : Nat) (ss : List ByteArray) : Prop := ∀ i (h : i < ss.length), w.cell? ⟨b, off + i, none⟩ = some (.string (ss[i]'h))
def strOf (w : World) (a : Option Addr) (ss : List ByteArray) : Prop := 0 < ss.length → ∃ b off, a = some ⟨b, off, none⟩ ∧ strAt w b off ss
theorem strAt.below {w w' : World} {b off : Nat} {ss : List ByteArray} (h : strAt w b off ss) (hb : Below w.heap.size w w') : strAt w' b off ss := fun i hi => by
  have h0 := h i hi
  exact (hb.cell (p := ⟨b, off + i, none⟩) (World.block_lt_of_cell? _ _ h0)).trans h0
theorem strOf.below {w w' : World} {a : Option Addr} {ss : List ByteArray} (h : strOf w a ss) (hb : Below w.heap.size w w') : strOf w' a ss := by
  intro hl
  obtain ⟨b, off, e, h⟩ := h hl
  exact ⟨b, off, e, h.below hb⟩
theorem strOf.below' {w w1 w' : World} {a : Option Addr} {ss : List ByteArray} (h : strOf w a ss) (hb : Below w.heap.size w1 w') (h1 : Below w.heap.size w w1) : strOf w' a ss := h.below (h1.trans hb)

def szStrs : List ByteArray → Int → Int
  | [], l => l
  | s :: r, l => if l - s.size < 0 then -1 else szStrs r (l - s.size)
def szSS (ss : List ByteArray) (left : Int) : Int := if left - ss.length < 0 then -1 else szStrs ss (left - ss.length)
theorem szStrs_drop (ss : List ByteArray) (k : Nat) (h : k < ss.length) (l : Int) : szStrs (ss.drop k) l = if l - (ss[k]'h).size < 0 then -1 else szStrs (ss.drop (k + 1)) (l - (ss[k]'h).size) := by
  rw [List.drop_eq_getElem_cons h]; rfl
def okStrs (ss : List ByteArray) : Prop := ∀ s ∈ ss, s.size ≤ maxLen

theorem szStringS_any (a : Option Addr) (cap : Nat) (ss : List ByteArray) (left : Int) (w : World) (hl : ss.length ≤ maxLen) (hz : okStrs ss) (h0 : 0 ≤ left) (h1 : left ≤ 1048576) (hrow : strOf w a ss) :
    Calls Tryz.prog 48 #[.slice a ss.length cap, .int .i64 left] w fun e w' => e = .returned (.int .i64 (szSS ss left)) ∧ Below w.heap.size w w' := by
  unfold maxLen at hl
  by_cases c1 : left - (ss.length : Int) < 0
  · have E : Hid (szSS ss left = -1) := by unfold Hid szSS; rw [if_pos c1]
    clear hrow hz
    go_enter Tryz.func48, Tryz.ntmps48
    go_wp2
    go_ret
    exact ⟨ret_int E.out.symm, Below.refl _ _⟩
  have E : Hid (szSS ss left = szStrs ss (left - ss.length)) := by unfold Hid szSS; rw [if_neg c1]
  have Hr := hide hrow
  have Hz := hide hz
  clear hrow hz
  go_enter Tryz.func48, Tryz.ntmps48
  go_wp2
  go_loopw [1, 5] (fun l i wr => ∃ (k : Nat) (x : Int), k ≤ ss.length ∧ i = .int .i64 k ∧ l = .int .i64 x ∧ 0 ≤ x ∧ x ≤ 1048576 ∧ Hid (szStrs (ss.drop k) x = szStrs ss (left - ss.length)) ∧ Below w.heap.size w wr) (fun _ i _ => ss.length - (intOf i).toNat)
  case atStart => exact ⟨0, _, Nat.zero_le _, rfl, rfl, by omega, by omega, rfl, Below.refl _ _⟩
  case round =>
    obtain ⟨k, x, hk, rfl, rfl, hx0, hx1, hsz, hbw⟩ := hrel
    by_cases hlt : k < ss.length
    · obtain ⟨b, off, rfl, hat⟩ := Hr.out (by omega)
      have hbb : b < w.heap.size := World.block_lt_of_cell? _ _ (hat k hlt)
      have c0 := (hbw.cell (p := ⟨b, off + k, none⟩) hbb).trans (hat k hlt)
      have hz := (Hz.out _ (List.getElem_mem hlt))
      have hn := szStrs_drop ss k hlt x
      generalize ss[k]'hlt = S at *
      unfold maxLen at hz
      by_cases hneg : x - (S.size : Int) < 0
      · have hr : Hid (szStrs ss (left - ss.length) = -1) := by rw [← hsz.out, hn, if_pos hneg]; rfl
        clear hn hat hsz
        go_wp2
        go_ret
        exact ⟨ret_int (by rw [E.out, hr.out]), hbw⟩
      · have hr : Hid (szStrs (ss.drop (k + 1)) (x - S.size) = szStrs ss (left - ss.length)) := by rw [← hsz.out, hn, if_neg hneg]; rfl
        clear hn hat hsz
        go_wp2
        go_roundw
        case rel => exact ⟨k + 1, _, by omega, by go_num, rfl, by omega, by omega, hr, hbw⟩
        case measure => simp [intOf]; omega
    · have e : k = ss.length := by omega
      subst e
      have hr : Hid (szStrs ss (left - ss.length) = x) := by rw [← hsz.out, List.drop_length]; rfl
      clear hsz
      go_wp2
      go_ret
      exact ⟨ret_int (by rw [E.out, hr.out]), hbw⟩

theorem Tryz.infoStr : (Tryz.prog.info? 9).map (fun i => (i.zero, i.size, i.bytes)) = some (some (.string ByteArray.empty), 1, 16) := by kernel_rfl
def strVs (ss : List ByteArray) : List Value := ss.map fun s => .string s
theorem strVs_length (ss : List ByteArray) : (strVs ss).length = ss.length := by simp [strVs]
theorem strVs_get {ss : List ByteArray} {k : Nat} (h : k < ss.length) : (strVs ss)[k]? = some (.string ss[k]) := by
  unfold strVs; rw [List.getElem?_map, List.getElem?_eq_getElem h]; rfl
theorem strOf_owns {w : World} {base g n cap : Nat} {e : TypeId} {ss : List ByteArray} (h : w.ownsRow base e 1 (.slice (some ⟨g, 0, none⟩) n cap) n (strVs ss)) : strOf w (some ⟨g, 0, none⟩) ss := by
  intro _
  refine ⟨g, 0, rfl, fun i hi => ?_⟩
  have hn : n * 1 = ss.length := by rw [← strVs_length, h.1]
  rw [← strVs_get hi, Nat.zero_add]
  exact h.cellAt _ (by omega)

theorem toStringS_any (a : Option Addr) (cap : Nat) (ss : List ByteArray) (w : World) (hl : ss.length ≤ 1048576) (hrow : strOf w a ss) :
    Calls Tryz.prog 51 #[.slice a ss.length cap] w fun e w' => e = .returned (.slice (some ⟨w.heap.size, 0, none⟩) ss.length ss.length) ∧
      w'.ownsRow w.heap.size 9 1 (.slice (some ⟨w.heap.size, 0, none⟩) ss.length ss.length) ss.length (strVs ss) ∧ Below w.heap.size w w' := by
  obtain ⟨i0, hi, hz0, hz1, hz2⟩ := info_parts Tryz.infoStr
  have Hr := hide hrow
  clear hrow
  go_enter Tryz.func51, Tryz.ntmps51
  go_wp2_with (at_make; refine wpList_make_full _ rfl _ _ 23 rfl w.heap.size 9 i0 _ 1 Tryz.underlying23 hi hz0 hz1 _ _ _ _ ss.length rfl rfl rfl rfl (by rw [hz2]; omega) (by unfold maxLen; omega) (Nat.le_refl _) ?_; intro w1 hown hgrow)
  go_loopw [4] (fun i wr => ∃ (k : Nat) (xs : List Value), k ≤ ss.length ∧ i = .int .i64 k ∧ wr.ownsRow w.heap.size 9 1 (.slice (some ⟨w.heap.size, 0, none⟩) ss.length ss.length) ss.length xs ∧
      Hid (∀ j, j < k → xs[j]? = (strVs ss)[j]?) ∧ Below w.heap.size w wr) (fun i _ => ss.length - (intOf i).toNat)
  case atStart => exact ⟨0, _, Nat.zero_le _, rfl, hown, fun j hj => by omega, Below.grown (Below.refl _ _) hgrow (Nat.le_refl _) (fun k hk => by cases hk)⟩
  case round =>
    obtain ⟨k, xs, hk, rfl, how, Hx, hbw⟩ := hrel
    clear hown hgrow
    by_cases hlt : k < ss.length
    · obtain ⟨b, off, rfl, hat⟩ := Hr.out (by omega)
      have hbb : b < w.heap.size := World.block_lt_of_cell? _ _ (hat k hlt)
      have c0 := (hbw.cell (p := ⟨b, off + k, none⟩) hbb).trans (hat k hlt)
      have Hf : Hid ((strVs ss)[k]? = some (.string ss[k])) := strVs_get hlt
      have hxl : xs.length = ss.length * 1 := how.1
      have Hxl : Hid (xs.length = ss.length * 1) := hxl
      obtain ⟨o0, g0⟩ : ∃ o, xs[k]? = some o := ⟨_, List.getElem?_eq_getElem (by omega)⟩
      have q0 : wr.cell? ⟨w.heap.size, k, none⟩ = some o0 := (how.cellAt _ (by omega)).trans g0
      have f0 := how.frozenAt k
      have How := hide how
      clear how g0 hat hxl
      generalize ss[k]'hlt = S at *
      go_wp2
      have s1 := How.out.stored k (.string S)
      go_roundw
      case rel => exact ⟨k + 1, _, by omega, by go_num, s1.1, (by
          intro j hj
          have hl := Hxl.out
          by_cases e0 : j = k
          · subst e0; rw [List.getElem?_set_self (by omega)]; exact Hf.out.symm
          · rw [List.getElem?_set_ne (by omega)]; exact Hx.out j (by omega)), hbw.setCell (Nat.le_refl _) _⟩
      case measure => simp [intOf]; omega
    · have e : k = ss.length := by omega
      subst e
      have hx : xs = strVs ss := by
        apply List.ext_getElem?
        intro j
        by_cases hj : j < ss.length
        · exact Hx.out j hj
        · rw [List.getElem?_eq_none (by have := how.1; omega), List.getElem?_eq_none (by rw [strVs_length]; omega)]
      subst hx
      go_wp2
      go_ret
      exact ⟨rfl, how, hbw⟩

theorem eqStringS_any (a a' : Option Addr) (cap cap' : Nat) (ls ls' : List ByteArray) (w : World) (hl : ls.length ≤ maxLen) (hl' : ls'.length ≤ maxLen) (hrow : strOf w a ls) (hrow' : strOf w a' ls') :
    Calls Tryz.prog 54 #[.slice a ls.length cap, .slice a' ls'.length cap'] w fun e w' => e = .returned (.bool (decide (ls = ls'))) ∧ Below w.heap.size w w' := by
  unfold maxLen at hl hl'
  have Hr := hide hrow
  have Hr' := hide hrow'
  clear hrow hrow'
  by_cases hll : ls.length = ls'.length
  · have hb0 : ((ls.length : Int) != (ls'.length : Int)) = false := by rw [bne_eq_false_iff_eq]; omega
    have Hl := hide hll
    have hle : ls.length ≤ ls'.length := by omega
    have hge : ls'.length ≤ ls.length := by omega
    clear hll
    go_enter Tryz.func54, Tryz.ntmps54
    go_wp2
    go_loopw [5] (fun i wr => ∃ (k : Nat), k ≤ ls.length ∧ i = .int .i64 k ∧ Hid (∀ j, j < k → ls[j]? = ls'[j]?) ∧ Below w.heap.size w wr) (fun i _ => ls.length - (intOf i).toNat)
    case atStart => exact ⟨0, Nat.zero_le _, rfl, fun j hj => by omega, Below.refl _ _⟩
    case round =>
      obtain ⟨k, hk, rfl, Hx, hbw⟩ := hrel
      by_cases hlt : k < ls.length
      · have hlt' : k < ls'.length := by omega
        obtain ⟨b, off, rfl, hat⟩ := Hr.out (by omega)
        obtain ⟨b', off', rfl, hat'⟩ := Hr'.out (by omega)
        have hbb : b < w.heap.size := World.block_lt_of_cell? _ _ (hat k hlt)
        have hbb' : b' < w.heap.size := World.block_lt_of_cell? _ _ (hat' k hlt')
        have c0 := (hbw.cell (p := ⟨b, off + k, none⟩) hbb).trans (hat k hlt)
        have c0' := (hbw.cell (p := ⟨b', off' + k, none⟩) hbb').trans (hat' k hlt')
        have Hg : Hid (ls[k]? = some ls[k] ∧ ls'[k]? = some ls'[k]) := ⟨List.getElem?_eq_getElem _, List.getElem?_eq_getElem _⟩
        have he := beq_str ls[k] ls'[k]
        generalize ls[k]'hlt = K at *
        generalize ls'[k]'hlt' = K' at *
        clear hat hat'
        by_cases hq : K = K'
        · rw [decide_eq_true hq] at he
          have Hn : Hid (∀ j, j < k + 1 → ls[j]? = ls'[j]?) := by
            intro j hj
            by_cases e : j = k
            · rw [e, Hg.out.1, Hg.out.2, hq]
            · exact Hx.out j (by omega)
          clear hq Hg Hx
          go_wp2
          go_quiet (fail)
          go_wp2
          go_roundw
          case rel => exact ⟨k + 1, by omega, by go_num, Hn, below_drewN hbw _⟩
          case measure => simp [intOf]; omega
        · rw [decide_eq_false hq] at he
          have Hn : Hid (decide (ls = ls') = false) := by
            show _ = _
            rw [decide_eq_false_iff_not]
            rintro rfl
            exact hq (by rw [Hg.out.1] at Hg; exact Option.some.inj Hg.out.2)
          clear hq Hg Hx
          go_wp2
          go_quiet (fail)
          go_wp2
          go_ret
          exact ⟨ret_bool Hn.out.symm, below_drewN hbw _⟩
      · have Hn : Hid (decide (ls = ls') = true) := by
          show _ = _
          rw [decide_eq_true_eq]
          apply List.ext_getElem?
          intro j
          by_cases hj : j < k
          · exact Hx.out j hj
          · rw [List.getElem?_eq_none (by omega), List.getElem?_eq_none (by omega)]
        have e : k = ls.length := by omega
        subst e
        clear Hx
        go_wp2
        go_ret
        exact ⟨ret_bool Hn.out.symm, hbw⟩
  · have hb0 : ((ls.length : Int) != (ls'.length : Int)) = true := by rw [bne_iff_ne]; omega
    have Hn : Hid (decide (ls = ls') = false) := by
      show _ = _
      rw [decide_eq_false_iff_not]
      rintro rfl
      exact hll rfl
    clear hll
    go_enter Tryz.func54, Tryz.ntmps54
    go_wp2
    go_ret
    exact ⟨ret_bool Hn.out.symm, Below.refl _ _⟩
end Go.Proofs.YtdnodaoeflbfkaaGreat
/- Values: trees of a head and kids, by their depth; plain facts of them, no walk. -/
namespace Go.Proofs.YtdnodaoeflbfkaaGreat
open Go.RowKit
set_option linter.unusedVariables false

structure VH where
  kd : Int
  tx : ByteArray
  nm : Int
  ks : List ByteArray
/-- a value's tree, at most n deep -/
def VT : Nat → Type
  | 0 => Empty
  | n + 1 => VH × List (VT n)
def VT.hd {n : Nat} (v : VT (n + 1)) : VH := Prod.fst v
def VT.kids {n : Nat} (v : VT (n + 1)) : List (VT n) := Prod.snd v
def VT.mk {n : Nat} (h : VH) (l : List (VT n)) : VT (n + 1) := (Prod.mk h l : VH × List (VT n))
theorem VT.parts {n : Nat} (v : VT (n + 1)) : ∃ kd tx nm ks kids, v = VT.mk ⟨kd, tx, nm, ks⟩ kids := by
  obtain ⟨⟨a, b, c, d⟩, l⟩ := v
  exact ⟨a, b, c, d, l, rfl⟩
theorem VT.hd_mk {n : Nat} (h : VH) (l : List (VT n)) : (VT.mk h l).hd = h := rfl
theorem VT.kids_mk {n : Nat} (h : VH) (l : List (VT n)) : (VT.mk h l).kids = l := rfl

/-- rows of things of five cells, and of strings, in blocks from B on -/
def row5 {α : Type} (B : Nat) (P : Nat → Nat → α → Prop) (a : Option Addr) (vs : List α) : Prop := 0 < vs.length → ∃ b off, a = some ⟨b, off, none⟩ ∧ B ≤ b ∧ ∀ i (h : i < vs.length), P b (off + i * 5) (vs[i]'h)
def strB (w : World) (B : Nat) (a : Option Addr) (ss : List ByteArray) : Prop := 0 < ss.length → ∃ b off, a = some ⟨b, off, none⟩ ∧ B ≤ b ∧ strAt w b off ss
theorem strB.of {w : World} {B : Nat} {a : Option Addr} {ss : List ByteArray} (h : strB w B a ss) : strOf w a ss := fun hl => by
  obtain ⟨b, off, e, _, hr⟩ := h hl
  exact ⟨b, off, e, hr⟩
theorem strB.zero {w : World} {a : Option Addr} {ss : List ByteArray} (h : strOf w a ss) : strB w 0 a ss := fun hl => by
  obtain ⟨b, off, e, hr⟩ := h hl
  exact ⟨b, off, e, Nat.zero_le _, hr⟩
/-- what a slice is told by beside its cells -/
def fits (a : Option Addr) (n cap : Nat) : Prop := n ≤ cap ∧ (a = none → cap = 0)
def vatAt (w : World) (B : Nat) : (n : Nat) → Nat → Nat → VT n → Prop
  | 0, _, _, _ => False
  | n + 1, b, o, v => w.cell? ⟨b, o, none⟩ = some (.int .i64 v.hd.kd) ∧ w.cell? ⟨b, o + 1, none⟩ = some (.string v.hd.tx) ∧ w.cell? ⟨b, o + 2, none⟩ = some (.int .i64 v.hd.nm) ∧
    (∃ a cap, w.cell? ⟨b, o + 3, none⟩ = some (.slice a v.hd.ks.length cap) ∧ strB w B a v.hd.ks ∧ fits a v.hd.ks.length cap) ∧
    ∃ a cap, w.cell? ⟨b, o + 4, none⟩ = some (.slice a v.kids.length cap) ∧ row5 B (vatAt w B n) a v.kids ∧ fits a v.kids.length cap
def valsOf (w : World) (B n : Nat) (a : Option Addr) (vs : List (VT n)) : Prop := row5 B (vatAt w B n) a vs
/-- a value in hand -/
def valArg (w : World) (B : Nat) : (n : Nat) → Value → VT n → Prop
  | 0, _, _ => False
  | n + 1, x, v => ∃ a cap a' cap', x = .agg #[.int .i64 v.hd.kd, .string v.hd.tx, .int .i64 v.hd.nm, .slice a v.hd.ks.length cap, .slice a' v.kids.length cap'] ∧
    (strB w B a v.hd.ks ∧ fits a v.hd.ks.length cap) ∧ valsOf w B n a' v.kids ∧ fits a' v.kids.length cap'
/-- what two worlds have in common -/
def Keeps (B : Nat) (w w' : World) : Prop := ∀ (b o : Nat) v, B ≤ b → w.cell? ⟨b, o, none⟩ = some v → w'.cell? ⟨b, o, none⟩ = some v
theorem Keeps.below {w w' : World} {B : Nat} (hb : Below w.heap.size w w') : Keeps B w w' := fun b o v _ h => (hb.cell (p := ⟨b, o, none⟩) (World.block_lt_of_cell? _ _ h)).trans h
theorem Keeps.set {w : World} {B : Nat} {p : Addr} (u : Value) (hp : p.block < B) : Keeps B w (w.setCell p u) := fun b o v hB h => by
  rw [← h]; apply World.cell?_setCell_other; rintro rfl; simp only at hp; omega
theorem Keeps.refl (B : Nat) (w : World) : Keeps B w w := fun _ _ _ _ h => h
theorem Keeps.trans {w w' w2 : World} {B : Nat} (h : Keeps B w w') (k : Keeps B w' w2) : Keeps B w w2 := fun b o v hB e => k b o v hB (h b o v hB e)
theorem Keeps.setR {w w' : World} {B : Nat} {p : Addr} {u : Value} (h : Keeps B w w') (hp : p.block < B) : Keeps B w (w'.setCell p u) := h.trans (Keeps.set u hp)
theorem strB.keeps {w w' : World} {B : Nat} {a : Option Addr} {ss : List ByteArray} (h : strB w B a ss) (hk : Keeps B w w') : strB w' B a ss := fun hl => by
  obtain ⟨b, off, e, hB, hr⟩ := h hl
  exact ⟨b, off, e, hB, fun i hi => hk _ _ _ hB (hr i hi)⟩
theorem vatAt.keeps {w w' : World} {B : Nat} (hk : Keeps B w w') : ∀ (n b o : Nat) (v : VT n), B ≤ b → vatAt w B n b o v → vatAt w' B n b o v
  | 0, _, _, _, _, h => h.elim
  | n + 1, b, o, v, hB, ⟨h0, h1, h2, ⟨a, cap, h3, h4, h5⟩, a', cap', h6, h7, h8⟩ =>
    ⟨hk _ _ _ hB h0, hk _ _ _ hB h1, hk _ _ _ hB h2, ⟨a, cap, hk _ _ _ hB h3, h4.keeps hk, h5⟩,
      a', cap', hk _ _ _ hB h6, fun hl => by
        obtain ⟨b', off, e, hB', hr⟩ := h7 hl
        exact ⟨b', off, e, hB', fun i hi => vatAt.keeps hk n _ _ _ hB' (hr i hi)⟩, h8⟩
theorem valsOf.keeps {w w' : World} {B n : Nat} {a : Option Addr} {vs : List (VT n)} (h : valsOf w B n a vs) (hk : Keeps B w w') : valsOf w' B n a vs := by
  intro hl
  obtain ⟨b, off, e, hB, hr⟩ := h hl
  exact ⟨b, off, e, hB, fun i hi => vatAt.keeps hk n _ _ _ hB (hr i hi)⟩
theorem valArg.keeps {w w' : World} {B : Nat} (hk : Keeps B w w') : ∀ {n : Nat} {x : Value} {v : VT n}, valArg w B n x v → valArg w' B n x v
  | 0, _, _, h => h.elim
  | n + 1, x, v, ⟨a, cap, a', cap', e, ⟨h1, h2⟩, h3, h4⟩ => ⟨a, cap, a', cap', e, ⟨h1.keeps hk, h2⟩, h3.keeps hk, h4⟩
theorem vatAt.below {w w' : World} (hb : Below w.heap.size w w') {n b o : Nat} {v : VT n} (h : vatAt w 0 n b o v) : vatAt w' 0 n b o v := vatAt.keeps (Keeps.below hb) n b o v (Nat.zero_le _) h
theorem valsOf.below {w w' : World} {B n : Nat} {a : Option Addr} {vs : List (VT n)} (h : valsOf w B n a vs) (hb : Below w.heap.size w w') : valsOf w' B n a vs := h.keeps (Keeps.below hb)
theorem valArg.below {w w' : World} {B n : Nat} {x : Value} {v : VT n} (h : valArg w B n x v) (hb : Below w.heap.size w w') : valArg w' B n x v := h.keeps (Keeps.below hb)
theorem strB.mono {w : World} {B B' : Nat} {a : Option Addr} {ss : List ByteArray} (h : strB w B a ss) (hB : B' ≤ B) : strB w B' a ss := fun hl => by
  obtain ⟨b, off, e, hb, hr⟩ := h hl
  exact ⟨b, off, e, by omega, hr⟩
theorem vatAt.mono {w : World} {B B' : Nat} (hB : B' ≤ B) : ∀ (n b o : Nat) (v : VT n), vatAt w B n b o v → vatAt w B' n b o v
  | 0, _, _, _, h => h.elim
  | n + 1, b, o, v, ⟨h0, h1, h2, ⟨a, cap, h3, h4, h5⟩, a', cap', h6, h7, h8⟩ =>
    ⟨h0, h1, h2, ⟨a, cap, h3, h4.mono hB, h5⟩, a', cap', h6, fun hl => by
        obtain ⟨b', off, e, hB', hr⟩ := h7 hl
        exact ⟨b', off, e, by omega, fun i hi => vatAt.mono hB n _ _ _ (hr i hi)⟩, h8⟩
theorem valsOf.mono {w : World} {B B' n : Nat} {a : Option Addr} {vs : List (VT n)} (h : valsOf w B n a vs) (hB : B' ≤ B) : valsOf w B' n a vs := by
  intro hl
  obtain ⟨b, off, e, hB', hr⟩ := h hl
  exact ⟨b, off, e, by omega, fun i hi => vatAt.mono hB n _ _ _ (hr i hi)⟩
theorem valArg.mono {w : World} {B B' : Nat} (hB : B' ≤ B) : ∀ {n : Nat} {x : Value} {v : VT n}, valArg w B n x v → valArg w B' n x v
  | 0, _, _, h => h.elim
  | n + 1, x, v, ⟨a, cap, a', cap', e, ⟨h1, h2⟩, h3, h4⟩ => ⟨a, cap, a', cap', e, ⟨h1.mono hB, h2⟩, h3.mono hB, h4⟩

/-- sizes that a machine has -/
def okVT : (n : Nat) → VT n → Prop
  | 0, _ => True
  | n + 1, v => v.hd.tx.size ≤ maxLen ∧ v.hd.ks.length ≤ maxLen ∧ okStrs v.hd.ks ∧ v.kids.length ≤ maxLen ∧ ∀ x ∈ v.kids, okVT n x
def okVTs (n : Nat) (vs : List (VT n)) : Prop := ∀ x ∈ vs, okVT n x
/-- sizes that a law's measure lets -/
def smVT : (n : Nat) → VT n → Prop
  | 0, _ => True
  | n + 1, v => v.hd.tx.size ≤ 1048576 ∧ v.hd.ks.length ≤ 1048576 ∧ (∀ s ∈ v.hd.ks, s.size ≤ 1048576) ∧ v.kids.length ≤ 1048576 ∧ ∀ x ∈ v.kids, smVT n x
def smVTs (n : Nat) (vs : List (VT n)) : Prop := ∀ x ∈ vs, smVT n x
theorem smVT.ok : ∀ (n : Nat) (v : VT n), smVT n v → okVT n v
  | 0, _, _ => trivial
  | n + 1, v, ⟨h0, h1, h2, h3, h4⟩ => ⟨by unfold maxLen; omega, by unfold maxLen; omega, fun s hs => by have := h2 s hs; unfold maxLen; omega, by unfold maxLen; omega, fun x hx => smVT.ok n x (h4 x hx)⟩

/-- what a law measures -/
def szL {α : Type} (f : α → Int → Int) : List α → Int → Int
  | [], l => l
  | t :: r, l => if f t l < 0 then -1 else szL f r (f t l)
def szRow {α : Type} (f : α → Int → Int) (ts : List α) (left : Int) : Int := if left - ts.length < 0 then -1 else szL f ts (left - ts.length)
def szV : (n : Nat) → VT n → Int → Int
  | 0, _, l => l
  | n + 1, v, l => if l - v.hd.tx.size < 0 then -1 else if szSS v.hd.ks (l - v.hd.tx.size) < 0 then -1 else if szRow (szV n) v.kids (szSS v.hd.ks (l - v.hd.tx.size)) < 0 then -1 else szRow (szV n) v.kids (szSS v.hd.ks (l - v.hd.tx.size))
theorem szL_le {α : Type} {f : α → Int → Int} (hf : ∀ x l, f x l ≤ l ∨ f x l = -1) : ∀ (ts : List α) (l : Int), szL f ts l ≤ l ∨ szL f ts l = -1
  | [], l => .inl (Int.le_refl _)
  | t :: r, l => by
    unfold szL
    split
    · exact .inr rfl
    · rcases szL_le hf r (f t l) with h | h
      · rcases hf t l with h' | h'
        · left; omega
        · left; omega
      · exact .inr h
theorem szRow_le {α : Type} {f : α → Int → Int} (hf : ∀ x l, f x l ≤ l ∨ f x l = -1) (ts : List α) (l : Int) : szRow f ts l ≤ l ∨ szRow f ts l = -1 := by
  unfold szRow
  split
  · exact .inr rfl
  · rcases szL_le hf ts (l - ts.length) with h | h
    · left; omega
    · exact .inr h
theorem vszStrs_le : ∀ (ss : List ByteArray) (l : Int), szStrs ss l ≤ l ∨ szStrs ss l = -1
  | [], l => .inl (Int.le_refl _)
  | s :: r, l => by
    unfold szStrs
    split
    · exact .inr rfl
    · rcases vszStrs_le r (l - s.size) with h | h
      · left; omega
      · exact .inr h
theorem vszSS_le (ss : List ByteArray) (l : Int) : szSS ss l ≤ l ∨ szSS ss l = -1 := by
  unfold szSS
  split
  · exact .inr rfl
  · rcases vszStrs_le ss (l - ss.length) with h | h
    · left; omega
    · exact .inr h
theorem szV_le : ∀ (n : Nat) (v : VT n) (l : Int), szV n v l ≤ l ∨ szV n v l = -1
  | 0, v, _ => nomatch v
  | n + 1, v, l => by
    unfold szV
    have h1 := vszSS_le v.hd.ks (l - v.hd.tx.size)
    have h2 := szRow_le (szV_le n) v.kids (szSS v.hd.ks (l - v.hd.tx.size))
    split
    · exact .inr rfl
    · split
      · exact .inr rfl
      · split
        · exact .inr rfl
        · left; omega
theorem szL_drop {α : Type} (f : α → Int → Int) (ts : List α) (k : Nat) (h : k < ts.length) (l : Int) : szL f (ts.drop k) l = if f (ts[k]'h) l < 0 then -1 else szL f (ts.drop (k + 1)) (f (ts[k]'h) l) := by
  rw [List.drop_eq_getElem_cons h]; rfl
theorem vszStrs_ok : ∀ (ss : List ByteArray) (l : Int), 0 ≤ l → ¬ szStrs ss l < 0 → ∀ s ∈ ss, (s.size : Int) ≤ l
  | [], l, _, _, s, hs => by simp at hs
  | x :: r, l, h0, h, s, hs => by
    unfold szStrs at h
    split at h
    · omega
    · rcases List.mem_cons.1 hs with rfl | hs
      · omega
      · have := vszStrs_ok r (l - x.size) (by omega) h s hs; omega
theorem vszSS_ok {ss : List ByteArray} {l : Int} (h : ¬ szSS ss l < 0) : (ss.length : Int) ≤ l ∧ ∀ s ∈ ss, (s.size : Int) ≤ l := by
  unfold szSS at h
  split at h
  · omega
  · exact ⟨by omega, fun s hs => by have := vszStrs_ok ss (l - ss.length) (by omega) h s hs; omega⟩
theorem szL_ok {α : Type} {f : α → Int → Int} {Q : α → Prop} (hle : ∀ x l, f x l ≤ l ∨ f x l = -1) (hf : ∀ x l, l ≤ 1048576 → ¬ f x l < 0 → Q x) : ∀ (ts : List α) (l : Int), l ≤ 1048576 → ¬ szL f ts l < 0 → ∀ x ∈ ts, Q x
  | [], l, _, _, x, hx => by simp at hx
  | t :: r, l, hl, h, x, hx => by
    unfold szL at h
    split at h
    · omega
    · rename_i ht
      rcases List.mem_cons.1 hx with rfl | hx
      · exact hf _ _ hl ht
      · have := hle t l
        exact szL_ok hle hf r _ (by omega) h x hx
theorem szRow_ok {α : Type} {f : α → Int → Int} {Q : α → Prop} (hle : ∀ x l, f x l ≤ l ∨ f x l = -1) (hf : ∀ x l, l ≤ 1048576 → ¬ f x l < 0 → Q x) {ts : List α} {l : Int} (hl : l ≤ 1048576) (h : ¬ szRow f ts l < 0) : ts.length ≤ 1048576 ∧ ∀ x ∈ ts, Q x := by
  unfold szRow at h
  split at h
  · omega
  · exact ⟨by omega, szL_ok hle hf ts _ (by omega) h⟩
theorem szV_ok : ∀ (n : Nat) (v : VT n) (l : Int), l ≤ 1048576 → ¬ szV n v l < 0 → smVT n v
  | 0, v, _, _, _ => nomatch v
  | n + 1, v, l, hl, h => by
    have hle := vszSS_le v.hd.ks (l - v.hd.tx.size)
    unfold szV at h
    split at h
    · omega
    · split at h
      · omega
      · rename_i h1
        have h2 := vszSS_ok h1
        split at h
        · omega
        · have h3 := szRow_ok (szV_le n) (szV_ok n) (by omega) h
          exact ⟨by omega, by omega, fun s hs => by have := h2.2 s hs; omega, h3.1, h3.2⟩
/-- alike, all through -/
def eqL {α : Type} (f : α → α → Bool) : List α → List α → Bool
  | [], [] => true
  | x :: r, y :: s => f x y && eqL f r s
  | _, _ => false
def eqVT : (n : Nat) → VT n → VT n → Bool
  | 0, _, _ => true
  | n + 1, u, v => decide (u.hd.kd = v.hd.kd) && decide (u.hd.tx = v.hd.tx) && decide (u.hd.nm = v.hd.nm) && decide (u.hd.ks = v.hd.ks) && eqL (eqVT n) u.kids v.kids
theorem eqL_refl {α : Type} {f : α → α → Bool} (h : ∀ x, f x x = true) : ∀ l : List α, eqL f l l = true
  | [] => rfl
  | x :: r => by unfold eqL; rw [h x, eqL_refl h r]; rfl
theorem eqVT_refl : ∀ (n : Nat) (v : VT n), eqVT n v v = true
  | 0, v => nomatch v
  | n + 1, v => by unfold eqVT; simp [eqL_refl (eqVT_refl n)]
theorem eqL_len {α : Type} {f : α → α → Bool} : ∀ {l m : List α}, l.length ≠ m.length → eqL f l m = false
  | [], [], h => (h rfl).elim
  | [], _ :: _, _ => rfl
  | _ :: _, [], _ => rfl
  | x :: r, y :: s, h => by unfold eqL; rw [eqL_len (l := r) (m := s) (by simpa using h), Bool.and_false]
theorem eqL_drop {α : Type} {f : α → α → Bool} {l m : List α} {k : Nat} (h : k < l.length) (h' : k < m.length) : eqL f (l.drop k) (m.drop k) = (f (l[k]'h) (m[k]'h') && eqL f (l.drop (k + 1)) (m.drop (k + 1))) := by
  rw [List.drop_eq_getElem_cons h, List.drop_eq_getElem_cons h']; rfl
end Go.Proofs.YtdnodaoeflbfkaaGreat
/- Names in order: what is asked of a term's values and of a value's keys; impl.ascendingNames. -/
namespace Go.Proofs.YtdnodaoeflbfkaaGreat
open Go.RowKit Go.BigFrame
set_option linter.unusedVariables false

def ssAt (ss : List ByteArray) (i : Nat) : ByteArray := ss[i]?.getD ByteArray.empty
def okV (ss : List ByteArray) (i : Nat) : Prop := nameB (ssAt ss i) = true ∧ (0 < i → ltS (ssAt ss (i - 1)) (ssAt ss i) = true)
def valsB (ss : List ByteArray) : Bool := decide (∀ i, i < ss.length → nameB (ssAt ss i) = true ∧ (0 < i → ltS (ssAt ss (i - 1)) (ssAt ss i) = true))
theorem valsB_bad {ss : List ByteArray} {k : Nat} (hk : k < ss.length) (h : ¬ okV ss k) : valsB ss = false := by
  unfold valsB; rw [decide_eq_false_iff_not]; exact fun g => h (g k hk)
theorem valsB_end {ss : List ByteArray} (h : ∀ i, i < ss.length → okV ss i) : valsB ss = true := by
  unfold valsB; rw [decide_eq_true_eq]; exact h
theorem okV_succ {ss : List ByteArray} {k : Nat} (h : ∀ i, i < k → okV ss i) (hk : okV ss k) : ∀ i, i < k + 1 → okV ss i := by
  intro i hi
  by_cases e : i = k
  · rw [e]; exact hk
  · exact h i (by omega)
theorem ssAt_get {ss : List ByteArray} {k : Nat} (h : k < ss.length) : ssAt ss k = ss[k] := by unfold ssAt; rw [List.getElem?_eq_getElem h]; rfl
theorem strAt_cells {w : World} {b off : Nat} {ss : List ByteArray} (h : strAt w b off ss) : ∀ i, i < ss.length → w.cell? ⟨b, off + i, none⟩ = some (.string (ssAt ss i)) := fun i hi => by rw [ssAt_get hi]; exact h i hi
theorem okV_cases (ss : List ByteArray) (k : Nat) :
    (nameB (ssAt ss k) = false ∧ Hid (¬ okV ss k)) ∨ (nameB (ssAt ss k) = true ∧ Hid (k = 0) ∧ Hid (okV ss k)) ∨
    (nameB (ssAt ss k) = true ∧ 0 < k ∧ Op.bytesLess (ssAt ss (k - 1)).toList (ssAt ss k).toList = true ∧ Hid (okV ss k)) ∨
    (nameB (ssAt ss k) = true ∧ 0 < k ∧ Op.bytesLess (ssAt ss (k - 1)).toList (ssAt ss k).toList = false ∧ Hid (¬ okV ss k)) := by
  have hd : okV ss k ↔ nameB (ssAt ss k) = true ∧ (0 < k → Op.bytesLess (ssAt ss (k - 1)).toList (ssAt ss k).toList = true) := Iff.rfl
  unfold Hid
  rw [hd]
  rcases Bool.eq_false_or_eq_true (nameB (ssAt ss k)) with h1 | h1
  · by_cases h3 : 0 < k
    · rcases Bool.eq_false_or_eq_true (Op.bytesLess (ssAt ss (k - 1)).toList (ssAt ss k).toList) with h4 | h4
      · exact .inr (.inr (.inl ⟨h1, h3, h4, h1, fun _ => h4⟩))
      · refine .inr (.inr (.inr ⟨h1, h3, h4, fun g => ?_⟩))
        have := g.2 h3
        rw [h4] at this; cases this
    · exact .inr (.inl ⟨h1, by omega, h1, fun h => absurd h h3⟩)
  · refine .inl ⟨h1, fun g => ?_⟩
    rw [h1] at g; cases g.1

set_option maxHeartbeats 800000 in
theorem iasc_any (a : Option Addr) (cap : Nat) (ss : List ByteArray) (w : World) (hl : ss.length ≤ maxLen) (hrow : strOf w a ss) :
    Calls Tryz.prog 149 #[.slice a ss.length cap] w fun e w' => e = .returned (.bool (valsB ss)) ∧ Below w.heap.size w w' := by
  unfold maxLen at hl
  have Hr := hide hrow
  clear hrow
  go_enter Tryz.func149, Tryz.ntmps149
  go_wp2
  go_loopw [7] (fun i wr => ∃ (k : Nat), k ≤ ss.length ∧ i = .int .i64 k ∧ Hid (∀ j, j < k → okV ss j) ∧ Below w.heap.size w wr) (fun i _ => ss.length - (intOf i).toNat)
  case atStart => exact ⟨0, Nat.zero_le _, rfl, fun j hj => by omega, Below.refl _ _⟩
  case round =>
    obtain ⟨k, hk, rfl, Hx, hbw⟩ := hrel
    by_cases hlt : k < ss.length
    · obtain ⟨b, off, rfl, hat⟩ := Hr.out (by omega)
      have hc := strAt_cells hat
      have hbb : b < w.heap.size := World.block_lt_of_cell? _ _ (hat k hlt)
      have c0 := (hbw.cell (p := ⟨b, off + k, none⟩) hbb).trans (hc k hlt)
      have Hcp : Hid (0 < k → ∀ wx, Below w.heap.size w wx → wx.cell? ⟨b, off + (k - 1), none⟩ = some (.string (ssAt ss (k - 1)))) := fun h wx hx => (hx.cell (p := ⟨b, off + (k - 1), none⟩) hbb).trans (hc (k - 1) (by omega))
      have Hs : Hid (okV ss k → ∀ j, j < k + 1 → okV ss j) := fun h => okV_succ Hx.out h
      have Hb : Hid (¬ okV ss k → valsB ss = false) := fun h => valsB_bad hlt h
      have hcs := okV_cases ss k
      clear hat hc Hx
      generalize ssAt ss k = K at *
      generalize ssAt ss (k - 1) = P at *
      have hK := (iname_any K wr)
      rcases hcs with ⟨h1, hok⟩ | ⟨h1, h3, hok⟩ | ⟨h1, h3, h4, hok⟩ | ⟨h1, h3, h4, hok⟩
      · rw [h1] at hK
        have HK := hide hK
        have Hn := hide (Hb.out hok.out)
        clear hK h1 Hcp Hs Hb Hr
        go_wp2_with fail
        refine (HK.out).mono ?_
        rintro e w1 ⟨rfl, hb1⟩
        go_wp2
        go_ret
        exact ⟨ret_bool (Hn.out.symm), hbw.trans (hb1.mono hbw.size)⟩
      · rw [h1] at hK
        have HK := hide hK
        have hk0 : k = 0 := h3.out
        have h3' : decide ((0 : Int) < (k : Int)) = false := by rw [decide_eq_false_iff_not]; omega
        have h3'' : decide (0 < k) = false := by rw [decide_eq_false_iff_not]; omega
        have h3a : (k : Int) ≤ 0 := by omega
        have Hn := hide (Hs.out hok.out)
        clear hK h1 Hcp h3 hk0 Hs Hb Hr
        go_wp2_with fail
        refine (HK.out).mono ?_
        rintro e w1 ⟨rfl, hb1⟩
        go_wp2
        go_roundw
        case rel => exact ⟨k + 1, by omega, by go_num, Hn, hbw.trans (hb1.mono hbw.size)⟩
        case measure => simp [intOf]; omega
      · rw [h1] at hK
        have HK := hide hK
        have h3' : (0 : Int) < (k : Int) := by omega
        have Hn := hide (Hs.out hok.out)
        clear hK h1 Hs Hb Hr
        go_wp2_with fail
        refine (HK.out).mono ?_
        rintro e w1 ⟨rfl, hb1⟩
        have cp := Hcp.out h3 w1 (hbw.trans (hb1.mono hbw.size))
        go_wp2
        go_roundw
        case rel => exact ⟨k + 1, by omega, by go_num, Hn, hbw.trans (hb1.mono hbw.size)⟩
        case measure => simp [intOf]; omega
      · rw [h1] at hK
        have HK := hide hK
        have h3' : (0 : Int) < (k : Int) := by omega
        have Hn := hide (Hb.out hok.out)
        clear hK h1 Hs Hb Hr
        go_wp2_with fail
        refine (HK.out).mono ?_
        rintro e w1 ⟨rfl, hb1⟩
        have cp := Hcp.out h3 w1 (hbw.trans (hb1.mono hbw.size))
        go_wp2
        go_ret
        exact ⟨ret_bool (Hn.out.symm), hbw.trans (hb1.mono hbw.size)⟩
    · have e : k = ss.length := by omega
      subst e
      have Hn : Hid (valsB ss = true) := valsB_end Hx.out
      clear Hx Hr
      go_wp2
      go_ret
      exact ⟨ret_bool (Hn.out.symm), hbw⟩

end Go.Proofs.YtdnodaoeflbfkaaGreat
/- Right values and their sizes, as plain functions. -/
namespace Go.Proofs.YtdnodaoeflbfkaaGreat
open Go.RowKit
set_option linter.unusedVariables false

/-- what kids have in all, added to n; 0 where one has nothing -/
def addL {α : Type} (f : α → Nat) : List α → Nat → Nat
  | [], n => n
  | x :: r, n => if f x = 0 then 0 else addL f r (n + f x)
theorem addL_ge {α : Type} {f : α → Nat} : ∀ (l : List α) (n : Nat), addL f l n = 0 ∨ n + l.length ≤ addL f l n
  | [], n => .inr (Nat.le_refl _)
  | x :: r, n => by
    unfold addL
    split
    · exact .inl rfl
    · rename_i h
      rcases addL_ge (f := f) r (n + f x) with h' | h'
      · exact .inl h'
      · right; simp only [List.length_cons]; omega
theorem addL_drop {α : Type} (f : α → Nat) (ts : List α) (k : Nat) (h : k < ts.length) (n : Nat) : addL f (ts.drop k) n = if f (ts[k]'h) = 0 then 0 else addL f (ts.drop (k + 1)) (n + f (ts[k]'h)) := by
  rw [List.drop_eq_getElem_cons h]; rfl
def ascB (x : Int) : Bool := decide (32 ≤ x ∧ x ≤ 126)
def txTo (s : ByteArray) (k : Nat) : Prop := ∀ j, j < k → ascB (byt s j) = true
def txB (s : ByteArray) : Bool := decide ((∀ j, j < s.size → ascB (byt s j) = true) ∧ s.size ≤ 100)
theorem txTo_succ {s : ByteArray} {k : Nat} (h : txTo s k) (hk : ascB (byt s k) = true) : txTo s (k + 1) := by
  intro j hj
  by_cases e : j = k
  · rw [e]; exact hk
  · exact h j (by omega)
theorem txB_bad {s : ByteArray} {k : Nat} (hk : k < s.size) (h : ascB (byt s k) = false) : txB s = false := by
  unfold txB; rw [decide_eq_false_iff_not]; rintro ⟨h1, -⟩
  have := h1 k hk; rw [h] at this; cases this
theorem txB_end {s : ByteArray} (h : txTo s s.size) : txB s = decide (s.size ≤ 100) := by
  unfold txB; rw [decide_eq_decide]; exact ⟨fun g => g.2, fun g => ⟨h, g⟩⟩
theorem txB_long {s : ByteArray} (h : 100 < s.size) : txB s = false := by unfold txB; rw [decide_eq_false_iff_not]; omega
/-- all but the kids -/
def hdB (kd : Int) (tx : ByteArray) (nm : Int) (ks : List ByteArray) (m : Nat) : Bool :=
  if kd = 1 then txB tx && decide (nm = 0) && decide (ks.length = 0) && decide (m = 0)
  else if kd = 2 then decide (tx.size = 0) && decide (ks.length = 0) && decide (m = 0)
  else if kd = 3 then decide (tx.size = 0) && decide (nm = 0 ∨ nm = 1) && decide (ks.length = 0) && decide (m = 0)
  else if kd = 4 then decide (tx.size = 0) && decide (nm = 0) && decide (ks.length = 0)
  else if kd = 5 then decide (tx.size = 0) && decide (nm = 0) && decide (ks.length = m) && valsB ks
  else false
/-- a value's true size, if it is right and not deeper than d; else 0 -/
def tsz : (n : Nat) → Nat → VT n → Nat
  | 0, _, _ => 0
  | _ + 1, 0, _ => 0
  | n + 1, d + 1, v => if hdB v.hd.kd v.hd.tx v.hd.nm v.hd.ks v.kids.length then addL (tsz n d) v.kids 1 else 0
/-- the same, 0 where it is above m -/
def upTo (s m : Nat) : Nat := if s ≤ m then s else 0
theorem tsz_pos (n d : Nat) (v : VT (n + 1)) : tsz (n + 1) (d + 1) v = if hdB v.hd.kd v.hd.tx v.hd.nm v.hd.ks v.kids.length then addL (tsz n d) v.kids 1 else 0 := rfl
end Go.Proofs.YtdnodaoeflbfkaaGreat
/- Values: the helpers of the laws that measure, copy and compare them. -/
namespace Go.Proofs.YtdnodaoeflbfkaaGreat
open Go.RowKit
set_option linter.unusedVariables false

def szC (n : Nat) : Prop := ∀ (v : VT n) (x : Value) (left : Int) (w : World), okVT n v → valArg w 0 n x v → 0 ≤ left → left ≤ 1048576 →
  Calls Tryz.prog 47 #[x, .int .i64 left] w fun e w' => e = .returned (.int .i64 (szV n v left)) ∧ Below w.heap.size w w'
theorem szValueS_of {n : Nat} (ih : szC n) (a : Option Addr) (cap : Nat) (ts : List (VT n)) (left : Int) (w : World) (hl : ts.length ≤ maxLen) (hz : okVTs n ts) (h0 : 0 ≤ left) (h1 : left ≤ 1048576) (hrow : valsOf w 0 n a ts) :
    Calls Tryz.prog 107 #[.slice a ts.length cap, .int .i64 left] w fun e w' => e = .returned (.int .i64 (szRow (szV n) ts left)) ∧ Below w.heap.size w w' := by
  unfold maxLen at hl
  by_cases c1 : left - (ts.length : Int) < 0
  · have E : Hid (szRow (szV n) ts left = -1) := by unfold Hid szRow; rw [if_pos c1]
    clear hrow hz ih
    go_enter Tryz.func107, Tryz.ntmps107
    go_wp2
    go_ret
    exact ⟨ret_int E.out.symm, Below.refl _ _⟩
  have E : Hid (szRow (szV n) ts left = szL (szV n) ts (left - ts.length)) := by unfold Hid szRow; rw [if_neg c1]
  have Hr := hide hrow
  have Hz := hide hz
  have Hi := hide ih
  clear hrow hz ih
  go_enter Tryz.func107, Tryz.ntmps107
  go_wp2
  go_loopw [1, 5] (fun l i wr => ∃ (k : Nat) (x : Int), k ≤ ts.length ∧ i = .int .i64 k ∧ l = .int .i64 x ∧ 0 ≤ x ∧ x ≤ 1048576 ∧ Hid (szL (szV n) (ts.drop k) x = szL (szV n) ts (left - ts.length)) ∧ Below w.heap.size w wr) (fun _ i _ => ts.length - (intOf i).toNat)
  case atStart => exact ⟨0, _, Nat.zero_le _, rfl, rfl, by omega, by omega, rfl, Below.refl _ _⟩
  case round =>
    obtain ⟨k, x, hk, rfl, rfl, hx0, hx1, hsz, hbw⟩ := hrel
    by_cases hlt : k < ts.length
    · obtain ⟨b, off, rfl, _, hat⟩ := Hr.out (by omega)
      have hv := (hat k hlt).below hbw
      have hz := (Hz.out _ (List.getElem_mem hlt))
      have hn := szL_drop (szV n) ts k hlt x
      have hs := szV_le n ts[k] x
      cases n with
      | zero => exact hv.elim
      | succ n =>
      obtain ⟨KD, TX, NM, KS, KIDS, hkv⟩ := VT.parts (ts[k]'hlt)
      rw [hkv] at hv hz hn hs
      clear hkv hat
      have hcon := fun (X : Value) (wx : World) (hx : valArg wx 0 (n + 1) X (VT.mk ⟨KD, TX, NM, KS⟩ KIDS)) => Hi.out (VT.mk ⟨KD, TX, NM, KS⟩ KIDS) X x wx hz hx hx0 hx1
      generalize szV (n + 1) (VT.mk ⟨KD, TX, NM, KS⟩ KIDS) x = y at *
      have Hcon := hide hcon
      obtain ⟨h0c, h1c, h2c, ⟨av, capv, h3c, h3d⟩, al, capl, h4c, h4d⟩ := hv
      have Hd := hide (And.intro h3d h4d)
      simp only [VT.hd_mk, VT.kids_mk] at h0c h1c h2c h3c h4c
      clear hcon h3d h4d hz
      by_cases hneg : y < 0
      · have hr : Hid (szL (szV (n + 1)) ts (left - ts.length) = -1) := by rw [← hsz.out, hn, if_pos hneg]; rfl
        clear hn hsz
        go_wp2_with fail
        refine (Hcon.out _ _ ⟨_, _, _, _, rfl, Hd.out.1, Hd.out.2⟩).mono ?_
        rintro e w1 ⟨rfl, hb⟩
        go_wp2
        go_ret
        exact ⟨ret_int (by rw [E.out, hr.out]), hbw.trans (hb.mono hbw.size)⟩
      · have hr : Hid (szL (szV (n + 1)) (ts.drop (k + 1)) y = szL (szV (n + 1)) ts (left - ts.length)) := by rw [← hsz.out, hn, if_neg hneg]; rfl
        clear hn hsz
        go_wp2_with fail
        refine (Hcon.out _ _ ⟨_, _, _, _, rfl, Hd.out.1, Hd.out.2⟩).mono ?_
        rintro e w1 ⟨rfl, hb⟩
        go_wp2
        go_roundw
        case rel => exact ⟨k + 1, _, by omega, by go_num, rfl, by omega, by omega, hr, hbw.trans (hb.mono hbw.size)⟩
        case measure => simp [intOf]; omega
    · have e : k = ts.length := by omega
      subst e
      have hr : Hid (szL (szV n) ts (left - ts.length) = x) := by rw [← hsz.out, List.drop_length]; rfl
      clear hsz
      go_wp2
      go_ret
      exact ⟨ret_int (by rw [E.out, hr.out]), hbw⟩
theorem szValue_of {n : Nat} (ih : szC n) : szC (n + 1) := by
  intro v X left w hok harg h0 h1
  obtain ⟨kd, key, nm, ss, kids, rfl⟩ := VT.parts v
  obtain ⟨a, cap, a', cap', rfl, ⟨hrow, hf⟩, hkids, hf'⟩ := harg
  obtain ⟨hk, hl, hz, hkl, hkz⟩ := hok
  simp only [VT.hd_mk, VT.kids_mk] at *
  unfold maxLen at hk
  have Hr := hide hrow.of
  have Hz := hide hz
  have Hl := hide hl
  have Hk := hide hkids
  have Hkz := hide hkz
  have Hkl := hide hkl
  have Hi := hide ih
  clear hrow hz hl hkids hkz hkl ih hf hf'
  have hcon : ∀ wx, Below w.heap.size w wx → 0 ≤ left - key.size → Calls Tryz.prog 48 #[.slice a ss.length cap, .int .i64 (left - key.size)] wx fun e w' => e = .returned (.int .i64 (szSS ss (left - key.size))) ∧ Below wx.heap.size wx w' :=
    fun wx hx hc => szStringS_any a cap ss _ wx Hl.out Hz.out hc (by omega) (Hr.out.below hx)
  have Hcon := hide hcon
  have hs1 := vszSS_le ss (left - key.size)
  have hcon2 : ∀ (y : Int) wx, Below w.heap.size w wx → 0 ≤ y → y ≤ 1048576 → Calls Tryz.prog 107 #[.slice a' kids.length cap', .int .i64 y] wx fun e w' => e = .returned (.int .i64 (szRow (szV n) kids y)) ∧ Below wx.heap.size wx w' :=
    fun y wx hx hc hc' => szValueS_of Hi.out a' cap' kids _ wx Hkl.out Hkz.out hc hc' (Hk.out.below hx)
  have Hcon2 := hide hcon2
  have E : Hid (szV (n + 1) (VT.mk ⟨kd, key, nm, ss⟩ kids) left = if left - key.size < 0 then -1 else if szSS ss (left - key.size) < 0 then -1 else if szRow (szV n) kids (szSS ss (left - key.size)) < 0 then -1 else szRow (szV n) kids (szSS ss (left - key.size))) := rfl
  clear hcon hcon2 Hi Hk Hkz Hkl Hr Hz Hl
  generalize szV (n + 1) (VT.mk ⟨kd, key, nm, ss⟩ kids) left = R at *
  by_cases c1 : left - (key.size : Int) < 0
  · have E' : Hid (R = -1) := by show _ = _; rw [E.out, if_pos c1]
    go_enter Tryz.func47, Tryz.ntmps47
    go_wp2
    go_ret
    exact ⟨ret_int E'.out.symm, (Below.refl _ _).alloc (Nat.le_refl _) _⟩
  have E1 := hide (E.out.trans (if_neg c1))
  have HC := hide (fun wx hx => Hcon.out wx hx (by omega))
  clear E Hcon
  generalize szSS ss (left - key.size) = x at *
  by_cases c2 : x < 0
  · have E' : Hid (R = -1) := by show _ = _; rw [E1.out, if_pos c2]
    clear E1
    go_enter Tryz.func47, Tryz.ntmps47
    go_wp2_with fail
    refine (HC.out _ ((Below.refl _ _).alloc (Nat.le_refl _) _)).mono ?_
    rintro e w1 ⟨rfl, hb1⟩
    go_wp2
    go_ret
    exact ⟨ret_int E'.out.symm, ((Below.refl _ _).alloc (Nat.le_refl _) _).trans (hb1.mono (by simp))⟩
  have E2 := hide (E1.out.trans (if_neg c2))
  have HC2 := hide (fun wx hx => Hcon2.out x wx hx (by omega) (by omega))
  clear E1 Hcon2
  generalize szRow (szV n) kids x = y at *
  by_cases c3 : y < 0
  · have E' : Hid (R = -1) := by show _ = _; rw [E2.out, if_pos c3]
    clear E2
    go_enter Tryz.func47, Tryz.ntmps47
    go_wp2_with fail
    refine (HC.out _ ((Below.refl _ _).alloc (Nat.le_refl _) _)).mono ?_
    rintro e w1 ⟨rfl, hb1⟩
    have d0 : w1.cell? ⟨w.heap.size, 4, none⟩ = some (.slice a' kids.length cap') := (hb1.cell (p := ⟨w.heap.size, 4, none⟩) (by simp)).trans (by simp [go_sem])
    have hB : Below w.heap.size w w1 := ((Below.refl _ _).alloc (Nat.le_refl _) _).trans (hb1.mono (by simp))
    go_wp2_with fail
    refine (HC2.out _ hB).mono ?_
    rintro e w2 ⟨rfl, hb2⟩
    go_wp2
    go_ret
    exact ⟨ret_int E'.out.symm, hB.trans (hb2.mono hB.size)⟩
  · have E' : Hid (R = y) := by show _ = _; rw [E2.out, if_neg c3]
    clear E2
    go_enter Tryz.func47, Tryz.ntmps47
    go_wp2_with fail
    refine (HC.out _ ((Below.refl _ _).alloc (Nat.le_refl _) _)).mono ?_
    rintro e w1 ⟨rfl, hb1⟩
    have d0 : w1.cell? ⟨w.heap.size, 4, none⟩ = some (.slice a' kids.length cap') := (hb1.cell (p := ⟨w.heap.size, 4, none⟩) (by simp)).trans (by simp [go_sem])
    have hB : Below w.heap.size w w1 := ((Below.refl _ _).alloc (Nat.le_refl _) _).trans (hb1.mono (by simp))
    go_wp2_with fail
    refine (HC2.out _ hB).mono ?_
    rintro e w2 ⟨rfl, hb2⟩
    go_wp2
    go_ret
    exact ⟨ret_int E'.out.symm, hB.trans (hb2.mono hB.size)⟩
theorem szValue_any : ∀ n, szC n
  | 0 => fun v => nomatch v
  | n + 1 => szValue_of (szValue_any n)
end Go.Proofs.YtdnodaoeflbfkaaGreat
/- Right values: the spec's reading of them. -/
namespace Go.Proofs.YtdnodaoeflbfkaaGreat
open Go.RowKit Go.BigFrame
set_option linter.unusedVariables false

theorem ascIn (x : Int) : inB x 32 126 = ascB x := rfl
theorem l4Text_any (s : ByteArray) (w : World) (hs : s.size ≤ maxLen) : Calls Tryz.prog 218 #[.string s] w fun e w' => e = .returned (.bool (txB s)) ∧ w' = w := by
  unfold maxLen at hs
  go_enter Tryz.func218, Tryz.ntmps218
  go_wp2
  go_loop [3] (fun i => ∃ k : Nat, k ≤ s.size ∧ i = .int .i64 k ∧ Hid (txTo s k)) (fun i => s.size - (intOf i).toNat)
  case atStart => exact ⟨0, Nat.zero_le _, rfl, fun j hj => by omega⟩
  case round =>
    obtain ⟨k, hk, rfl, Hok⟩ := hrel
    by_cases hlt : k < s.size
    · have hb := byt_bd s k
      rw [byt_get s k hlt] at hb
      have hsucc := fun h => txTo_succ Hok.out (k := k) h
      have hbad := fun h => txB_bad (s := s) hlt h
      rw [byt_get s k hlt] at hsucc hbad
      clear Hok
      have Hs : Hid (ascB (s[k]'hlt).toNat = true → txTo s (k + 1)) := hsucc
      have Hb : Hid (ascB (s[k]'hlt).toNat = false → txB s = false) := hbad
      have hcon := fun wx => l1In_any ((s[k]'hlt).toNat) 32 126 wx
      rw [ascIn] at hcon
      clear hsucc hbad
      cases hc : ascB ((s[k]'hlt).toNat)
      · rw [hc] at hcon
        have Hn := hide (Hb.out hc)
        have Hcon := hide hcon
        clear hcon Hs Hb hc
        go_wp2_with (go_at_call 98; refine (Hcon.out _).mono ?_; rintro e w' ⟨rfl, rfl⟩)
        go_ret
        exact ⟨ret_bool Hn.out.symm, rfl⟩
      · rw [hc] at hcon
        have Hn := hide (Hs.out hc)
        have Hcon := hide hcon
        clear hcon Hs Hb hc
        go_wp2_with (go_at_call 98; refine (Hcon.out _).mono ?_; rintro e w' ⟨rfl, rfl⟩)
        go_round
        case rel => exact ⟨k + 1, by omega, by go_num, Hn⟩
        case measure => simp [intOf]; omega
    · have e : k = s.size := by omega
      subst e
      have Hn := hide (txB_end Hok.out)
      clear Hok
      go_wp2
      all_goals go_ret
      all_goals exact ⟨ret_bool (by rw [Hn.out, Bool.eq_iff_iff]; simp; omega), rfl⟩
def keysB (ss : List ByteArray) (m : Nat) : Bool := decide (ss.length = m) && valsB ss
set_option maxHeartbeats 800000 in
theorem l4Keys_any (kd : Int) (tx : ByteArray) (nm : Int) (ss : List ByteArray) (m : Nat) (a a' : Option Addr) (cap cap' : Nat) (w : World) (hl : ss.length ≤ maxLen) (hm : m ≤ maxLen) (hz : okStrs ss) (hrow : strOf w a ss) :
    Calls Tryz.prog 219 #[.agg #[.int .i64 kd, .string tx, .int .i64 nm, .slice a ss.length cap, .slice a' m cap']] w fun e w' => e = .returned (.bool (keysB ss m)) ∧ Below w.heap.size w w' := by
  unfold maxLen at hl hm
  have Hr := hide hrow
  have Hz : Hid (∀ i, (ssAt ss i).size ≤ maxLen) := fun i => by
    unfold ssAt
    by_cases hi : i < ss.length
    · rw [List.getElem?_eq_getElem hi]; exact hz _ (List.getElem_mem hi)
    · rw [List.getElem?_eq_none (by omega)]; exact Nat.zero_le _
  clear hrow hz
  go_enter Tryz.func219, Tryz.ntmps219
  go_wp2
  go_loopw [3] (fun i wr => ∃ (k : Nat), k ≤ ss.length ∧ i = .int .i64 k ∧ Hid (∀ j, j < k → okV ss j) ∧ wr.cell? ⟨w.heap.size, 3, none⟩ = some (.slice a ss.length cap) ∧ wr.cell? ⟨w.heap.size, 4, none⟩ = some (.slice a' m cap') ∧ Below w.heap.size w wr) (fun i _ => ss.length - (intOf i).toNat)
  case atStart => exact ⟨0, Nat.zero_le _, rfl, fun j hj => by omega, by simp, by simp, (Below.refl _ _).alloc (by simp) _⟩
  case round =>
    obtain ⟨k, hk, rfl, Hx, b3, b4, hbw⟩ := hrel
    by_cases hlt : k < ss.length
    · obtain ⟨b, off, rfl, hat⟩ := Hr.out (by omega)
      have hc := strAt_cells hat
      have hbb : b < w.heap.size := World.block_lt_of_cell? _ _ (hat k hlt)
      have c0 := (hbw.cell (p := ⟨b, off + k, none⟩) hbb).trans (hc k hlt)
      have cp : 0 < k → wr.cell? ⟨b, off + (k - 1), none⟩ = some (.string (ssAt ss (k - 1))) := fun h => (hbw.cell (p := ⟨b, off + (k - 1), none⟩) hbb).trans (hc (k - 1) (by omega))
      have hzK := Hz.out k
      have Hs : Hid (okV ss k → ∀ j, j < k + 1 → okV ss j) := fun h => okV_succ Hx.out h
      have Hb : Hid (¬ okV ss k → keysB ss m = false) := fun h => by unfold keysB; rw [valsB_bad hlt h, Bool.and_false]
      have hcs := okV_cases ss k
      clear hat hc Hx
      generalize ssAt ss k = K at *
      generalize ssAt ss (k - 1) = P at *
      have hK := fun wx => (sname_any K wx hzK)
      clear hzK
      rcases hcs with ⟨h1, hok⟩ | ⟨h1, h3, hok⟩ | ⟨h1, h3, h4, hok⟩ | ⟨h1, h3, h4, hok⟩
      · rw [h1] at hK
        have HK := hide hK
        have Hn := hide (Hb.out hok.out)
        clear hK h1 cp Hs Hb Hz Hr
        go_wp2
        go_quiet ((go_at_call 127; exact Calls.quiet_of_same (HK.out _)))
        go_wp2
        go_ret
        exact ⟨ret_bool Hn.out.symm, below_drewN hbw _⟩
      · rw [h1] at hK
        have HK := hide hK
        have hk0 : k = 0 := h3.out
        have h3' : decide ((0 : Int) < (k : Int)) = false := by rw [decide_eq_false_iff_not]; omega
        have h3'' : decide (0 < k) = false := by rw [decide_eq_false_iff_not]; omega
        have h3a : (k : Int) ≤ 0 := by omega
        have Hn := hide (Hs.out hok.out)
        clear hK h1 cp h3 hk0 Hs Hb Hz Hr
        go_wp2
        go_quiet ((go_at_call 127; exact Calls.quiet_of_same (HK.out _)))
        go_wp2
        go_roundw
        case rel => exact ⟨k + 1, by omega, by go_num, Hn, b3, b4, below_drewN hbw _⟩
        case measure => simp [intOf]; omega
      · rw [h1] at hK
        have HK := hide hK
        have cp := cp h3
        have h3' : (0 : Int) < (k : Int) := by omega
        have Hn := hide (Hs.out hok.out)
        clear hK h1 Hs Hb Hz Hr
        go_wp2
        go_quiet ((go_at_call 127; exact Calls.quiet_of_same (HK.out _)))
        go_wp2
        go_roundw
        case rel => exact ⟨k + 1, by omega, by go_num, Hn, b3, b4, below_drewN hbw _⟩
        case measure => simp [intOf]; omega
      · rw [h1] at hK
        have HK := hide hK
        have cp := cp h3
        have h3' : (0 : Int) < (k : Int) := by omega
        have Hn := hide (Hb.out hok.out)
        clear hK h1 Hs Hb Hz Hr
        go_wp2
        go_quiet ((go_at_call 127; exact Calls.quiet_of_same (HK.out _)))
        go_wp2
        go_ret
        exact ⟨ret_bool Hn.out.symm, below_drewN hbw _⟩
    · have e : k = ss.length := by omega
      subst e
      have Hv : Hid (keysB ss m = decide (ss.length = m)) := by show _ = _; unfold keysB; rw [valsB_end Hx.out, Bool.and_true]
      clear Hx Hr Hz
      go_wp2
      go_ret
      exact ⟨ret_bool (by rw [Hv.out, Bool.eq_iff_iff]; simp; omega), hbw⟩
end Go.Proofs.YtdnodaoeflbfkaaGreat
/- Right values: the spec's size of them. -/
namespace Go.Proofs.YtdnodaoeflbfkaaGreat
open Go.RowKit Go.BigFrame
set_option linter.unusedVariables false

theorem upTo_of {s m : Nat} (h : s ≤ m) : upTo s m = s := if_pos h
theorem upTo_no {s m : Nat} (h : m < s) : upTo s m = 0 := if_neg (by omega)
theorem empty_beq (s : ByteArray) : (s.toList == []) = decide (s.size = 0) := by
  rw [Lib.toList_data, Bool.eq_iff_iff, beq_iff_eq, decide_eq_true_eq]
  constructor
  · intro h; show s.data.size = 0; rw [← Array.length_toList, h]; rfl
  · intro h; exact List.eq_nil_of_length_eq_zero (by rw [Array.length_toList]; exact h)
/-- what the end of the reading asks, one kind after the other -/
theorem hdB1 (tx : ByteArray) (nm : Int) (ks : List ByteArray) (m : Nat) : hdB 1 tx nm ks m = (txB tx && decide (nm = 0) && decide (ks.length = 0) && decide (m = 0)) := rfl
theorem hdB2 (tx : ByteArray) (nm : Int) (ks : List ByteArray) (m : Nat) : hdB 2 tx nm ks m = (decide (tx.size = 0) && decide (ks.length = 0) && decide (m = 0)) := rfl
theorem hdB3 (tx : ByteArray) (nm : Int) (ks : List ByteArray) (m : Nat) : hdB 3 tx nm ks m = (decide (tx.size = 0) && decide (nm = 0 ∨ nm = 1) && decide (ks.length = 0) && decide (m = 0)) := rfl
theorem hdB4 (tx : ByteArray) (nm : Int) (ks : List ByteArray) (m : Nat) : hdB 4 tx nm ks m = (decide (tx.size = 0) && decide (nm = 0) && decide (ks.length = 0)) := rfl
theorem hdB5 (tx : ByteArray) (nm : Int) (ks : List ByteArray) (m : Nat) : hdB 5 tx nm ks m = (decide (tx.size = 0) && decide (nm = 0) && decide (ks.length = m) && valsB ks) := rfl
theorem hdB5' (tx : ByteArray) (nm : Int) (ks : List ByteArray) (m : Nat) : hdB 5 tx nm ks m = (decide (tx.size = 0) && decide (nm = 0) && keysB ks m) := by
  rw [hdB5]; unfold keysB; rw [Bool.and_assoc]
theorem hdB0 {kd : Int} (h1 : kd ≠ 1) (h2 : kd ≠ 2) (h3 : kd ≠ 3) (h4 : kd ≠ 4) (h5 : kd ≠ 5) (tx : ByteArray) (nm : Int) (ks : List ByteArray) (m : Nat) : hdB kd tx nm ks m = false := by
  unfold hdB; rw [if_neg h1, if_neg h2, if_neg h3, if_neg h4, if_neg h5]

def lookC (n : Nat) : Prop := ∀ (v : VT n) (x : Value) (d : Nat) (w : World), okVT n v → valArg w 0 n x v → d ≤ 100 →
  Calls Tryz.prog 179 #[x, .int .i64 d] w fun e w' => e = .returned (.int .i64 (upTo (tsz n d v) 300 : Nat)) ∧ Below w.heap.size w w'

set_option maxHeartbeats 1600000 in
theorem look_of {n : Nat} (ih : lookC n) : lookC (n + 1) := by
  intro v X d w hok harg hd
  obtain ⟨kd, tx, nm, ks, kids, rfl⟩ := VT.parts v
  obtain ⟨a, cap, a', cap', rfl, ⟨hrow, hf⟩, hkids, hf'⟩ := harg
  obtain ⟨hk, hl, hz, hkl, hkz⟩ := hok
  simp only [VT.hd_mk, VT.kids_mk] at *
  unfold maxLen at hkl
  cases d with
  | zero =>
    have E : Hid (upTo (tsz (n + 1) 0 (VT.mk ⟨kd, tx, nm, ks⟩ kids)) 300 = 0) := rfl
    clear hrow hf hkids hf' hk hl hz hkl hkz ih
    go_enter Tryz.func179, Tryz.ntmps179
    go_wp2
    go_ret
    exact ⟨ret_int (by rw [E.out]; rfl), (Below.refl _ _).alloc (Nat.le_refl _) _⟩
  | succ d =>
  have E : Hid (tsz (n + 1) (d + 1) (VT.mk ⟨kd, tx, nm, ks⟩ kids) = if hdB kd tx nm ks kids.length then addL (tsz n d) kids 1 else 0) := rfl
  generalize tsz (n + 1) (d + 1) (VT.mk ⟨kd, tx, nm, ks⟩ kids) = T at *
  have hlk := hl
  unfold maxLen at hlk
  have Hr := hide hrow
  have Hk := hide hkids
  have Hkz := hide hkz
  have Hi := hide ih
  have Htx := hide hk
  have Hkeys : Hid (∀ wx, Below w.heap.size w wx → Calls Tryz.prog 219 #[.agg #[.int .i64 kd, .string tx, .int .i64 nm, .slice a ks.length cap, .slice a' kids.length cap']] wx fun e w' => e = .returned (.bool (keysB ks kids.length)) ∧ Below wx.heap.size wx w') :=
    fun wx hx => l4Keys_any kd tx nm ks kids.length a a' cap cap' wx hl (by unfold maxLen; omega) hz (hrow.of.below hx)
  obtain ⟨D, hD⟩ : ∃ D, d + 1 = D := ⟨_, rfl⟩
  have Hd : Hid (d + 1 ≤ 100 ∧ d + 1 = D) := ⟨hd, hD⟩
  rw [hD]
  have qD : ((D : Int) == 0) = false := by simp; omega
  have hD0 : 0 < D := by omega
  have hD1 : D ≤ 100 := by omega
  clear hrow hf hkids hf' hk hl hz hkz ih hD hd
  go_enter Tryz.func179, Tryz.ntmps179
  go_wp2
  go_loopw [5, 6] (fun s i wr => ∃ (k N : Nat), k ≤ kids.length ∧ i = .int .i64 k ∧ s = .int .i64 N ∧ 1 ≤ N ∧ N ≤ 300 ∧ Hid (addL (tsz n d) (kids.drop k) N = addL (tsz n d) kids 1) ∧
      wr.cell? ⟨w.heap.size, 0, none⟩ = some (.int .i64 kd) ∧ wr.cell? ⟨w.heap.size, 1, none⟩ = some (.string tx) ∧ wr.cell? ⟨w.heap.size, 2, none⟩ = some (.int .i64 nm) ∧ wr.cell? ⟨w.heap.size, 3, none⟩ = some (.slice a ks.length cap) ∧ wr.cell? ⟨w.heap.size, 4, none⟩ = some (.slice a' kids.length cap') ∧ Below w.heap.size w wr ∧ w.heap.size < wr.heap.size) (fun _ i _ => kids.length - (intOf i).toNat)
  case atStart => exact ⟨0, 1, Nat.zero_le _, rfl, rfl, by omega, by omega, rfl, by simp, by simp, by simp, by simp, by simp, (Below.refl _ _).alloc (by simp) _, by simp⟩
  case round =>
    obtain ⟨k, N, hk, rfl, rfl, hN0, hN1, Hx, b0, b1, b2, b3, b4, hbw, hgt⟩ := hrel
    by_cases hlt : k < kids.length
    · obtain ⟨b, off, rfl, _, hat⟩ := Hk.out (by omega)
      have hv := (hat k hlt).below hbw
      have hz := (Hkz.out _ (List.getElem_mem hlt))
      have hn := addL_drop (tsz n d) kids k hlt N
      have hge := addL_ge (f := tsz n d) (kids.drop (k + 1)) (N + tsz n d (kids[k]'hlt))
      cases n with
      | zero => exact hv.elim
      | succ n =>
      obtain ⟨KD, TX, NM, KS, KIDS, hkv⟩ := VT.parts (kids[k]'hlt)
      rw [hkv] at hv hz hn hge
      clear hkv hat
      have hcon := fun (X : Value) (z : Int) (wx : World) (hzz : z = (D : Int) - 1) (hx : valArg wx 0 (n + 1) X (VT.mk ⟨KD, TX, NM, KS⟩ KIDS)) => (show z = (d : Int) by have := Hd.out; omega) ▸ Hi.out (VT.mk ⟨KD, TX, NM, KS⟩ KIDS) X d wx hz hx (by have := Hd.out; omega)
      generalize tsz (n + 1) d (VT.mk ⟨KD, TX, NM, KS⟩ KIDS) = y at *
      obtain ⟨h0c, h1c, h2c, ⟨av, capv, h3c, h3d⟩, al, capl, h4c, h4d⟩ := hv
      have Hdd := hide (And.intro h3d h4d)
      simp only [VT.hd_mk, VT.kids_mk] at h0c h1c h2c h3c h4c
      clear h3d h4d hz
      have hgone : Hid (y = 0 ∨ 300 < N + y → upTo T 300 = 0) := by
        intro h
        rw [E.out]
        split
        · rw [← Hx.out, hn]
          split
          · rfl
          · rcases hge with h' | h'
            · rw [h']; rfl
            · exact upTo_no (by omega)
        · rfl
      by_cases hy0 : upTo y 300 = 0
      · rw [hy0] at hcon
        have Hcon := hide hcon
        have Hg : Hid (upTo T 300 = 0) := hgone.out (by
          by_cases h0 : y = 0
          · exact .inl h0
          · right
            unfold upTo at hy0
            split at hy0 <;> omega)
        clear hcon hgone hn hge Hx
        go_wp2_with fail
        refine (Hcon.out _ _ _ (by first | rfl | omega) ⟨_, _, _, _, rfl, Hdd.out.1, Hdd.out.2⟩).mono ?_
        rintro e w1 ⟨rfl, hb⟩
        go_wp2
        go_ret
        exact ⟨ret_int (by rw [Hg.out]; rfl), hbw.trans (hb.mono hbw.size)⟩
      · have hyy : y ≤ 300 ∧ y ≠ 0 := by unfold upTo at hy0; split at hy0 <;> omega
        rw [upTo_of hyy.1] at hcon
        have Hcon := hide hcon
        by_cases hbig : 300 < N + y
        · have Hg : Hid (upTo T 300 = 0) := hgone.out (.inr hbig)
          have q0 : ((y : Int) == 0) = false := by simp; omega
          have q1 : (300 : Int) < (N : Int) + (y : Int) := by omega
          clear hcon hgone hn hge Hx
          go_wp2_with fail
          refine (Hcon.out _ _ _ (by first | rfl | omega) ⟨_, _, _, _, rfl, Hdd.out.1, Hdd.out.2⟩).mono ?_
          rintro e w1 ⟨rfl, hb⟩
          go_wp2
          go_ret
          exact ⟨ret_int (by rw [Hg.out]; rfl), hbw.trans (hb.mono hbw.size)⟩
        · have Hn : Hid (addL (tsz (n + 1) d) (kids.drop (k + 1)) (N + y) = addL (tsz (n + 1) d) kids 1) := by rw [← Hx.out, hn, if_neg hyy.2]; rfl
          have q0 : ((y : Int) == 0) = false := by simp; omega
          have q1 : (N : Int) + (y : Int) ≤ 300 := by omega
          clear hcon hgone hn hge Hx
          go_wp2_with fail
          refine (Hcon.out _ _ _ (by first | rfl | omega) ⟨_, _, _, _, rfl, Hdd.out.1, Hdd.out.2⟩).mono ?_
          rintro e w1 ⟨rfl, hb⟩
          have b0' := (hb.cell (p := ⟨w.heap.size, 0, none⟩) hgt).trans b0
          have b1' := (hb.cell (p := ⟨w.heap.size, 1, none⟩) hgt).trans b1
          have b2' := (hb.cell (p := ⟨w.heap.size, 2, none⟩) hgt).trans b2
          have b3' := (hb.cell (p := ⟨w.heap.size, 3, none⟩) hgt).trans b3
          have b4' := (hb.cell (p := ⟨w.heap.size, 4, none⟩) hgt).trans b4
          go_wp2
          go_roundw
          case rel => exact ⟨k + 1, N + y, by omega, by go_num, by go_num, by omega, by omega, Hn, b0', b1', b2', b3', b4', hbw.trans (hb.mono hbw.size), Nat.lt_of_lt_of_le hgt hb.size⟩
          case measure => simp [intOf]; omega
    · have e : k = kids.length := by omega
      subst e
      have hN : Hid (addL (tsz n d) kids 1 = N) := by rw [← Hx.out, List.drop_length]; rfl
      have HT : Hid (upTo T 300 = if hdB kd tx nm ks kids.length then N else 0) := by
        show _ = _
        rw [E.out, hN.out]; split
        · exact upTo_of hN1
        · rfl
      clear Hx Hk Hkz Hi hN E Hd hlt hk
      have hwt := fun wx => l4Text_any tx wx Htx.out
      have he := empty_beq tx
      clear Htx Hr
      have Hhd : Hid (∀ r : Bool, hdB kd tx nm ks kids.length = r → upTo T 300 = if r then N else 0) := fun r h => by rw [HT.out, h]
      have HX : Hid True := trivial
      have Hkb : Hid (keysB ks kids.length = (decide (ks.length = kids.length) && valsB ks)) := rfl
      clear HT
      by_cases k1 : kd = 1
      · subst k1
        by_cases c0 : ks.length = 0
        · by_cases c1 : kids.length = 0
          · by_cases c2 : nm = 0
            · by_cases c3 : txB tx = true
              · have E0 := hide (Hhd.out true (by rw [hdB1]; simp [c0, c1, c2, c3]))
                have q0 : ((ks.length : Int) == 0) = true := by rw [c0]; rfl
                have q1 : ((kids.length : Int) == 0) = true := by rw [c1]; rfl
                have q2 : (nm == 0) = true := by rw [c2]; rfl
                have HWT : Hid (∀ wx, Calls Tryz.prog 218 #[.string tx] wx fun e w' => e = .returned (.bool true) ∧ w' = wx) := fun wx => by have := hwt wx; rw [c3] at this; exact this
                clear HX Hkb Hkeys Hhd hwt he
                clear c2
                clear c3
                go_wp2_with (go_at_call 218; refine (HWT.out _).mono ?_; rintro e w' ⟨rfl, rfl⟩)
                all_goals go_ret
                all_goals exact ⟨ret_int (by rw [E0.out]; rfl), hbw⟩
              · have E0 := hide (Hhd.out false (by rw [hdB1]; simp [c0, c1, c2, c3]))
                have q0 : ((ks.length : Int) == 0) = true := by rw [c0]; rfl
                have q1 : ((kids.length : Int) == 0) = true := by rw [c1]; rfl
                have q2 : (nm == 0) = true := by rw [c2]; rfl
                have HWT : Hid (∀ wx, Calls Tryz.prog 218 #[.string tx] wx fun e w' => e = .returned (.bool false) ∧ w' = wx) := fun wx => by have := hwt wx; rw [(by simpa using c3 : txB tx = false)] at this; exact this
                clear HX Hkb Hkeys Hhd hwt he
                clear c2
                clear c3
                go_wp2_with (go_at_call 218; refine (HWT.out _).mono ?_; rintro e w' ⟨rfl, rfl⟩)
                all_goals go_ret
                all_goals exact ⟨ret_int (by rw [E0.out]; rfl), hbw⟩
            · have E0 := hide (Hhd.out false (by rw [hdB1]; simp [c0, c1, c2]))
              have q0 : ((ks.length : Int) == 0) = true := by rw [c0]; rfl
              have q1 : ((kids.length : Int) == 0) = true := by rw [c1]; rfl
              have q2 : (nm == 0) = false := by simpa using c2
              clear HX Hkb Hkeys Hhd hwt he
              clear c2
              go_wp2
              all_goals go_ret
              all_goals exact ⟨ret_int (by rw [E0.out]; rfl), hbw⟩
          · have E0 := hide (Hhd.out false (by rw [hdB1]; simp [c0, c1]))
            have q0 : ((ks.length : Int) == 0) = true := by rw [c0]; rfl
            have q1 : ((kids.length : Int) == 0) = false := by simp only [beq_eq_false_iff_ne, ne_eq]; omega
            clear HX Hkb Hkeys Hhd hwt he
            go_wp2
            all_goals go_ret
            all_goals exact ⟨ret_int (by rw [E0.out]; rfl), hbw⟩
        · have E0 := hide (Hhd.out false (by rw [hdB1]; simp [c0]))
          have q0 : ((ks.length : Int) == 0) = false := by simp only [beq_eq_false_iff_ne, ne_eq]; omega
          clear HX Hkb Hkeys Hhd hwt he
          go_wp2
          all_goals go_ret
          all_goals exact ⟨ret_int (by rw [E0.out]; rfl), hbw⟩
      by_cases k2 : kd = 2
      · subst k2
        by_cases c0 : ks.length = 0
        · by_cases c1 : kids.length = 0
          · by_cases c2 : tx.size = 0
            · have E0 := hide (Hhd.out true (by rw [hdB2]; simp [c0, c1, c2]))
              have q0 : ((ks.length : Int) == 0) = true := by rw [c0]; rfl
              have q1 : ((kids.length : Int) == 0) = true := by rw [c1]; rfl
              have q2 := he.trans (decide_eq_true c2)
              clear HX Hkb Hkeys Hhd hwt he
              clear c2
              go_wp2
              all_goals go_ret
              all_goals exact ⟨ret_int (by rw [E0.out]; rfl), hbw⟩
            · have E0 := hide (Hhd.out false (by rw [hdB2]; simp [c0, c1, c2]))
              have q0 : ((ks.length : Int) == 0) = true := by rw [c0]; rfl
              have q1 : ((kids.length : Int) == 0) = true := by rw [c1]; rfl
              have q2 := he.trans (decide_eq_false c2)
              clear HX Hkb Hkeys Hhd hwt he
              clear c2
              go_wp2
              all_goals go_ret
              all_goals exact ⟨ret_int (by rw [E0.out]; rfl), hbw⟩
          · have E0 := hide (Hhd.out false (by rw [hdB2]; simp [c0, c1]))
            have q0 : ((ks.length : Int) == 0) = true := by rw [c0]; rfl
            have q1 : ((kids.length : Int) == 0) = false := by simp only [beq_eq_false_iff_ne, ne_eq]; omega
            clear HX Hkb Hkeys Hhd hwt he
            go_wp2
            all_goals go_ret
            all_goals exact ⟨ret_int (by rw [E0.out]; rfl), hbw⟩
        · have E0 := hide (Hhd.out false (by rw [hdB2]; simp [c0]))
          have q0 : ((ks.length : Int) == 0) = false := by simp only [beq_eq_false_iff_ne, ne_eq]; omega
          clear HX Hkb Hkeys Hhd hwt he
          go_wp2
          all_goals go_ret
          all_goals exact ⟨ret_int (by rw [E0.out]; rfl), hbw⟩
      by_cases k3 : kd = 3
      · subst k3
        by_cases c0 : ks.length = 0
        · by_cases c1 : kids.length = 0
          · by_cases c2 : tx.size = 0
            · by_cases c3 : nm = 0 ∨ nm = 1
              · have E0 := hide (Hhd.out true (by rw [hdB3]; simp [c0, c1, c2, c3]))
                have q0 : ((ks.length : Int) == 0) = true := by rw [c0]; rfl
                have q1 : ((kids.length : Int) == 0) = true := by rw [c1]; rfl
                have q2 := he.trans (decide_eq_true c2)
                have HI : Hid (∀ wx, Calls Tryz.prog 98 #[.int .i64 nm, .int .i64 0, .int .i64 1] wx fun e w' => e = .returned (.bool true) ∧ w' = wx) := fun wx => by have := l1In_any nm 0 1 wx; rw [(by unfold inB; rw [decide_eq_true_eq]; omega : inB nm 0 1 = true)] at this; exact this
                clear HX Hkb Hkeys Hhd hwt he
                clear c2
                clear c3
                go_wp2_with (go_at_call 98; refine (HI.out _).mono ?_; rintro e w' ⟨rfl, rfl⟩)
                all_goals go_ret
                all_goals exact ⟨ret_int (by rw [E0.out]; rfl), hbw⟩
              · have E0 := hide (Hhd.out false (by rw [hdB3]; simp [c0, c1, c2, c3]))
                have q0 : ((ks.length : Int) == 0) = true := by rw [c0]; rfl
                have q1 : ((kids.length : Int) == 0) = true := by rw [c1]; rfl
                have q2 := he.trans (decide_eq_true c2)
                have HI : Hid (∀ wx, Calls Tryz.prog 98 #[.int .i64 nm, .int .i64 0, .int .i64 1] wx fun e w' => e = .returned (.bool false) ∧ w' = wx) := fun wx => by have := l1In_any nm 0 1 wx; rw [(by unfold inB; rw [decide_eq_false_iff_not]; omega : inB nm 0 1 = false)] at this; exact this
                clear HX Hkb Hkeys Hhd hwt he
                clear c2
                clear c3
                go_wp2_with (go_at_call 98; refine (HI.out _).mono ?_; rintro e w' ⟨rfl, rfl⟩)
                all_goals go_ret
                all_goals exact ⟨ret_int (by rw [E0.out]; rfl), hbw⟩
            · have E0 := hide (Hhd.out false (by rw [hdB3]; simp [c0, c1, c2]))
              have q0 : ((ks.length : Int) == 0) = true := by rw [c0]; rfl
              have q1 : ((kids.length : Int) == 0) = true := by rw [c1]; rfl
              have q2 := he.trans (decide_eq_false c2)
              clear HX Hkb Hkeys Hhd hwt he
              clear c2
              go_wp2
              all_goals go_ret
              all_goals exact ⟨ret_int (by rw [E0.out]; rfl), hbw⟩
          · have E0 := hide (Hhd.out false (by rw [hdB3]; simp [c0, c1]))
            have q0 : ((ks.length : Int) == 0) = true := by rw [c0]; rfl
            have q1 : ((kids.length : Int) == 0) = false := by simp only [beq_eq_false_iff_ne, ne_eq]; omega
            clear HX Hkb Hkeys Hhd hwt he
            go_wp2
            all_goals go_ret
            all_goals exact ⟨ret_int (by rw [E0.out]; rfl), hbw⟩
        · have E0 := hide (Hhd.out false (by rw [hdB3]; simp [c0]))
          have q0 : ((ks.length : Int) == 0) = false := by simp only [beq_eq_false_iff_ne, ne_eq]; omega
          clear HX Hkb Hkeys Hhd hwt he
          go_wp2
          all_goals go_ret
          all_goals exact ⟨ret_int (by rw [E0.out]; rfl), hbw⟩
      by_cases k4 : kd = 4
      · subst k4
        by_cases c0 : ks.length = 0
        · by_cases c1 : tx.size = 0
          · by_cases c2 : nm = 0
            · have E0 := hide (Hhd.out true (by rw [hdB4]; simp [c0, c1, c2]))
              have q0 : ((ks.length : Int) == 0) = true := by rw [c0]; rfl
              have q1 := he.trans (decide_eq_true c1)
              have q2 : (nm == 0) = true := by rw [c2]; rfl
              clear HX Hkb Hkeys Hhd hwt he
              clear c1
              clear c2
              go_wp2
              all_goals go_ret
              all_goals exact ⟨ret_int (by rw [E0.out]; rfl), hbw⟩
            · have E0 := hide (Hhd.out false (by rw [hdB4]; simp [c0, c1, c2]))
              have q0 : ((ks.length : Int) == 0) = true := by rw [c0]; rfl
              have q1 := he.trans (decide_eq_true c1)
              have q2 : (nm == 0) = false := by simpa using c2
              clear HX Hkb Hkeys Hhd hwt he
              clear c1
              clear c2
              go_wp2
              all_goals go_ret
              all_goals exact ⟨ret_int (by rw [E0.out]; rfl), hbw⟩
          · have E0 := hide (Hhd.out false (by rw [hdB4]; simp [c0, c1]))
            have q0 : ((ks.length : Int) == 0) = true := by rw [c0]; rfl
            have q1 := he.trans (decide_eq_false c1)
            clear HX Hkb Hkeys Hhd hwt he
            clear c1
            go_wp2
            all_goals go_ret
            all_goals exact ⟨ret_int (by rw [E0.out]; rfl), hbw⟩
        · have E0 := hide (Hhd.out false (by rw [hdB4]; simp [c0]))
          have q0 : ((ks.length : Int) == 0) = false := by simp only [beq_eq_false_iff_ne, ne_eq]; omega
          clear HX Hkb Hkeys Hhd hwt he
          go_wp2
          all_goals go_ret
          all_goals exact ⟨ret_int (by rw [E0.out]; rfl), hbw⟩
      by_cases k5 : kd = 5
      · subst k5
        by_cases c0 : keysB ks kids.length = true
        · by_cases c1 : tx.size = 0
          · by_cases c2 : nm = 0
            · have E0 := hide (Hhd.out true (by rw [hdB5']; simp [c0, c1, c2]))
              have HK : Hid (∀ (L M : Nat) wx, L = ks.length → M = kids.length → Below w.heap.size w wx → Calls Tryz.prog 219 #[.agg #[.int .i64 5, .string tx, .int .i64 nm, .slice a L cap, .slice a' M cap']] wx fun e w' => e = .returned (.bool true) ∧ Below wx.heap.size wx w') := fun L M wx hL hM hx => by subst hL; subst hM; have := Hkeys.out wx hx; rw [c0] at this; exact this
              have q1 := he.trans (decide_eq_true c1)
              have q2 : (nm == 0) = true := by rw [c2]; rfl
              clear HX Hkb Hkeys Hhd hwt he
              clear c0
              clear c1
              clear c2
              go_wp2_with fail
              all_goals
                refine (HK.out _ _ _ (by first | rfl | omega | simp_all) (by first | rfl | omega | simp_all) hbw).mono ?_
                rintro e w1 ⟨rfl, hb⟩
                have b0' := (hb.cell (p := ⟨w.heap.size, 0, none⟩) hgt).trans b0
                have b1' := (hb.cell (p := ⟨w.heap.size, 1, none⟩) hgt).trans b1
                have b2' := (hb.cell (p := ⟨w.heap.size, 2, none⟩) hgt).trans b2
                have b3' := (hb.cell (p := ⟨w.heap.size, 3, none⟩) hgt).trans b3
                have b4' := (hb.cell (p := ⟨w.heap.size, 4, none⟩) hgt).trans b4
                go_wp2
                all_goals go_ret
                all_goals exact ⟨ret_int (by rw [E0.out]; rfl), hbw.trans (hb.mono hbw.size)⟩
            · have E0 := hide (Hhd.out false (by rw [hdB5']; simp [c0, c1, c2]))
              have HK : Hid (∀ (L M : Nat) wx, L = ks.length → M = kids.length → Below w.heap.size w wx → Calls Tryz.prog 219 #[.agg #[.int .i64 5, .string tx, .int .i64 nm, .slice a L cap, .slice a' M cap']] wx fun e w' => e = .returned (.bool true) ∧ Below wx.heap.size wx w') := fun L M wx hL hM hx => by subst hL; subst hM; have := Hkeys.out wx hx; rw [c0] at this; exact this
              have q1 := he.trans (decide_eq_true c1)
              have q2 : (nm == 0) = false := by simpa using c2
              clear HX Hkb Hkeys Hhd hwt he
              clear c0
              clear c1
              clear c2
              go_wp2_with fail
              all_goals
                refine (HK.out _ _ _ (by first | rfl | omega | simp_all) (by first | rfl | omega | simp_all) hbw).mono ?_
                rintro e w1 ⟨rfl, hb⟩
                have b0' := (hb.cell (p := ⟨w.heap.size, 0, none⟩) hgt).trans b0
                have b1' := (hb.cell (p := ⟨w.heap.size, 1, none⟩) hgt).trans b1
                have b2' := (hb.cell (p := ⟨w.heap.size, 2, none⟩) hgt).trans b2
                have b3' := (hb.cell (p := ⟨w.heap.size, 3, none⟩) hgt).trans b3
                have b4' := (hb.cell (p := ⟨w.heap.size, 4, none⟩) hgt).trans b4
                go_wp2
                all_goals go_ret
                all_goals exact ⟨ret_int (by rw [E0.out]; rfl), hbw.trans (hb.mono hbw.size)⟩
          · have E0 := hide (Hhd.out false (by rw [hdB5']; simp [c0, c1]))
            have HK : Hid (∀ (L M : Nat) wx, L = ks.length → M = kids.length → Below w.heap.size w wx → Calls Tryz.prog 219 #[.agg #[.int .i64 5, .string tx, .int .i64 nm, .slice a L cap, .slice a' M cap']] wx fun e w' => e = .returned (.bool true) ∧ Below wx.heap.size wx w') := fun L M wx hL hM hx => by subst hL; subst hM; have := Hkeys.out wx hx; rw [c0] at this; exact this
            have q1 := he.trans (decide_eq_false c1)
            clear HX Hkb Hkeys Hhd hwt he
            clear c0
            clear c1
            go_wp2_with fail
            all_goals
              refine (HK.out _ _ _ (by first | rfl | omega | simp_all) (by first | rfl | omega | simp_all) hbw).mono ?_
              rintro e w1 ⟨rfl, hb⟩
              have b0' := (hb.cell (p := ⟨w.heap.size, 0, none⟩) hgt).trans b0
              have b1' := (hb.cell (p := ⟨w.heap.size, 1, none⟩) hgt).trans b1
              have b2' := (hb.cell (p := ⟨w.heap.size, 2, none⟩) hgt).trans b2
              have b3' := (hb.cell (p := ⟨w.heap.size, 3, none⟩) hgt).trans b3
              have b4' := (hb.cell (p := ⟨w.heap.size, 4, none⟩) hgt).trans b4
              go_wp2
              all_goals go_ret
              all_goals exact ⟨ret_int (by rw [E0.out]; rfl), hbw.trans (hb.mono hbw.size)⟩
        · have E0 := hide (Hhd.out false (by rw [hdB5']; simp [c0]))
          have HK : Hid (∀ (L M : Nat) wx, L = ks.length → M = kids.length → Below w.heap.size w wx → Calls Tryz.prog 219 #[.agg #[.int .i64 5, .string tx, .int .i64 nm, .slice a L cap, .slice a' M cap']] wx fun e w' => e = .returned (.bool false) ∧ Below wx.heap.size wx w') := fun L M wx hL hM hx => by subst hL; subst hM; have := Hkeys.out wx hx; rw [(by simpa using c0 : keysB ks kids.length = false)] at this; exact this
          clear HX Hkb Hkeys Hhd hwt he
          clear c0
          go_wp2_with fail
          all_goals
            refine (HK.out _ _ _ (by first | rfl | omega | simp_all) (by first | rfl | omega | simp_all) hbw).mono ?_
            rintro e w1 ⟨rfl, hb⟩
            have b0' := (hb.cell (p := ⟨w.heap.size, 0, none⟩) hgt).trans b0
            have b1' := (hb.cell (p := ⟨w.heap.size, 1, none⟩) hgt).trans b1
            have b2' := (hb.cell (p := ⟨w.heap.size, 2, none⟩) hgt).trans b2
            have b3' := (hb.cell (p := ⟨w.heap.size, 3, none⟩) hgt).trans b3
            have b4' := (hb.cell (p := ⟨w.heap.size, 4, none⟩) hgt).trans b4
            go_wp2
            all_goals go_ret
            all_goals exact ⟨ret_int (by rw [E0.out]; rfl), hbw.trans (hb.mono hbw.size)⟩
      have E0 := hide (Hhd.out false (hdB0 k1 k2 k3 k4 k5 _ _ _ _))
      have j1 : (kd == 1) = false := by simpa using k1
      have j2 : (kd == 2) = false := by simpa using k2
      have j3 : (kd == 3) = false := by simpa using k3
      have j4 : (kd == 4) = false := by simpa using k4
      have j5 : (kd == 5) = false := by simpa using k5
      clear HX Hkb Hkeys Hhd hwt he k1 k2 k3 k4 k5
      go_wp2
      all_goals go_ret
      all_goals exact ⟨ret_int (by rw [E0.out]; rfl), hbw⟩
theorem look_any : ∀ n, lookC n
  | 0 => fun v => nomatch v
  | n + 1 => look_of (look_any n)
end Go.Proofs.YtdnodaoeflbfkaaGreat
/- Right values: the program's reading of them. -/
namespace Go.Proofs.YtdnodaoeflbfkaaGreat
open Go.RowKit Go.BigFrame
set_option linter.unusedVariables false

theorem asc_low {x : Int} (h : ascB x = false) (h2 : 32 ≤ x) : 126 < x := by
  unfold ascB at h; rw [decide_eq_false_iff_not] at h; omega
theorem itext_any (s : ByteArray) (w : World) (hs : s.size ≤ maxLen) : Calls Tryz.prog 250 #[.string s] w fun e w' => e = .returned (.bool (txB s)) ∧ w' = w := by
  unfold maxLen at hs
  by_cases hbig : 100 < s.size
  · have Hn := hide (txB_long hbig)
    have hbig' : (100 : Int) < (s.size : Int) := by omega
    clear hbig
    go_enter Tryz.func250, Tryz.ntmps250
    go_wp2
    go_ret
    exact ⟨ret_bool Hn.out.symm, rfl⟩
  have hbig' : (s.size : Int) ≤ 100 := by omega
  go_enter Tryz.func250, Tryz.ntmps250
  go_wp2
  go_loop [9] (fun i => ∃ k : Nat, k ≤ s.size ∧ i = .int .i64 k ∧ Hid (txTo s k)) (fun i => s.size - (intOf i).toNat)
  case atStart => exact ⟨0, Nat.zero_le _, rfl, fun j hj => by omega⟩
  case round =>
    obtain ⟨k, hk, rfl, Hok⟩ := hrel
    by_cases hlt : k < s.size
    · have hb := byt_bd s k
      rw [byt_get s k hlt] at hb
      have hsucc := fun h => txTo_succ Hok.out (k := k) h
      have hbad := fun h => txB_bad (s := s) hlt h
      rw [byt_get s k hlt] at hsucc hbad
      clear Hok
      have Hs : Hid (ascB (s[k]'hlt).toNat = true → txTo s (k + 1)) := hsucc
      have Hb : Hid (ascB (s[k]'hlt).toNat = false → txB s = false) := hbad
      clear hsucc hbad
      have h0 : ((s[k]'hlt).toNat : Int) < 32 ∧ Hid (ascB ((s[k]'hlt).toNat) = false) ∨ (32 : Int) ≤ ((s[k]'hlt).toNat : Int) ∧ (126 : Int) < ((s[k]'hlt).toNat : Int) ∧ Hid (ascB ((s[k]'hlt).toNat) = false) ∨ (32 : Int) ≤ ((s[k]'hlt).toNat : Int) ∧ ((s[k]'hlt).toNat : Int) ≤ 126 ∧ Hid (ascB ((s[k]'hlt).toNat) = true) := by
        unfold ascB Hid
        simp only [decide_eq_true_eq, decide_eq_false_iff_not]
        omega
      rcases h0 with ⟨h1, hn⟩ | ⟨h1, h2, hn⟩ | ⟨h1, h2, hn⟩
      · have Hn := hide (Hb.out hn.out)
        clear Hs Hb hn
        go_wp2
        go_ret
        exact ⟨ret_bool Hn.out.symm, rfl⟩
      · have Hn := hide (Hb.out hn.out)
        clear Hs Hb hn
        go_wp2
        go_ret
        exact ⟨ret_bool Hn.out.symm, rfl⟩
      · have Hn := hide (Hs.out hn.out)
        clear Hs Hb hn
        go_wp2
        go_round
        case rel => exact ⟨k + 1, by omega, by go_num, Hn⟩
        case measure => simp [intOf]; omega
    · have e : k = s.size := by omega
      subst e
      have Hn : Hid (txB s = true) := by show _ = _; rw [txB_end Hok.out, decide_eq_true (by omega)]
      clear Hok
      go_wp2
      go_ret
      exact ⟨ret_bool Hn.out.symm, rfl⟩
end Go.Proofs.YtdnodaoeflbfkaaGreat
/- Right values: the program's reading of their fields, and their size. -/
namespace Go.Proofs.YtdnodaoeflbfkaaGreat
open Go.RowKit Go.BigFrame
set_option linter.unusedVariables false

set_option maxHeartbeats 3200000 in
theorem fieldsOk_any (kd : Int) (tx : ByteArray) (nm : Int) (ks : List ByteArray) (m : Nat) (a a' : Option Addr) (cap cap' : Nat) (w : World) (hk : tx.size ≤ maxLen) (hl : ks.length ≤ maxLen) (hm : m ≤ maxLen) (hrow : strOf w a ks) :
    Calls Tryz.prog 242 #[.agg #[.int .i64 kd, .string tx, .int .i64 nm, .slice a ks.length cap, .slice a' m cap']] w fun e w' => e = .returned (.bool (hdB kd tx nm ks m)) ∧ Below w.heap.size w w' := by
  have Htx : Hid (∀ wx, Calls Tryz.prog 250 #[.string tx] wx fun e w' => e = .returned (.bool (txB tx)) ∧ w' = wx) := fun wx => itext_any tx wx hk
  have Hks : Hid (∀ (L : Nat) wx, L = ks.length → Below w.heap.size w wx → Calls Tryz.prog 149 #[.slice a L cap] wx fun e w' => e = .returned (.bool (valsB ks)) ∧ Below wx.heap.size wx w') :=
    fun L wx hL hx => by subst hL; exact iasc_any a cap ks wx hl (hrow.below hx)
  have he := empty_beq tx
  unfold maxLen at hl hm
  have HA : Hid (∀ o, Below w.heap.size w (w.alloc o)) := fun o => (Below.refl _ _).alloc (Nat.le_refl _) _
  have HR : Hid (∀ r : Bool, hdB kd tx nm ks m = r → Ending.returned (.bool r) = .returned (.bool (hdB kd tx nm ks m))) := fun r h => by rw [h]
  clear hrow hk
  obtain ⟨t1, h1⟩ : ∃ t, decide (tx.size = 0) = t := ⟨_, rfl⟩
  obtain ⟨t2, h2⟩ : ∃ t, (nm == 0) = t := ⟨_, rfl⟩
  obtain ⟨t3, h3⟩ : ∃ t, ((ks.length : Int) == 0) = t := ⟨_, rfl⟩
  obtain ⟨t4, h4⟩ : ∃ t, ((m : Int) == 0) = t := ⟨_, rfl⟩
  have g2 : decide (nm = 0) = t2 := by rw [← h2]; rfl
  have g3 : decide (ks.length = 0) = t3 := by rw [← h3, Bool.eq_iff_iff]; simp
  have g4 : decide (m = 0) = t4 := by rw [← h4, Bool.eq_iff_iff]; simp
  rw [h1] at he
  have G := hide (And.intro h1 (And.intro g2 (And.intro g3 g4)))
  clear h1 g2 g3 g4
  by_cases k1 : kd = 1
  · subst k1
    obtain ⟨T, hT⟩ : ∃ t, txB tx = t := ⟨_, rfl⟩
    rw [hT] at Htx
    have E : Hid (hdB 1 tx nm ks m = (T && t2 && t3 && t4)) := by show _ = _; rw [hdB1, hT, G.out.2.1, G.out.2.2.1, G.out.2.2.2]
    clear G HR
    go_enter Tryz.func242, Tryz.ntmps242
    go_wp2
    go_quiet (fail)
    go_wp2
    go_quiet (fail)
    clear Hks hT
    cases T <;> cases t2 <;> cases t3 <;> cases t4
    all_goals go_wp2_with (go_at_call 250; refine (Htx.out _).mono ?_; rintro e w' ⟨rfl, rfl⟩)
    all_goals go_ret
    all_goals exact ⟨ret_bool (by rw [E.out]; rfl), by repeat (first | exact HA.out _ | refine below_drewN ?_ _)⟩
  by_cases k2 : kd = 2
  · subst k2
    have E : Hid (hdB 2 tx nm ks m = (t1 && t3 && t4)) := by show _ = _; rw [hdB2, G.out.1, G.out.2.2.1, G.out.2.2.2]
    clear G HR
    go_enter Tryz.func242, Tryz.ntmps242
    go_wp2
    go_quiet (fail)
    go_wp2
    go_quiet (fail)
    cases t1 <;> cases t3 <;> cases t4
    all_goals go_wp2
    all_goals go_ret
    all_goals exact ⟨ret_bool (by rw [E.out]; rfl), by repeat (first | exact HA.out _ | refine below_drewN ?_ _)⟩
  by_cases k3 : kd = 3
  · subst k3
    obtain ⟨t5, h5⟩ : ∃ t, (nm == 1) = t := ⟨_, rfl⟩
    have g5 : decide (nm = 0 ∨ nm = 1) = (t2 || t5) := by rw [← h5, ← h2, Bool.eq_iff_iff]; simp
    have E : Hid (hdB 3 tx nm ks m = (t1 && (t2 || t5) && t3 && t4)) := by show _ = _; rw [hdB3, G.out.1, g5, G.out.2.2.1, G.out.2.2.2]
    clear G HR
    go_enter Tryz.func242, Tryz.ntmps242
    go_wp2
    go_quiet (fail)
    go_wp2
    go_quiet (fail)
    clear g5
    cases t1 <;> cases t3 <;> cases t4 <;> cases t2 <;> cases t5
    all_goals go_wp2
    all_goals go_ret
    all_goals exact ⟨ret_bool (by rw [E.out]; rfl), by repeat (first | exact HA.out _ | refine below_drewN ?_ _)⟩
  by_cases k4 : kd = 4
  · subst k4
    have E : Hid (hdB 4 tx nm ks m = (t1 && t2 && t3)) := by show _ = _; rw [hdB4, G.out.1, G.out.2.1, G.out.2.2.1]
    clear G HR
    go_enter Tryz.func242, Tryz.ntmps242
    go_wp2
    go_quiet (fail)
    go_wp2
    go_quiet (fail)
    cases t1 <;> cases t2 <;> cases t3
    all_goals go_wp2
    all_goals go_ret
    all_goals exact ⟨ret_bool (by rw [E.out]; rfl), by repeat (first | exact HA.out _ | refine below_drewN ?_ _)⟩
  by_cases k5 : kd = 5
  · subst k5
    obtain ⟨T, hT⟩ : ∃ t, valsB ks = t := ⟨_, rfl⟩
    rw [hT] at Hks
    obtain ⟨t5, h5⟩ : ∃ t, ((ks.length : Int) == (m : Int)) = t := ⟨_, rfl⟩
    have g5 : decide (ks.length = m) = t5 := by rw [← h5, Bool.eq_iff_iff]; simp; omega
    have E : Hid (hdB 5 tx nm ks m = (t1 && t2 && t5 && T)) := by show _ = _; rw [hdB5, G.out.1, G.out.2.1, g5, hT]
    clear G HR g5 hT
    obtain ⟨L, hL⟩ : ∃ L, ks.length = L := ⟨_, rfl⟩
    rw [hL] at h3 h5 hl ⊢
    have HL := hide hL.symm
    have HC : Hid (∀ wx, Below w.heap.size w wx → Calls Tryz.prog 149 #[.slice a L cap] wx fun e w' => e = .returned (.bool T) ∧ Below w.heap.size w w') := fun wx hx => (Hks.out L wx HL.out hx).mono fun e w' h => ⟨h.1, hx.trans (h.2.mono hx.size)⟩
    clear Hks hL HL
    go_enter Tryz.func242, Tryz.ntmps242
    go_wp2
    go_quiet (fail)
    go_wp2
    go_quiet (fail)
    cases t1 <;> cases t2 <;> cases t5
    all_goals go_wp2_with (go_at_call 149; refine (HC.out _ (by repeat (first | exact HA.out _ | refine below_drewN ?_ _))).mono ?_; rintro e w1 ⟨rfl, hb⟩)
    all_goals go_ret
    all_goals exact ⟨ret_bool (by rw [E.out]; rfl), by repeat (first | assumption | exact HA.out _ | refine below_drewN ?_ _)⟩
  have E := hide (hdB0 k1 k2 k3 k4 k5 tx nm ks m)
  have j1 : (kd == 1) = false := by simpa using k1
  have j2 : (kd == 2) = false := by simpa using k2
  have j3 : (kd == 3) = false := by simpa using k3
  have j4 : (kd == 4) = false := by simpa using k4
  have j5 : (kd == 5) = false := by simpa using k5
  clear G HR k1 k2 k3 k4 k5
  go_enter Tryz.func242, Tryz.ntmps242
  go_wp2
  go_quiet (fail)
  go_wp2
  go_quiet (fail)
  go_wp2
  go_ret
  exact ⟨ret_bool E.out.symm, by repeat (first | exact HA.out _ | refine below_drewN ?_ _)⟩
end Go.Proofs.YtdnodaoeflbfkaaGreat
/- Right values: the program's size of them; both SizeOf and both ValueOk. -/
namespace Go.Proofs.YtdnodaoeflbfkaaGreat
open Go.RowKit Go.BigFrame
set_option linter.unusedVariables false

def withinC (n : Nat) : Prop := ∀ (v : VT n) (x : Value) (d m : Nat) (w : World), okVT n v → valArg w 0 n x v → d ≤ 100 → m ≤ 300 →
  Calls Tryz.prog 220 #[x, .int .i64 d, .int .i64 m] w fun e w' => e = .returned (.int .i64 (upTo (tsz n d v) m : Nat)) ∧ Below w.heap.size w w'
set_option maxHeartbeats 1600000 in
theorem within_of {n : Nat} (ih : withinC n) : withinC (n + 1) := by
  intro v X d m w hok harg hd hm
  obtain ⟨kd, tx, nm, ks, kids, rfl⟩ := VT.parts v
  obtain ⟨a, cap, a', cap', rfl, ⟨hrow, hf⟩, hkids, hf'⟩ := harg
  obtain ⟨hk, hl, hz, hkl, hkz⟩ := hok
  simp only [VT.hd_mk, VT.kids_mk] at *
  have Hfld : Hid (∀ wx, Below w.heap.size w wx → Calls Tryz.prog 242 #[.agg #[.int .i64 kd, .string tx, .int .i64 nm, .slice a ks.length cap, .slice a' kids.length cap']] wx fun e w' => e = .returned (.bool (hdB kd tx nm ks kids.length)) ∧ Below wx.heap.size wx w') :=
    fun wx hx => fieldsOk_any kd tx nm ks kids.length a a' cap cap' wx hk hl hkl (hrow.of.below hx)
  unfold maxLen at hkl
  have HA : Hid (∀ o, Below w.heap.size w (w.alloc o)) := fun o => (Below.refl _ _).alloc (Nat.le_refl _) _
  cases d with
  | zero =>
    have E : Hid (upTo (tsz (n + 1) 0 (VT.mk ⟨kd, tx, nm, ks⟩ kids)) m = 0) := by show _ = _; unfold upTo; rw [show tsz (n + 1) 0 (VT.mk ⟨kd, tx, nm, ks⟩ kids) = 0 from rfl]; split <;> rfl
    clear hrow hf hkids hf' hk hl hz hkl hkz ih Hfld
    go_enter Tryz.func220, Tryz.ntmps220
    go_wp2
    go_ret
    exact ⟨ret_int (by rw [E.out]; rfl), HA.out _⟩
  | succ d =>
  have E : Hid (tsz (n + 1) (d + 1) (VT.mk ⟨kd, tx, nm, ks⟩ kids) = if hdB kd tx nm ks kids.length then addL (tsz n d) kids 1 else 0) := rfl
  generalize tsz (n + 1) (d + 1) (VT.mk ⟨kd, tx, nm, ks⟩ kids) = T at *
  have Hk := hide hkids
  have Hkz := hide hkz
  have Hi := hide ih
  obtain ⟨D, hD⟩ : ∃ D, d + 1 = D := ⟨_, rfl⟩
  have Hd : Hid (d + 1 ≤ 100 ∧ d + 1 = D) := ⟨hd, hD⟩
  rw [hD]
  have qD : ((D : Int) == 0) = false := by simp; omega
  have hD0 : 0 < D := by omega
  have hD1 : D ≤ 100 := by omega
  clear hrow hf hkids hf' hk hl hz hkz ih hD hd
  by_cases hmost : m ≤ kids.length
  · have Hg : Hid (upTo T m = 0) := by
      show _ = _
      rw [E.out]
      split
      · rcases addL_ge (f := tsz n d) kids 1 with h | h
        · rw [h]; unfold upTo; split <;> rfl
        · exact upTo_no (by omega)
      · unfold upTo; split <;> rfl
    have hmost' : (m : Int) ≤ (kids.length : Int) := by omega
    clear E hmost Hfld Hk Hkz Hi Hd
    go_enter Tryz.func220, Tryz.ntmps220
    go_wp2
    go_ret
    exact ⟨ret_int (by rw [Hg.out]; rfl), HA.out _⟩
  have hmost' : (kids.length : Int) < (m : Int) := by omega
  cases hb : hdB kd tx nm ks kids.length
  · rw [hb] at Hfld E
    have Hg : Hid (upTo T m = 0) := by show _ = _; rw [E.out.trans (if_neg (by decide))]; unfold upTo; split <;> rfl
    clear E hmost Hk Hkz Hi Hd hb
    go_enter Tryz.func220, Tryz.ntmps220
    go_wp2_with fail
    refine (Hfld.out _ (HA.out _)).mono ?_
    rintro e w1 ⟨rfl, hb1⟩
    go_wp2
    go_ret
    exact ⟨ret_int (by rw [Hg.out]; rfl), (HA.out _).trans (hb1.mono (by simp))⟩
  rw [hb] at Hfld E
  replace E := hide (E.out.trans (if_pos rfl))
  clear hb
  go_enter Tryz.func220, Tryz.ntmps220
  go_wp2_with fail
  refine (Hfld.out _ (HA.out _)).mono ?_
  rintro e w1 ⟨rfl, hb1⟩
  have p4 : w1.cell? ⟨w.heap.size, 4, none⟩ = some (.slice a' kids.length cap') := (hb1.cell (p := ⟨w.heap.size, 4, none⟩) (by simp)).trans (by simp [go_sem])
  have hb1 : Below w.heap.size w w1 := (HA.out _).trans (hb1.mono (by simp))
  go_wp2
  go_loopw [7, 28] (fun s i wr => ∃ (k N : Nat), k ≤ kids.length ∧ i = .int .i64 k ∧ s = .int .i64 N ∧ 1 ≤ N ∧ N ≤ m ∧ Hid (addL (tsz n d) (kids.drop k) N = addL (tsz n d) kids 1) ∧ Below w.heap.size w wr) (fun _ i _ => kids.length - (intOf i).toNat)
  case atStart => exact ⟨0, 1, Nat.zero_le _, rfl, rfl, by omega, by omega, rfl, hb1⟩
  case round =>
    obtain ⟨k, N, hk, rfl, rfl, hN0, hN1, Hx, hbw⟩ := hrel
    by_cases hlt : k < kids.length
    · obtain ⟨b, off, rfl, _, hat⟩ := Hk.out (by omega)
      have hv := (hat k hlt).below hbw
      have hz := (Hkz.out _ (List.getElem_mem hlt))
      have hn := addL_drop (tsz n d) kids k hlt N
      have hge := addL_ge (f := tsz n d) (kids.drop (k + 1)) (N + tsz n d (kids[k]'hlt))
      cases n with
      | zero => exact hv.elim
      | succ n =>
      obtain ⟨KD, TX, NM, KS, KIDS, hkv⟩ := VT.parts (kids[k]'hlt)
      rw [hkv] at hv hz hn hge
      clear hkv hat
      have hcon := fun (X : Value) (z q : Int) (wx : World) (hzz : z = (D : Int) - 1) (hqq : q = (m : Int) - (N : Int)) (hx : valArg wx 0 (n + 1) X (VT.mk ⟨KD, TX, NM, KS⟩ KIDS)) => (show z = (d : Int) by have := Hd.out; omega) ▸ (show q = ((m - N : Nat) : Int) by omega) ▸ Hi.out (VT.mk ⟨KD, TX, NM, KS⟩ KIDS) X d (m - N) wx hz hx (by have := Hd.out; omega) (by omega)
      generalize tsz (n + 1) d (VT.mk ⟨KD, TX, NM, KS⟩ KIDS) = y at *
      obtain ⟨h0c, h1c, h2c, ⟨av, capv, h3c, h3d⟩, al, capl, h4c, h4d⟩ := hv
      have Hdd : Hid (valArg wr 0 (n + 1) (.agg #[.int .i64 KD, .string TX, .int .i64 NM, .slice av KS.length capv, .slice al KIDS.length capl]) (VT.mk ⟨KD, TX, NM, KS⟩ KIDS)) := ⟨_, _, _, _, rfl, h3d, h4d⟩
      simp only [VT.hd_mk, VT.kids_mk] at h0c h1c h2c h3c h4c
      clear h3d h4d hz
      have hgone : Hid (y = 0 ∨ m < N + y → upTo T m = 0) := by
        intro h
        rw [E.out, ← Hx.out, hn]
        split
        · unfold upTo; split <;> rfl
        · rcases hge with h' | h'
          · rw [h']; unfold upTo; split <;> rfl
          · exact upTo_no (by omega)
      have Hal : Hid (∀ o, Below wr.heap.size wr (wr.alloc o)) := fun o => (Below.refl _ _).alloc (Nat.le_refl _) _
      by_cases hy0 : upTo y (m - N) = 0
      · rw [hy0] at hcon
        have Hcon := hide hcon
        have Hg : Hid (upTo T m = 0) := hgone.out (by
          by_cases h0 : y = 0
          · exact .inl h0
          · right
            unfold upTo at hy0
            split at hy0 <;> omega)
        clear hcon hgone hn hge Hx
        go_wp2_with fail
        refine (Hcon.out _ _ _ _ (by first | rfl | omega) (by first | rfl | omega) (Hdd.out.below (Hal.out _))).mono ?_
        rintro e w2 ⟨rfl, hb⟩
        go_wp2
        go_ret
        exact ⟨ret_int (by rw [Hg.out]; rfl), hbw.trans (((Hal.out _).trans (hb.mono (by simp))).mono hbw.size)⟩
      · have hyy : y ≤ m - N ∧ y ≠ 0 := by unfold upTo at hy0; split at hy0 <;> omega
        rw [upTo_of hyy.1] at hcon
        have Hcon := hide hcon
        have Hn : Hid (addL (tsz (n + 1) d) (kids.drop (k + 1)) (N + y) = addL (tsz (n + 1) d) kids 1) := by rw [← Hx.out, hn, if_neg hyy.2]; rfl
        have q0 : ((y : Int) == 0) = false := by simp; omega
        have q1 : (N : Int) + (y : Int) ≤ 300 := by omega
        clear hcon hgone hn hge Hx
        go_wp2_with fail
        refine (Hcon.out _ _ _ _ (by first | rfl | omega) (by first | rfl | omega) (Hdd.out.below (Hal.out _))).mono ?_
        rintro e w2 ⟨rfl, hb⟩
        go_wp2
        go_roundw
        case rel => exact ⟨k + 1, N + y, by omega, by go_num, by go_num, by omega, by omega, Hn, hbw.trans (((Hal.out _).trans (hb.mono (by simp))).mono hbw.size)⟩
        case measure => simp [intOf]; omega
    · have e : k = kids.length := by omega
      subst e
      have Hn : Hid (upTo T m = N) := by show _ = _; rw [E.out, ← Hx.out, List.drop_length]; exact upTo_of hN1
      clear Hx Hk Hkz Hi E Hd hlt hk
      go_wp2
      go_ret
      exact ⟨ret_int (by rw [Hn.out]), hbw⟩
theorem within_any : ∀ n, withinC n
  | 0 => fun v => nomatch v
  | n + 1 => within_of (within_any n)
end Go.Proofs.YtdnodaoeflbfkaaGreat
/- Right values: both SizeOf and both ValueOk. -/
namespace Go.Proofs.YtdnodaoeflbfkaaGreat
open Go.RowKit Go.BigFrame
set_option linter.unusedVariables false

def sizB (n : Nat) (v : VT n) : Nat := upTo (tsz n 6 v) 300
def vokB (n : Nat) (v : VT n) : Bool := decide ((0 : Int) < (sizB n v : Nat))
theorem sValueOk_any {n : Nat} (v : VT n) (x : Value) (w : World) (hok : okVT n v) (hx : valArg w 0 n x v) : Calls Tryz.prog 109 #[x] w fun e w' => e = .returned (.bool (vokB n v)) ∧ Below w.heap.size w w' := by
  cases n with
  | zero => exact hx.elim
  | succ n =>
  obtain ⟨kd, tx, nm, ks, kids, rfl⟩ := VT.parts v
  obtain ⟨a, cap, a', cap', rfl, hx1, hx2⟩ := hx
  have HC : Hid (∀ wx, Below w.heap.size w wx → Calls Tryz.prog 179 #[.agg #[.int .i64 kd, .string tx, .int .i64 nm, .slice a ks.length cap, .slice a' kids.length cap'], .int .i64 6] wx fun e w' => e = .returned (.int .i64 (upTo (tsz (n + 1) 6 (VT.mk ⟨kd, tx, nm, ks⟩ kids)) 300 : Nat)) ∧ Below w.heap.size w w') :=
    fun wx hb => (look_any (n + 1) (VT.mk ⟨kd, tx, nm, ks⟩ kids) _ 6 wx hok (valArg.below (n := n + 1) (v := VT.mk ⟨kd, tx, nm, ks⟩ kids) ⟨_, _, _, _, rfl, hx1, hx2⟩ hb) (by omega)).mono fun e w' h => ⟨h.1, hb.trans (h.2.mono hb.size)⟩
  clear hok hx1 hx2
  unfold vokB sizB
  generalize upTo (tsz (n + 1) 6 (VT.mk ⟨kd, tx, nm, ks⟩ kids)) 300 = N at *
  go_enter Tryz.func109, Tryz.ntmps109
  go_wp2_with fail
  refine (HC.out _ (by repeat (first | exact Below.refl _ _ | refine Below.alloc ?_ (Nat.le_refl _) _))).mono ?_
  rintro e w1 ⟨rfl, hb1⟩
  go_wp2
  go_ret
  exact ⟨ret_bool (by simp), hb1⟩
theorem iSizeOf_any {n : Nat} (v : VT n) (x : Value) (w : World) (hok : okVT n v) (hx : valArg w 0 n x v) : Calls Tryz.prog 182 #[x] w fun e w' => e = .returned (.int .i64 (sizB n v : Nat)) ∧ Below w.heap.size w w' := by
  cases n with
  | zero => exact hx.elim
  | succ n =>
  obtain ⟨kd, tx, nm, ks, kids, rfl⟩ := VT.parts v
  obtain ⟨a, cap, a', cap', rfl, hx1, hx2⟩ := hx
  have HC : Hid (∀ wx, Below w.heap.size w wx → Calls Tryz.prog 220 #[.agg #[.int .i64 kd, .string tx, .int .i64 nm, .slice a ks.length cap, .slice a' kids.length cap'], .int .i64 6, .int .i64 300] wx fun e w' => e = .returned (.int .i64 (upTo (tsz (n + 1) 6 (VT.mk ⟨kd, tx, nm, ks⟩ kids)) 300 : Nat)) ∧ Below w.heap.size w w') :=
    fun wx hb => (within_any (n + 1) (VT.mk ⟨kd, tx, nm, ks⟩ kids) _ 6 300 wx hok (valArg.below (n := n + 1) (v := VT.mk ⟨kd, tx, nm, ks⟩ kids) ⟨_, _, _, _, rfl, hx1, hx2⟩ hb) (by omega) (by omega)).mono fun e w' h => ⟨h.1, hb.trans (h.2.mono hb.size)⟩
  clear hok hx1 hx2
  unfold sizB
  generalize upTo (tsz (n + 1) 6 (VT.mk ⟨kd, tx, nm, ks⟩ kids)) 300 = N at *
  go_enter Tryz.func182, Tryz.ntmps182
  go_wp2_with fail
  refine (HC.out _ (by repeat (first | exact Below.refl _ _ | refine Below.alloc ?_ (Nat.le_refl _) _))).mono ?_
  rintro e w1 ⟨rfl, hb1⟩
  go_wp2
  go_ret
  exact ⟨rfl, hb1⟩
theorem iValueOk_any {n : Nat} (v : VT n) (x : Value) (w : World) (hok : okVT n v) (hx : valArg w 0 n x v) : Calls Tryz.prog 118 #[x] w fun e w' => e = .returned (.bool (vokB n v)) ∧ Below w.heap.size w w' := by
  cases n with
  | zero => exact hx.elim
  | succ n =>
  obtain ⟨kd, tx, nm, ks, kids, rfl⟩ := VT.parts v
  obtain ⟨a, cap, a', cap', rfl, hx1, hx2⟩ := hx
  have HC : Hid (∀ wx, Below w.heap.size w wx → Calls Tryz.prog 182 #[.agg #[.int .i64 kd, .string tx, .int .i64 nm, .slice a ks.length cap, .slice a' kids.length cap']] wx fun e w' => e = .returned (.int .i64 (sizB (n + 1) (VT.mk ⟨kd, tx, nm, ks⟩ kids) : Nat)) ∧ Below w.heap.size w w') :=
    fun wx hb => (iSizeOf_any (VT.mk ⟨kd, tx, nm, ks⟩ kids) _ wx hok (valArg.below (n := n + 1) (v := VT.mk ⟨kd, tx, nm, ks⟩ kids) ⟨_, _, _, _, rfl, hx1, hx2⟩ hb)).mono fun e w' h => ⟨h.1, hb.trans (h.2.mono hb.size)⟩
  clear hok hx1 hx2
  unfold vokB
  generalize sizB (n + 1) (VT.mk ⟨kd, tx, nm, ks⟩ kids) = N at *
  go_enter Tryz.func118, Tryz.ntmps118
  go_wp2_with fail
  refine (HC.out _ (by repeat (first | exact Below.refl _ _ | refine Below.alloc ?_ (Nat.le_refl _) _))).mono ?_
  rintro e w1 ⟨rfl, hb1⟩
  go_wp2
  go_ret
  exact ⟨ret_bool (by simp), hb1⟩
end Go.Proofs.YtdnodaoeflbfkaaGreat
/- Values as cells and values as trees: the one out of the other; both ValueOk on cells. -/
namespace Go.Proofs.YtdnodaoeflbfkaaGreat
open Go.RowKit Go.BigFrame
set_option linter.unusedVariables false

theorem strB_of {w : World} {lo hi n : Nat} {c : UD} {a : Option Addr} {cap : Nat} (ht : tyS 1 n c 0) (h : uS w lo hi 1 n c (.slice a n cap)) : strB w 0 a (strL c) ∧ fits a (strL c).length cap ∧ (strL c).length = n := by
  obtain ⟨h1, h2⟩ := strL_get c 0 ht.2.2.2.2
  have hl : (strL c).length = n := by rw [h1, ht.2.2.2.1, Nat.mul_one]
  have h' := h
  obtain ⟨a', cap', e, g1, g2⟩ := h'
  cases e
  refine ⟨fun hp => ?_, by rw [hl]; exact ⟨g1.1, g1.2.1⟩, hl⟩
  obtain ⟨b, off, rfl, -, hm⟩ := h.cells (by omega)
  refine ⟨b, off, rfl, Nat.zero_le _, fun i hi => ?_⟩
  obtain ⟨c', q1, q2⟩ := hm.get i _ (h2 i hi).1
  rw [q1, show c' = _ from q2]
/-- a value as cells and the same one as a tree -/
def Br : (N : Nat) → UD → VT N → Prop
  | 0, _, _ => False
  | N + 1, d, v => ∃ (z0 : Int) (z1 : ByteArray) (z2 : Int) (n3 : Nat) (c3 : UD) (n4 : Nat) (c4 : UD), d = .p (.int .i64 z0) (.p (.string z1) (.p (.int .i64 z2) (.l 1 n3 c3 (.l 5 n4 c4 .nil)))) ∧ v.hd = ⟨z0, z1, z2, strL c3⟩ ∧ v.kids.length = n4 ∧
    ∀ i (h : i < v.kids.length), Br N (rowU c4 5 i) v.kids[i]
theorem bridge : ∀ (N : Nat) (d : UD), uszD d < N → tyL d (uE 6) → ∃ v : VT N, okVT N v ∧ Br N d v ∧ ∀ (w : World) (lo hi : Nat) (xs : List Value), uH w lo hi d xs → valArg w 0 N (.agg xs.toArray) v := by
  intro N
  induction N with
  | zero => intro d h; omega
  | succ N ih =>
    intro d hN ht
    obtain ⟨z0, z1, z2, n3, c3, n4, c4, rfl, g0, g1, g2, g3, g4⟩ := partsValue ht
    simp only [uszD] at hN
    have each : ∀ i, i < n4 → ∃ q : VT N, okVT N q ∧ Br N (rowU c4 5 i) q ∧ ∀ (w : World) (lo hi : Nat) (xs : List Value), uH w lo hi (rowU c4 5 i) xs → valArg w 0 N (.agg xs.toArray) q := fun i hi =>
      ih (rowU c4 5 i) (by have := uszD_row c4 5 i; omega) (g4.row hi)
    obtain ⟨ss, hs1, hs2, hs3⟩ : ∃ ss : List ByteArray, ss = strL c3 ∧ ss.length = n3 ∧ okStrs ss := by
      obtain ⟨h1, h2⟩ := strL_get c3 0 g3.2.2.2.2
      refine ⟨_, rfl, by rw [h1, g3.2.2.2.1, Nat.mul_one], fun s hs => ?_⟩
      obtain ⟨j, hj, rfl⟩ := List.mem_iff_getElem.1 hs
      exact (h2 j hj).2
    have mk : ∀ (kids : List (VT N)) (hkl : kids.length = n4) (hq : ∀ i (h : i < kids.length), okVT N kids[i] ∧ Br N (rowU c4 5 i) kids[i] ∧ ∀ (w : World) (lo hi : Nat) (xs : List Value), uH w lo hi (rowU c4 5 i) xs → valArg w 0 N (.agg xs.toArray) kids[i]),
        ∃ v : VT (N + 1), okVT (N + 1) v ∧ Br (N + 1) (.p (.int .i64 z0) (.p (.string z1) (.p (.int .i64 z2) (.l 1 n3 c3 (.l 5 n4 c4 .nil))))) v ∧ ∀ (w : World) (lo hi : Nat) (xs : List Value), uH w lo hi (.p (.int .i64 z0) (.p (.string z1) (.p (.int .i64 z2) (.l 1 n3 c3 (.l 5 n4 c4 .nil))))) xs → valArg w 0 (N + 1) (.agg xs.toArray) v := by
      intro kids hkl hq
      refine ⟨VT.mk ⟨z0, z1, z2, ss⟩ kids, ⟨g1, by rw [VT.hd_mk, hs2]; exact g3.2.2.1, hs3, by rw [VT.kids_mk, hkl]; exact g4.2.2.1, fun x hx => ?_⟩, ⟨z0, z1, z2, n3, c3, n4, c4, rfl, by rw [hs1]; rfl, hkl, fun i h => (hq i h).2.1⟩, fun w lo hi xs h => ?_⟩
      · obtain ⟨j, hj, rfl⟩ := List.mem_iff_getElem.1 (show x ∈ kids from hx)
        exact (hq j hj).1
      · obtain ⟨_, rfl, ⟨_, rfl, ⟨_, rfl, ⟨v3, _, rfl, s3, ⟨v4, _, rfl, s4, rfl⟩⟩⟩⟩⟩ := h
        obtain ⟨a3, p3, rfl, t3⟩ := s3
        obtain ⟨a4, p4, rfl, t4⟩ := s4
        have H3 : uS w lo hi 1 n3 c3 (.slice a3 n3 p3) := ⟨_, _, rfl, t3⟩
        have H4 : uS w lo hi 5 n4 c4 (.slice a4 n4 p4) := ⟨_, _, rfl, t4⟩
        obtain ⟨q1, q2, q3⟩ := strB_of g3 H3
        rw [← hs1] at q1 q2
        refine ⟨a3, p3, a4, p4, by rw [VT.hd_mk, VT.kids_mk, hs2, hkl], ⟨q1, by rw [VT.hd_mk]; exact q2⟩, fun hp => ?_, by rw [VT.kids_mk, hkl]; exact ⟨t4.1.1, t4.1.2.1⟩⟩
        rw [VT.kids_mk] at hp
        obtain ⟨b, off, rfl, -, hm⟩ := H4.cells (by omega)
        refine ⟨b, off, rfl, Nat.zero_le _, fun i hi => ?_⟩
        have hi' : i < kids.length := hi
        obtain ⟨ys, hh, hc⟩ := (hm.row 5 i).hand
        have hv := (hq i hi').2.2 w lo _ ys hh
        have ht5 := g4.row (show i < n4 by omega)
        obtain ⟨y0, y1, y2, m3, e3, m4, e4, hR, -, -, -, -, -⟩ := partsValue ht5
        rw [hR] at hh
        obtain ⟨_, rfl, ⟨_, rfl, ⟨_, rfl, ⟨v3, _, rfl, s3, ⟨v4, _, rfl, s4, rfl⟩⟩⟩⟩⟩ := hh
        show vatAt w 0 N b (off + i * 5) kids[i]
        cases N with
        | zero => exact hv.elim
        | succ N =>
          obtain ⟨a1, c1, a2, c2, e, k1, k2, k3⟩ := hv
          have e' : ([.int .i64 y0, .string y1, .int .i64 y2, v3, v4] : List Value) = [.int .i64 kids[i].hd.kd, .string kids[i].hd.tx, .int .i64 kids[i].hd.nm, .slice a1 kids[i].hd.ks.length c1, .slice a2 kids[i].kids.length c2] := by
            have := Value.agg.inj e
            simpa using this
          simp only [List.cons.injEq, and_true] at e'
          obtain ⟨e0, e1, e2, e3, e4⟩ := e'
          exact ⟨(hc 0 _ rfl).trans (by rw [e0]), (hc 1 _ rfl).trans (by rw [e1]), (hc 2 _ rfl).trans (by rw [e2]), ⟨a1, c1, (hc 3 _ rfl).trans (by rw [e3]), k1⟩, a2, c2, (hc 4 _ rfl).trans (by rw [e4]), k2, k3⟩
    rcases Nat.eq_zero_or_pos n4 with h0 | hp
    · exact mk [] (by simpa using h0.symm) (fun i h => by cases h)
    · obtain ⟨q0, _⟩ := each 0 hp
      have : Inhabited (VT N) := ⟨q0⟩
      obtain ⟨q, hq⟩ := Go.Deep.choose_lt each
      exact mk ((List.range n4).map q) (by simp) (fun i h => by
        have hi : i < n4 := by simpa using h
        simpa using hq i hi)
/-- right values, as cells -/
def rgtU : Nat → UD → Prop
  | 0, _ => False
  | N + 1, d => ∃ (z0 : Int) (z1 : ByteArray) (z2 : Int) (n3 : Nat) (c3 : UD) (n4 : Nat) (c4 : UD), d = .p (.int .i64 z0) (.p (.string z1) (.p (.int .i64 z2) (.l 1 n3 c3 (.l 5 n4 c4 .nil)))) ∧ hdB z0 z1 z2 (strL c3) n4 = true ∧ ∀ i, i < n4 → rgtU N (rowU c4 5 i)
theorem addL_each {α : Type} {f : α → Nat} : ∀ (l : List α) (n : Nat), addL f l n ≠ 0 → ∀ x ∈ l, f x ≠ 0
  | [], n, _, x, hx => by cases hx
  | y :: r, n, h, x, hx => by
    unfold addL at h
    split at h
    · exact absurd rfl h
    · rename_i hy
      rcases List.mem_cons.1 hx with rfl | hx
      · exact hy
      · exact addL_each r _ h x hx
theorem rgt_br : ∀ (N dp : Nat) (d : UD) (v : VT N), Br N d v → tsz N dp v ≠ 0 → rgtU N d
  | 0, _, _, _, h, _ => h.elim
  | N + 1, 0, _, _, _, h => absurd rfl h
  | N + 1, dp + 1, d, v, ⟨z0, z1, z2, n3, c3, n4, c4, e, hh, hk, hr⟩, h => by
    rw [tsz_pos, hh, hk] at h
    split at h
    · rename_i hb
      refine ⟨z0, z1, z2, n3, c3, n4, c4, e, hb, fun i hi => ?_⟩
      exact rgt_br N dp _ _ (hr i (by omega)) (addL_each _ _ h _ (List.getElem_mem _))
    · exact absurd rfl h
theorem vok_both (d : UD) (ht : tyL d (uE 6)) : ∃ b : Bool, (b = true → ∃ N, rgtU N d) ∧
    (∀ (w : World) (lo hi : Nat) (xs : List Value), uH w lo hi d xs → Calls Tryz.prog 109 #[.agg xs.toArray] w fun e w' => e = .returned (.bool b) ∧ Below w.heap.size w w') ∧
    (∀ (w : World) (lo hi : Nat) (xs : List Value), uH w lo hi d xs → Calls Tryz.prog 118 #[.agg xs.toArray] w fun e w' => e = .returned (.bool b) ∧ Below w.heap.size w w') := by
  obtain ⟨v, h1, h2, h3⟩ := bridge (uszD d + 1) d (by omega) ht
  refine ⟨vokB _ v, fun hb => ⟨_, rgt_br _ 6 d v h2 ?_⟩, fun w lo hi xs h => sValueOk_any v _ w h1 (h3 w lo hi xs h), fun w lo hi xs h => iValueOk_any v _ w h1 (h3 w lo hi xs h)⟩
  unfold vokB sizB upTo at hb
  rw [decide_eq_true_eq] at hb
  split at hb <;> omega
end Go.Proofs.YtdnodaoeflbfkaaGreat
/- Objects: what is asked of one alone: its numbers, its Waits. -/
namespace Go.Proofs.YtdnodaoeflbfkaaGreat
open Go.RowKit Go.BigFrame
set_option linter.unusedVariables false

def waitsB (ss : List ByteArray) : Bool := valsB ss && decide (ss.length ≤ 4)
theorem fromOne_any (x b : Int) (w : World) : Calls Tryz.prog 172 #[.int .i64 x, .int .i64 b] w fun e w' => e = .returned (.bool (inB x 1 b)) ∧ w' = w := by
  go_enter Tryz.func172, Tryz.ntmps172
  go_wp2
  all_goals go_ret
  all_goals exact ⟨ret_bool (by rw [Bool.eq_iff_iff]; simp [inB]; omega), rfl⟩
theorem iwaits_any (a : Option Addr) (cap : Nat) (ss : List ByteArray) (w : World) (hl : ss.length ≤ maxLen) (hrow : strOf w a ss) :
    Calls Tryz.prog 119 #[.slice a ss.length cap] w fun e w' => e = .returned (.bool (waitsB ss)) ∧ Below w.heap.size w w' := by
  have H := uhide (iasc_any a cap ss w hl hrow)
  unfold waitsB
  clear hrow
  generalize valsB ss = V at *
  generalize ss.length = n at *
  by_cases h4 : n ≤ 4
  · go_enter Tryz.func119, Tryz.ntmps119
    have h4' : ((n : Int) ≤ 4) := by omega
    go_wp2_with fail
    refine H.out.mono ?_
    rintro e w1 ⟨rfl, hb⟩
    go_wp2
    go_ret
    exact ⟨ret_bool (by simp [h4]), hb⟩
  · go_enter Tryz.func119, Tryz.ntmps119
    have h4' : ¬ ((n : Int) ≤ 4) := by omega
    go_wp2
    go_ret
    exact ⟨ret_bool (by simp), Below.refl _ _⟩
set_option maxHeartbeats 800000 in
theorem l7Waits_any (ss : List ByteArray) (a : Option Addr) (cap : Nat) (w : World) (hl : ss.length ≤ maxLen) (hz : okStrs ss) (hrow : strOf w a ss) :
    Calls Tryz.prog 110 #[.slice a ss.length cap] w fun e w' => e = .returned (.bool (waitsB ss)) ∧ Below w.heap.size w w' := by
  unfold maxLen at hl
  have Hr := hide hrow
  have Hz : Hid (∀ i, (ssAt ss i).size ≤ maxLen) := fun i => by
    unfold ssAt
    by_cases hi : i < ss.length
    · rw [List.getElem?_eq_getElem hi]; exact hz _ (List.getElem_mem hi)
    · rw [List.getElem?_eq_none (by omega)]; exact Nat.zero_le _
  clear hrow hz
  go_enter Tryz.func110, Tryz.ntmps110
  go_wp2
  go_loopw [3] (fun i wr => ∃ (k : Nat), k ≤ ss.length ∧ i = .int .i64 k ∧ Hid (∀ j, j < k → okV ss j) ∧ Below w.heap.size w wr) (fun i _ => ss.length - (intOf i).toNat)
  case atStart => exact ⟨0, Nat.zero_le _, rfl, fun j hj => by omega, Below.refl _ _⟩
  case round =>
    obtain ⟨k, hk, rfl, Hx, hbw⟩ := hrel
    by_cases hlt : k < ss.length
    · obtain ⟨b, off, rfl, hat⟩ := Hr.out (by omega)
      have hc := strAt_cells hat
      have hbb : b < w.heap.size := World.block_lt_of_cell? _ _ (hat k hlt)
      have c0 := (hbw.cell (p := ⟨b, off + k, none⟩) hbb).trans (hc k hlt)
      have cp : 0 < k → wr.cell? ⟨b, off + (k - 1), none⟩ = some (.string (ssAt ss (k - 1))) := fun h => (hbw.cell (p := ⟨b, off + (k - 1), none⟩) hbb).trans (hc (k - 1) (by omega))
      have hzK := Hz.out k
      have Hs : Hid (okV ss k → ∀ j, j < k + 1 → okV ss j) := fun h => okV_succ Hx.out h
      have Hb : Hid (¬ okV ss k → waitsB ss = false) := fun h => by unfold waitsB; rw [valsB_bad hlt h, Bool.false_and]
      have hcs := okV_cases ss k
      clear hat hc Hx
      generalize ssAt ss k = K at *
      generalize ssAt ss (k - 1) = P at *
      have hK := fun wx => (sname_any K wx hzK)
      clear hzK
      rcases hcs with ⟨h1, hok⟩ | ⟨h1, h3, hok⟩ | ⟨h1, h3, h4, hok⟩ | ⟨h1, h3, h4, hok⟩
      · rw [h1] at hK
        have HK := hide hK
        have Hn := hide (Hb.out hok.out)
        clear hK h1 cp Hs Hb Hz Hr
        go_wp2
        go_quiet ((go_at_call 127; exact Calls.quiet_of_same (HK.out _)))
        go_wp2
        go_ret
        exact ⟨ret_bool Hn.out.symm, below_drewN hbw _⟩
      · rw [h1] at hK
        have HK := hide hK
        have hk0 : k = 0 := h3.out
        have h3' : decide ((0 : Int) < (k : Int)) = false := by rw [decide_eq_false_iff_not]; omega
        have h3'' : decide (0 < k) = false := by rw [decide_eq_false_iff_not]; omega
        have h3a : (k : Int) ≤ 0 := by omega
        have Hn := hide (Hs.out hok.out)
        clear hK h1 cp h3 hk0 Hs Hb Hz Hr
        go_wp2
        go_quiet ((go_at_call 127; exact Calls.quiet_of_same (HK.out _)))
        go_wp2
        go_roundw
        case rel => exact ⟨k + 1, by omega, by go_num, Hn, below_drewN hbw _⟩
        case measure => simp [intOf]; omega
      · rw [h1] at hK
        have HK := hide hK
        have cp := cp h3
        have h3' : (0 : Int) < (k : Int) := by omega
        have Hn := hide (Hs.out hok.out)
        clear hK h1 Hs Hb Hz Hr
        go_wp2
        go_quiet ((go_at_call 127; exact Calls.quiet_of_same (HK.out _)))
        go_wp2
        go_roundw
        case rel => exact ⟨k + 1, by omega, by go_num, Hn, below_drewN hbw _⟩
        case measure => simp [intOf]; omega
      · rw [h1] at hK
        have HK := hide hK
        have cp := cp h3
        have h3' : (0 : Int) < (k : Int) := by omega
        have Hn := hide (Hb.out hok.out)
        clear hK h1 Hs Hb Hz Hr
        go_wp2
        go_quiet ((go_at_call 127; exact Calls.quiet_of_same (HK.out _)))
        go_wp2
        go_ret
        exact ⟨ret_bool Hn.out.symm, below_drewN hbw _⟩
    · have e : k = ss.length := by omega
      subst e
      have Hv : Hid (waitsB ss = decide (ss.length ≤ 4)) := by show _ = _; unfold waitsB; rw [valsB_end Hx.out, Bool.true_and]
      clear Hx Hr Hz
      go_wp2
      go_ret
      exact ⟨ret_bool (by rw [Hv.out, Bool.eq_iff_iff]; simp; omega), hbw⟩
end Go.Proofs.YtdnodaoeflbfkaaGreat
