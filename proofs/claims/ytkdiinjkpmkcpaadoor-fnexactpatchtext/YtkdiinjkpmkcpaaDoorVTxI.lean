/- The texts of values, by the program. -/
import Derived.Test.YtkdiinjkpmkcpaaDoorVTx
import Derived.Test.YtkdiinjkpmkcpaaDoorVals
import Derived.Test.YtkdiinjkpmkcpaaDoorJn
import Derived.Test.YtkdiinjkpmkcpaaDoorOwnB
import Derived.Lib.SmallJoins
namespace Go.Proofs.YtkdiinjkpmkcpaaDoor
open Go.RowKit Go.BigFrame
set_option linter.unusedVariables false

structure Tbs (m : Int) (w : World) : Prop where
  pow : Lib.TabIs Tryd.prog w "internal/strconv.uint64pow10" .u64 Lib.pow10Tab
  len : w.cell? ⟨1, 0, none⟩ = some (.int .i64 m)
theorem Tbs.below {m : Int} {w w' : World} (h : Tbs m w) (hb : Below w.heap.size w w') : Tbs m w' := by
  refine ⟨?_, (hb.cell (p := ⟨1, 0, none⟩) (World.block_lt_of_cell? _ _ h.len)).trans h.len⟩
  obtain ⟨g, hg⟩ : ∃ g, Tryd.prog.globalNamed "internal/strconv.uint64pow10" = some g := ⟨(Tryd.prog.globalNamed "internal/strconv.uint64pow10").getD 0, by kernel_rfl⟩
  exact Go.Joins.tab_stays hg h.pow hb (Nat.le_refl _)
theorem vbelow_grow (w : World) (k : Nat) (os : Array Obj) : Below w.heap.size w (Sort.grow (w.drewN k) os) := by
  refine ⟨rfl, rfl, rfl, ?_, fun i hi => ?_⟩
  · show w.heap.size ≤ (w.heap ++ os).size
    rw [Array.size_append]; omega
  · show (w.heap ++ os)[i]? = w.heap[i]?
    rw [Array.getElem?_append_left hi]
theorem num_any (n : Int) (m : Int) (w : World) (h0 : -9223372036854775808 ≤ n) (h1 : n ≤ 9223372036854775807) (ht : Tbs m w) :
    Calls Tryd.prog 46 #[.int .i64 n] w fun e w' => e = .returned (.string (numB n)) ∧ Below w.heap.size w w' :=
  (Tryd.strconv_Itoa n h0 h1 w ht.pow).mono fun e w' ⟨h1, k, os, h2⟩ => ⟨h1, by rw [h2]; exact vbelow_grow w k os⟩
theorem fmtB_any (b : Bool) (w : World) : Calls Tryd.prog 47 #[.bool b] w fun e w' => e = .returned (.string (if b then ⟨#[116, 114, 117, 101]⟩ else ⟨#[102, 97, 108, 115, 101]⟩)) ∧ w' = w :=
  (Tryd.strconv_FormatBool b w).mono fun e w' h => ⟨by rw [h.1]; cases b <;> rfl, h.2⟩
theorem vcnt_le (s : ByteArray) (c : UInt8) : Lib.countB s ⟨#[c]⟩ ≤ s.size + 1 := Lib.count_le s.data.toList [c]
theorem escaped_any (s : ByteArray) (m : Int) (w : World) (hs : s.size ≤ 100) (ht : Tbs m w) :
    Calls Tryd.prog 45 #[.string s] w fun e w' => e = .returned (.string (escB s)) ∧ Below w.heap.size w w' := by
  obtain ⟨S, hS⟩ : ∃ S : ByteArray, S = ⟨(s.data.toList.flatMap (dbl 92)).toArray⟩ := ⟨_, rfl⟩
  have hSz : S.size ≤ 200 := by
    rw [hS]; show (s.data.toList.flatMap (dbl 92)).toArray.size ≤ 200
    have : ∀ l : List UInt8, (l.flatMap (dbl 92)).length ≤ 2 * l.length := by
      intro l
      induction l with
      | nil => simp
      | cons x r ih =>
        rw [List.flatMap_cons, List.length_append]
        have : (dbl 92 x).length ≤ 2 := by unfold dbl; split <;> simp
        simp only [List.length_cons]; omega
    have h1 := this s.data.toList
    have h2 : s.data.toList.length = s.size := Array.length_toList
    rw [List.size_toArray]; omega
  have H1 : Hid (∀ wx, Below w.heap.size w wx → Calls Tryd.prog 58 #[.string s, .string ⟨#[92]⟩, .string ⟨#[92, 92]⟩] wx fun e w' => e = .returned (.string S) ∧ Below wx.heap.size wx w') := fun wx hx =>
    (Tryd.strings_ReplaceAll s ⟨#[92]⟩ ⟨#[92, 92]⟩ m wx (by omega) (ht.below hx).len (by decide) (by have := vcnt_le s 92; show _ + _ * 2 ≤ _; omega)).mono fun e w' h => ⟨by rw [h.1, hS, ← repAll_one], h.2⟩
  have H2 : Hid (∀ wx, Below w.heap.size w wx → Calls Tryd.prog 58 #[.string S, .string ⟨#[34]⟩, .string ⟨#[92, 34]⟩] wx fun e w' => e = .returned (.string (escB s)) ∧ Below wx.heap.size wx w') := fun wx hx =>
    (Tryd.strings_ReplaceAll S ⟨#[34]⟩ ⟨#[92, 34]⟩ m wx (by omega) (ht.below hx).len (by decide) (by have := vcnt_le S 34; show _ + _ * 2 ≤ _; omega)).mono fun e w' h => ⟨by
      rw [h.1]
      show Ending.returned (.string ⟨(Lib.replaceAll S.data.toList [34] [92, 34]).toArray⟩) = _
      rw [repAll_one, hS]
      show Ending.returned (.string ⟨((s.data.toList.flatMap (dbl 92)).flatMap (dbl 34)).toArray⟩) = .returned (.string ⟨(s.data.toList.flatMap escC).toArray⟩)
      rw [esc_two], h.2⟩
  clear hS ht
  generalize escB s = R at *
  go_enter Tryd.func45, Tryd.ntmps45
  go_wp2_with fail
  refine (H1.out _ (Below.refl _ _)).mono ?_
  rintro e w1 ⟨rfl, hb1⟩
  go_wp2_with fail
  refine (H2.out _ hb1).mono ?_
  rintro e w2 ⟨rfl, hb2⟩
  go_wp2
  go_ret
  exact ⟨rfl, hb1.trans (hb2.mono hb1.size)⟩
def txC (m : Int) (n : Nat) : Prop := ∀ (v : VT n) (x : Value) (w : World), rgt n v → valArg w 0 n x v → Tbs m w →
  Calls Tryd.prog 29 #[x] w fun e w' => e = .returned (.string (vtx n v)) ∧ Below w.heap.size w w'
theorem kids_snoc {n : Nat} (kids : List (VT n)) (k : Nat) (h : k < kids.length) : strVs ((kids.map (vtx n)).take (k + 1)) = strVs ((kids.map (vtx n)).take k) ++ [.string (vtx n (kids[k]'h))] := by
  rw [take_succ_get _ k (by simpa using h)]
  unfold strVs
  rw [List.map_append]
  simp
set_option maxRecDepth 100000 in
set_option maxHeartbeats 800000 in
theorem kidTexts_of {m : Int} {n : Nat} (ih : txC m n) (kd : Int) (tx : ByteArray) (nm : Int) (ks : List ByteArray) (kids : List (VT n)) (a a' : Option Addr) (cap cap' : Nat) (w : World) (hl : kids.length ≤ 300) (hr : ∀ x ∈ kids, rgt n x) (hkd : valsOf w 0 n a' kids) (ht : Tbs m w) :
    Calls Tryd.prog 48 #[.agg #[.int .i64 kd, .string tx, .int .i64 nm, .slice a ks.length cap, .slice a' kids.length cap']] w fun e w' => ∃ g c, e = .returned (.slice (some ⟨g, 0, none⟩) kids.length c) ∧ kids.length ≤ c ∧ Hid (w'.ownsRow w.heap.size 9 1 (.slice (some ⟨g, 0, none⟩) kids.length c) kids.length (strVs (kids.map (vtx n)))) ∧ Below w.heap.size w w' := by
  obtain ⟨i0, hi0, hz0, hz1, hz2⟩ := info_parts Tryd.infoStr
  have Hk := hide hkd
  have Hr := hide hr
  have Ht := hide ht
  have Hi := hide ih
  have HA : Hid (∀ o, Below w.heap.size w (w.alloc o)) := fun o => (Below.refl _ _).alloc (Nat.le_refl _) _
  clear hkd hr ht ih
  go_enter Tryd.func48, Tryd.ntmps48
  go_wp2
  go_loopw [3, 10] (fun s i wr => ∃ (k : Nat), k ≤ kids.length ∧ i = .int .i64 k ∧ Hid (s ≠ .slice none 0 0) ∧ Hid (wr.ownsRow w.heap.size 9 1 s k (strVs ((kids.map (vtx n)).take k))) ∧ Below w.heap.size w wr) (fun _ i _ => kids.length - (intOf i).toNat)
  case atStart => exact ⟨0, Nat.zero_le _, rfl, (fun h => by cases h), by have h := World.ownsRow_lit (base := w.heap.size) (e := 9) (size := 1) (w.alloc (.cells #[.int .i64 kd, .string tx, .int .i64 nm, .slice a ks.length cap, .slice a' kids.length cap'] 39)) #[] 0 (by simp) (by decide) rfl; rw [World.size_alloc] at h; exact h, (HA.out _).trans (((Below.refl _ _).alloc (Nat.le_refl _) _).mono (by simp))⟩
  case round =>
    obtain ⟨k, hk, rfl, Hnn, How, hbw⟩ := hrel
    by_cases hlt : k < kids.length
    · obtain ⟨b, off, rfl, _, hat⟩ := Hk.out (by omega)
      have hv := (hat k hlt).below hbw
      have hrk := Hr.out _ (List.getElem_mem hlt)
      have Hn := hide (kids_snoc kids k hlt)
      cases n with
      | zero => exact hv.elim
      | succ n =>
      obtain ⟨KD, TX, NM, KS, KIDS, hkv⟩ := VT.parts (kids[k]'hlt)
      rw [hkv] at hv hrk Hn
      clear hkv hat
      obtain ⟨h0c, h1c, h2c, ⟨av, capv, h3c, h3d⟩, al, capl, h4c, h4d⟩ := hv
      have Hcon : Hid (∀ wx, Below wr.heap.size wr wx → Calls Tryd.prog 29 #[.agg #[.int .i64 KD, .string TX, .int .i64 NM, .slice av KS.length capv, .slice al KIDS.length capl]] wx fun e w' => e = .returned (.string (vtx (n + 1) (VT.mk ⟨KD, TX, NM, KS⟩ KIDS))) ∧ Below wx.heap.size wx w') := fun wx hx =>
        Hi.out (VT.mk ⟨KD, TX, NM, KS⟩ KIDS) _ wx hrk (valArg.below (n := n + 1) (v := VT.mk ⟨KD, TX, NM, KS⟩ KIDS) ⟨_, _, _, _, rfl, h3d, h4d⟩ hx) ((Ht.out.below hbw).below hx)
      simp only [VT.hd_mk, VT.kids_mk] at h0c h1c h2c h3c h4c
      clear h3d h4d hrk
      generalize vtx (n + 1) (VT.mk ⟨KD, TX, NM, KS⟩ KIDS) = T at *
      have Hal : Hid (∀ o, Below wr.heap.size wr (wr.alloc o)) := fun o => (Below.refl _ _).alloc (Nat.le_refl _) _
      go_wp2_with fail
      refine (Hcon.out _ (Hal.out _)).mono ?_
      rintro e w2 ⟨rfl, hb2⟩
      have hb2' : Below wr.heap.size wr w2 := (Hal.out _).trans (hb2.mono (by simp))
      have How2 := hide (owns_below_any How.out hb2')
      have hbw2 := hbw.trans (hb2'.mono hbw.size)
      clear hb2 hb2'
      go_wp2_with (at_builtin; refine wpList_append_own _ rfl _ _ 30 rfl w.heap.size 9 i0 _ 1 16 Tryd.underlying30 hi0 hz0 hz1 hz2 rfl (by decide) _ _ _ rfl (How2.out.alloc _) ⟨w2.heap.size, 0, none⟩ 1 1 [.string T] rfl rfl (cell_one_at1 _ _ rfl _ _) (fun x hx => by simp at hx; rcases hx with rfl; rfl) (by unfold maxLen; omega) (by omega) (by have := hbw2.size; simp; omega) ?_; intro v' w3 hown' hgrow3 hnil3)
      go_roundw
      case rel => exact ⟨k + 1, by omega, by go_num, (fun h => Hnn.out (hnil3.1 h).1), (by rw [Hn.out]; exact hown'), Below.grown (hbw2.alloc hbw2.size _) hgrow3 (by have := hbw2.size; simp; omega) (fun j hj => (How.out.lt _ hj).1)⟩
      case measure => simp [intOf]; omega
    · have e : k = kids.length := by omega
      subst e
      obtain ⟨g, cp, hv, hcp⟩ : ∃ g cap, u3 = Value.slice (some ⟨g, 0, none⟩) kids.length cap ∧ kids.length ≤ cap := by
        rcases How.out.2 with ⟨h, _⟩ | ⟨g, cap, cur, h, _, _, hc, _⟩
        · exact absurd h Hnn.out
        · exact ⟨g, cap, h, hc⟩
      subst hv
      have hown := How.out
      rw [List.take_of_length_le (by simp)] at hown
      clear How Hnn Hk Hr Ht Hi
      go_wp2
      go_ret
      exact ⟨g, cp, rfl, hcp, hown, hbw⟩
end Go.Proofs.YtkdiinjkpmkcpaaDoor
