/- The library's stable sort at a row of structs of three numbers, walked. -/
import Derived.Test.YtidjjgiecaoboaaStbT
import Derived.Test.YtidjjgiecaoboaaBas
import Derived.Shelf.SlSortCmp.KitK
import Derived.WalkKit
namespace Go.Proofs.Ytidjjgiecaoboaa
open Go.RowKit Go.Lib Go.Sort Go.BigFrame
set_option linter.unusedVariables false
theorem stMixed : Try.prog.follows .mixedOrders = true := by kernel_rfl
/-- three numbers in a row -/
def enc3 {α : Type} (f : α → Int × Int × Int) (x : α) : List Value := [.int .i64 (f x).1, .int .i64 (f x).2.1, .int .i64 (f x).2.2]
theorem shide {p : Prop} (h : p) : Hid p := h
theorem enc3_len {α : Type} (f : α → Int × Int × Int) (x : α) : (enc3 f x).length = 3 := rfl
theorem enc3_one {α : Type} (f : α → Int × Int × Int) (x : α) : ∀ v ∈ enc3 f x, v.oneCell' = true := fun v hv => by
  simp [enc3] at hv; rcases hv with rfl | rfl | rfl <;> rfl
section
variable {α : Type} [Inhabited α]
theorem holds3 {f : α → Int × Int × Int} {w : World} {blk off : Nat} {d : Array α} (h : HoldsK (enc3 f) 3 w blk off d) (i : Nat) (hi : i < d.size) :
    (w.cell? ⟨blk, off + i * 3, none⟩ = some (.int .i64 (f d[i]!).1) ∧ w.cell? ⟨blk, off + i * 3 + 1, none⟩ = some (.int .i64 (f d[i]!).2.1) ∧ w.cell? ⟨blk, off + i * 3 + 2, none⟩ = some (.int .i64 (f d[i]!).2.2)) ∧
    (w.frozen? ⟨blk, off + i * 3, none⟩ = false ∧ w.frozen? ⟨blk, off + i * 3 + 1, none⟩ = false ∧ w.frozen? ⟨blk, off + i * 3 + 2, none⟩ = false) := by
  have hb := rowK_bnd d 3 i hi
  have hc : ∀ c, c < 3 → w.cell? ⟨blk, off + i * 3 + c, none⟩ = some (enc3 f d[i]!)[c]! ∧ w.frozen? ⟨blk, off + i * 3 + c, none⟩ = false := fun c hc => by
    have h1 := h (i * 3 + c) (by rw [size_flatK]; omega)
    rw [← Nat.add_assoc, get_flatK _ _ _ _ (by omega)] at h1
    rw [show (i * 3 + c) / 3 = i by omega, show (i * 3 + c) % 3 = c by omega] at h1
    exact h1
  exact ⟨⟨(hc 0 (by omega)).1, (hc 1 (by omega)).1, (hc 2 (by omega)).1⟩, (hc 0 (by omega)).2, (hc 1 (by omega)).2, (hc 2 (by omega)).2⟩
/-- what is known of the row, and of the function that compares -/
structure StK (P : Program) (f : α → Int × Int × Int) (g : Nat) (cb : Array Value) (cf : α → α → Int) (w0 : World) (blk off : Nat) (d0 : Array α) : Prop where
  R : RowK (enc3 f) 3 w0 blk off d0
  C : CmpLays P g cb (enc3 f) 3 cf blk off d0.size w0
  eg : ∀ args w, (callFunc g args).run P w = .ok (.enter g args) w
  small : d0.size ≤ 1048576
theorem StK.at3 {P : Program} {f : α → Int × Int × Int} {g : Nat} {cb : Array Value} {cf : α → α → Int} {w0 : World} {blk off : Nat} {d0 dk : Array α} {W : World} (K : StK P f g cb cf w0 blk off d0) (h : SWK (enc3 f) 3 w0 blk off dk W) (hs : dk.size = d0.size) (i : Nat) (hi : i < dk.size) :
    (W.cell? ⟨blk, off + i * 3, none⟩ = some (.int .i64 (f dk[i]!).1) ∧ W.cell? ⟨blk, off + i * 3 + 1, none⟩ = some (.int .i64 (f dk[i]!).2.1) ∧ W.cell? ⟨blk, off + i * 3 + 2, none⟩ = some (.int .i64 (f dk[i]!).2.2)) ∧
    (W.frozen? ⟨blk, off + i * 3, none⟩ = false ∧ W.frozen? ⟨blk, off + i * 3 + 1, none⟩ = false ∧ W.frozen? ⟨blk, off + i * 3 + 2, none⟩ = false) := holds3 (h.holds K.R.hblk K.R.hH hs) i hi
/-- two rows of the row in each other's place, number by number -/
theorem StK.swp3 {P : Program} {f : α → Int × Int × Int} {g : Nat} {cb : Array Value} {cf : α → α → Int} {w0 : World} {blk off : Nat} {d0 dk : Array α} {W : World} (K : StK P f g cb cf w0 blk off d0) (h : SWK (enc3 f) 3 w0 blk off dk W) (i j : Nat) (hi : i < dk.size) (hj : j < dk.size) {x0 x1 x2 y0 y1 y2 : Int} (hx : f dk[i]! = (x0, x1, x2)) (hy : f dk[j]! = (y0, y1, y2)) :
    SWK (enc3 f) 3 w0 blk off (swp dk i j) (((((((W.setCell ⟨blk, off + i * 3, none⟩ (.int .i64 y0)).setCell ⟨blk, off + i * 3 + 1, none⟩ (.int .i64 y1)).setCell ⟨blk, off + i * 3 + 2, none⟩ (.int .i64 y2)).setCell ⟨blk, off + j * 3, none⟩ (.int .i64 x0)).setCell ⟨blk, off + j * 3 + 1, none⟩ (.int .i64 x1)).setCell ⟨blk, off + j * 3 + 2, none⟩ (.int .i64 x2)).drew) := by
  have := h.swap K.R.hk K.R.hblk i j hi hj
  unfold enc3 at this
  rw [hx, hy] at this
  exact SWK.drew this
theorem StK.cmp3 {P : Program} {f : α → Int × Int × Int} {g : Nat} {cb : Array Value} {cf : α → α → Int} {w0 : World} {blk off : Nat} {d0 dk : Array α} {W : World} (K : StK P f g cb cf w0 blk off d0) (h : SWK (enc3 f) 3 w0 blk off dk W) (hs : dk.size = d0.size) {x y : α} {x0 x1 x2 y0 y1 y2 : Int} (hx : f x = (x0, x1, x2)) (hy : f y = (y0, y1, y2)) (n : Nat) (os : Array Obj) :
    Calls P g (#[.agg #[.int .i64 x0, .int .i64 x1, .int .i64 x2], .agg #[.int .i64 y0, .int .i64 y1, .int .i64 y2]] ++ cb) (grow (W.drewN n) os) fun e w' => e = .returned (.int .i64 (cf x y)) ∧ ∃ q os', w' = grow ((grow (W.drewN n) os).drewN q) os' := by
  have := h.cmp K.C hs x y n os
  unfold enc3 at this
  rw [hx, hy] at this
  exact this
theorem StK.in3 {P : Program} {f : α → Int × Int × Int} {g : Nat} {cb : Array Value} {cf : α → α → Int} {w0 : World} {blk off : Nat} {d0 dk : Array α} {W : World} (K : StK P f g cb cf w0 blk off d0) (h : SWK (enc3 f) 3 w0 blk off dk W) (hs : dk.size = d0.size) (i : Nat) (hi : i < dk.size) {x0 x1 x2 : Int} (hx : f dk[i]! = (x0, x1, x2)) :
    (∀ n os, (grow (W.drewN n) os).cell? ⟨blk, off + i * 3, none⟩ = some (.int .i64 x0)) ∧ (∀ n os, (grow (W.drewN n) os).cell? ⟨blk, off + i * 3 + 1, none⟩ = some (.int .i64 x1)) ∧ (∀ n os, (grow (W.drewN n) os).cell? ⟨blk, off + i * 3 + 2, none⟩ = some (.int .i64 x2)) := by
  have h1 := fun n os => (K.at3 (h.grown n os) hs i hi).1
  rw [hx] at h1
  exact ⟨fun n os => (h1 n os).1, fun n os => (h1 n os).2.1, fun n os => (h1 n os).2.2⟩

set_option maxRecDepth 20000 in
set_option maxHeartbeats 3200000 in
theorem swapRange_any {f : α → Int × Int × Int} {g : Nat} {cb : Array Value} {cf : α → α → Int} {w0 : World} {blk off : Nat} {d0 : Array α} (K : StK Try.prog f g cb cf w0 blk off d0) (a b n cap : Nat) (dk : Array α) (W : World) (hs : dk.size = d0.size) (hw : SWK (enc3 f) 3 w0 blk off dk W) (hab : a + n ≤ b) (hb : b + n ≤ d0.size) :
    Calls Try.prog 50 #[.slice (some ⟨blk, off, none⟩) d0.size cap, .int .i64 a, .int .i64 b, .int .i64 n, .func (.func g) #[] cb] W fun e w' => e = .returned (.tuple #[]) ∧ ∃ d', SwR dk a b n d' ∧ SWK (enc3 f) 3 w0 blk off d' w' := by
  have hsm := K.small
  have HW := shide hw
  go_enter Try.func50, Try.ntmps50
  go_wp2
  go_loopw [10] (fun i wr => ∃ (q : Nat) (dj : Array α), q ≤ n ∧ i = .int .i64 q ∧ Hid (SwR dk a b q dj) ∧ Hid (SWK (enc3 f) 3 w0 blk off dj wr)) (fun i _ => n - (intOf i).toNat)
  case atStart => exact ⟨0, dk, Nat.zero_le _, rfl, SwR.zero _ _ _, HW.out⟩
  case round =>
    obtain ⟨q, dj, hq, rfl, HR, HS⟩ := hrel
    have hsj : dj.size = d0.size := HR.out.perm.1.trans hs
    by_cases hlt : q < n
    · obtain ⟨⟨i0, i1, i2⟩, g0, g1, g2⟩ := K.at3 HS.out hsj (a + q) (by omega)
      obtain ⟨⟨j0, j1, j2⟩, k0, k1, k2⟩ := K.at3 HS.out hsj (b + q) (by omega)
      have HN := shide (HR.out.succ (by omega) (by omega))
      have HSW : Hid (∀ x0 x1 x2 y0 y1 y2, f dj[a + q]! = (x0, x1, x2) → f dj[b + q]! = (y0, y1, y2) → _) := fun x0 x1 x2 y0 y1 y2 hx hy => K.swp3 HS.out (a + q) (b + q) (by omega) (by omega) hx hy
      generalize hx : f dj[a + q]! = X at *
      generalize hy : f dj[b + q]! = Y at *
      obtain ⟨x0, x1, x2⟩ := X
      obtain ⟨y0, y1, y2⟩ := Y
      have HZ := shide (HSW.out x0 x1 x2 y0 y1 y2 rfl rfl)
      simp only at i0 i1 i2 j0 j1 j2
      clear HSW
      go_wp2
      go_region
      all_goals go_wp2
      go_roundw
      case rel => exact ⟨q + 1, _, by omega, by go_num, HN, by with_reducible exact HZ⟩
      case measure => simp [intOf]; omega
    · have e : q = n := by omega
      subst e
      go_wp2
      go_end0
      exact ⟨rfl, dj, HR.out, HS.out⟩

set_option maxRecDepth 20000 in
set_option maxHeartbeats 3200000 in
theorem rotate_any {f : α → Int × Int × Int} {g : Nat} {cb : Array Value} {cf : α → α → Int} {w0 : World} {blk off : Nat} {d0 : Array α} (K : StK Try.prog f g cb cf w0 blk off d0) (a m b cap : Nat) (dk : Array α) (W : World) (hs : dk.size = d0.size) (hw : SWK (enc3 f) 3 w0 blk off dk W) (ham : a < m) (hmb : m < b) (hb : b ≤ d0.size) :
    Calls Try.prog 49 #[.slice (some ⟨blk, off, none⟩) d0.size cap, .int .i64 a, .int .i64 m, .int .i64 b, .func (.func g) #[] cb] W fun e w' => e = .returned (.tuple #[]) ∧ ∃ d', RotP dk a m b d' ∧ SWK (enc3 f) 3 w0 blk off d' w' := by
  have hsm := K.small
  have HW := shide hw
  have HSR := shide (fun a b n dk W => swapRange_any K a b n cap dk W)
  go_enter Try.func49, Try.ntmps49
  go_wp2
  go_loopw [10, 11] (fun vi vj wr => ∃ (i j : Nat) (dj : Array α), (0 < i ∧ 0 < j ∧ i ≤ m ∧ i + a ≤ m ∧ m + j ≤ b) ∧ vi = .int .i64 i ∧ vj = .int .i64 j ∧ dj.size = d0.size ∧ Hid (∀ d', RotP dj (m - i) m (m + j) d' → RotP dk a m b d') ∧ Hid (SWK (enc3 f) 3 w0 blk off dj wr)) (fun i j _ => (intOf i).toNat + (intOf j).toNat)
  case atStart => exact ⟨m - a, b - m, dk, ⟨by omega, by omega, by omega, by omega, by omega⟩, by go_num, by go_num, hs, (fun d' h => by rw [show m - (m - a) = a by omega, show m + (b - m) = b by omega] at h; exact h), HW.out⟩
  case round =>
    obtain ⟨i, j, dj, ⟨hi, hj, him, hia, hjb⟩, rfl, rfl, hsj, HC, HS⟩ := hrel
    rcases Nat.lt_trichotomy i j with hij | hij | hij
    · have e1 : ((i : Int) != (j : Int)) = true := by rw [bne_iff_ne]; omega
      have HX := HSR.out (m - i) (m + j - i) i dj wr hsj HS.out (by omega) (by omega)
      rw [show ((m - i : Nat) : Int) = (m : Int) - (i : Int) by omega, show ((m + j - i : Nat) : Int) = (m : Int) + (j : Int) - (i : Int) by omega] at HX
      replace HX := shide HX
      clear HSR
      go_wp2_with fail
      refine HX.out.mono ?_
      rintro e w1 ⟨rfl, d2, h1, h2⟩
      have H1 := shide h1
      have H2 := shide h2
      clear h1 h2 HX
      go_wp2
      go_roundw
      case rel => exact ⟨i, j - i, d2, ⟨by omega, by omega, by omega, by omega, by omega⟩, by go_num, by go_num, H1.out.perm.1.trans hsj, (fun d' h => HC.out _ (rot_lt hij him (by omega) H1.out h)), H2.out⟩
      case measure => simp [intOf]; omega
    · subst hij
      have e1 : ((i : Int) != (i : Int)) = false := by simp
      have HX := HSR.out (m - i) m i dj wr hsj HS.out (by omega) (by omega)
      rw [show ((m - i : Nat) : Int) = (m : Int) - (i : Int) by omega] at HX
      replace HX := shide HX
      clear HSR
      go_wp2_with fail
      refine HX.out.mono ?_
      rintro e w1 ⟨rfl, d2, h1, h2⟩
      have H1 := shide h1
      have H2 := shide h2
      clear h1 h2 HX
      go_wp2
      go_end0
      exact ⟨rfl, d2, HC.out _ (rot_eq him H1.out), H2.out⟩
    · have e1 : ((i : Int) != (j : Int)) = true := by rw [bne_iff_ne]; omega
      have HX := HSR.out (m - i) m j dj wr hsj HS.out (by omega) (by omega)
      rw [show ((m - i : Nat) : Int) = (m : Int) - (i : Int) by omega] at HX
      replace HX := shide HX
      clear HSR
      go_wp2_with fail
      refine HX.out.mono ?_
      rintro e w1 ⟨rfl, d2, h1, h2⟩
      have H1 := shide h1
      have H2 := shide h2
      clear h1 h2 HX
      go_wp2
      go_roundw
      case rel => exact ⟨i - j, j, d2, ⟨by omega, by omega, by omega, by omega, by omega⟩, by go_num, by go_num, H1.out.perm.1.trans hsj, (fun d' h => HC.out _ (rot_gt hij him (by omega) H1.out h)), H2.out⟩
      case measure => simp [intOf]; omega

set_option maxRecDepth 20000 in
set_option maxHeartbeats 3200000 in
theorem symMerge_one {f : α → Int × Int × Int} {g : Nat} {cb : Array Value} {cf : α → α → Int} {w0 : World} {blk off : Nat} {d0 : Array α} (K : StK Try.prog f g cb cf w0 blk off d0) (hS : SWO (ltOf cf)) (pos : α → Nat) (a b cap : Nat) (dk : Array α) (W : World) (hs : dk.size = d0.size) (hw : SWK (enc3 f) 3 w0 blk off dk W) (hab : a + 1 < b) (hb : b ≤ d0.size) (hp : Mrg (stT (ltOf cf) pos) pos a (a + 1) b dk) :
    Calls Try.prog 48 #[.slice (some ⟨blk, off, none⟩) d0.size cap, .int .i64 a, .int .i64 (a + 1 : Nat), .int .i64 b, .func (.func g) #[] cb] W fun e w' => e = .returned (.tuple #[]) ∧ ∃ d', (PermIn a b dk d' ∧ SortedIn (stT (ltOf cf) pos) a b d') ∧ SWK (enc3 f) 3 w0 blk off d' w' := by
  have hsm := K.small
  have HW := shide hw
  have eg := K.eg
  have mixed := stMixed
  have FIN : Hid (∀ i d1, a + 1 ≤ i → i ≤ b → (i = a + 1 ∨ stT (ltOf cf) pos dk[i - 1]! dk[a]! = true) → (i = b ∨ stT (ltOf cf) pos dk[i]! dk[a]! = false) → RotP dk a (a + 1) i d1 → PermIn a b dk d1 ∧ SortedIn (stT (ltOf cf) pos) a b d1) := fun i d1 h1 h2 c1 c2 hr => merge_left (stT_swo hS) hp h1 h2 (by omega) c1 c2 hr
  have LT : Hid (∀ h, a + 1 ≤ h → h < b → stT (ltOf cf) pos dk[h]! dk[a]! = decide (cf dk[h]! dk[a]! < 0)) := fun h h1 h2 => stT_late (hp.2.2 a h (Nat.le_refl _) (by omega) h1 h2)
  clear hp hw hS
  go_enter Try.func48, Try.ntmps48
  have e1 : (((a : Int) + 1 - (a : Int)) == 1) = true := by rw [beq_iff_eq]; omega
  push_cast
  go_wp2
  go_loopw [10, 11] (fun vi vj wr => ∃ (i j : Nat), (a + 1 ≤ i ∧ i ≤ j ∧ j ≤ b) ∧ vi = .int .i64 i ∧ vj = .int .i64 j ∧ Hid (i = a + 1 ∨ stT (ltOf cf) pos dk[i - 1]! dk[a]! = true) ∧ Hid (j = b ∨ stT (ltOf cf) pos dk[j]! dk[a]! = false) ∧ Hid (SWK (enc3 f) 3 w0 blk off dk wr)) (fun i j _ => (intOf j).toNat - (intOf i).toNat)
  case atStart => exact ⟨a + 1, b, ⟨by omega, by omega, by omega⟩, by go_num, rfl, .inl rfl, .inl rfl, HW.out⟩
  case round =>
    obtain ⟨i, j, ⟨h1, h2, h3⟩, rfl, rfl, HI, HJ, HS⟩ := hrel
    have hsj := hs
    by_cases hlt : i < j
    · obtain ⟨h, hh⟩ : ∃ h, (i + j) / 2 = h := ⟨_, rfl⟩
      have hz : ((i : Int) + (j : Int)) / 2 = (h : Int) := by omega
      have hL := LT.out h (by omega) (by omega)
      have HL : Hid (stT (ltOf cf) pos dk[h]! dk[a]! = decide (cf dk[h]! dk[a]! < 0)) := hL
      clear hL
      generalize hx : f dk[h]! = X at *
      generalize hy : f dk[a]! = Y at *
      obtain ⟨x0, x1, x2⟩ := X
      obtain ⟨y0, y1, y2⟩ := Y
      have bp : h < d0.size := by omega
      have bq : a < d0.size := by omega
      obtain ⟨i0, i1, i2⟩ := K.in3 HS.out hsj (h) (by omega) hx
      obtain ⟨j0, j1, j2⟩ := K.in3 HS.out hsj (a) (by omega) hy
      have hcg := K.cmp3 HS.out hsj hx hy
      have HG : Hid (∀ n os, SWK (enc3 f) 3 w0 blk off dk (grow (wr.drewN n) os)) := fun n os => HS.out.grown n os
      generalize cf dk[h]! dk[a]! = c at *
      clear hx hy

      by_cases hc : c < 0
      · have HI2 : Hid (h + 1 = a + 1 ∨ stT (ltOf cf) pos dk[h + 1 - 1]! dk[a]! = true) := .inr (by rw [Nat.add_sub_cancel, HL.out]; exact decide_eq_true hc)
        clear HL LT FIN HI
        go_wp2
        go_quiet_grown (first | (go_at_fn g; refine Calls.grown_of (hcg _ _)))
        go_wp2
        go_roundw
        case rel => exact ⟨h + 1, j, ⟨by omega, by omega, by omega⟩, by go_num, rfl, HI2, HJ, HG.out _ _⟩
        case measure => simp [intOf]; omega
      · have HJ2 : Hid (h = b ∨ stT (ltOf cf) pos dk[h]! dk[a]! = false) := .inr (by rw [HL.out]; exact decide_eq_false hc)
        clear HL LT FIN HJ
        go_wp2
        go_quiet_grown (first | (go_at_fn g; refine Calls.grown_of (hcg _ _)))
        go_wp2
        go_roundw
        case rel => exact ⟨i, h, ⟨by omega, by omega, by omega⟩, rfl, by go_num, HI, HJ2, HG.out _ _⟩
        case measure => simp [intOf]; omega
    · have e : j = i := by omega
      subst e
      have FIN2 : Hid (∀ d1, RotP dk a (a + 1) j d1 → PermIn a b dk d1 ∧ SortedIn (stT (ltOf cf) pos) a b d1) := fun d1 hr => FIN.out j d1 h1 h3 HI.out HJ.out hr
      clear FIN LT HI HJ
      go_wp2
      go_loopw [13] (fun vk wr => ∃ (k : Nat) (dj : Array α), (a ≤ k ∧ k + 1 ≤ j) ∧ vk = .int .i64 k ∧ Hid (RotP dk a (a + 1) (k + 1) dj) ∧ Hid (SWK (enc3 f) 3 w0 blk off dj wr)) (fun k _ => j - (intOf k).toNat)
      case atStart => exact ⟨a, dk, ⟨by omega, by omega⟩, rfl, RotP.none (.inr rfl) (by omega) (by omega), HS.out⟩
      case round =>
        clear HS
        obtain ⟨k, dj, ⟨hk1, hk2⟩, rfl, HR, HS⟩ := hrel
        have hsj : dj.size = d0.size := HR.out.perm.1.trans hs
        by_cases hlt2 : k + 1 < j
        · have HN := shide (HR.out.up hk1 (by omega))
          obtain ⟨⟨i0, i1, i2⟩, g0, g1, g2⟩ := K.at3 HS.out hsj (k) (by omega)
          obtain ⟨⟨j0, j1, j2⟩, k0, k1, k2⟩ := K.at3 HS.out hsj (k + 1) (by omega)
          have HSW : Hid (∀ x0 x1 x2 y0 y1 y2, f dj[k]! = (x0, x1, x2) → f dj[k + 1]! = (y0, y1, y2) → _) := fun x0 x1 x2 y0 y1 y2 hx hy => K.swp3 HS.out (k) (k + 1) (by omega) (by omega) hx hy
          generalize hx : f dj[k]! = X at *
          generalize hy : f dj[k + 1]! = Y at *
          obtain ⟨x0, x1, x2⟩ := X
          obtain ⟨y0, y1, y2⟩ := Y
          have HZ := shide (HSW.out x0 x1 x2 y0 y1 y2 rfl rfl)
          simp only at i0 i1 i2 j0 j1 j2
          clear HSW hx hy
          go_wp2
          go_region
          all_goals go_wp2

          go_roundw
          case rel => exact ⟨k + 1, _, ⟨by omega, by omega⟩, by go_num, HN, by with_reducible exact HZ⟩
          case measure => simp [intOf]; omega
        · have e : j = k + 1 := by omega
          subst e
          go_wp2
          (try simp only [Exit.inBlock, Exit.then])
          refine bodyPost_ret (results_none rfl _ _ _) rfl ?_
          exact ⟨rfl, dj, FIN2.out _ HR.out, HS.out⟩

set_option maxRecDepth 20000 in
set_option maxHeartbeats 3200000 in
theorem symMerge_last {f : α → Int × Int × Int} {g : Nat} {cb : Array Value} {cf : α → α → Int} {w0 : World} {blk off : Nat} {d0 : Array α} (K : StK Try.prog f g cb cf w0 blk off d0) (hS : SWO (ltOf cf)) (pos : α → Nat) (a m cap : Nat) (dk : Array α) (W : World) (hs : dk.size = d0.size) (hw : SWK (enc3 f) 3 w0 blk off dk W) (ham : a + 1 < m) (hb : m + 1 ≤ d0.size) (hp : Mrg (stT (ltOf cf) pos) pos a m (m + 1) dk) :
    Calls Try.prog 48 #[.slice (some ⟨blk, off, none⟩) d0.size cap, .int .i64 a, .int .i64 m, .int .i64 (m + 1 : Nat), .func (.func g) #[] cb] W fun e w' => e = .returned (.tuple #[]) ∧ ∃ d', (PermIn a (m + 1) dk d' ∧ SortedIn (stT (ltOf cf) pos) a (m + 1) d') ∧ SWK (enc3 f) 3 w0 blk off d' w' := by
  have hsm := K.small
  have HW := shide hw
  have eg := K.eg
  have mixed := stMixed
  have FIN : Hid (∀ i d1, a ≤ i → i ≤ m → (i = a ∨ stT (ltOf cf) pos dk[m]! dk[i - 1]! = false) → (i = m ∨ stT (ltOf cf) pos dk[m]! dk[i]! = true) → RotP dk i m (m + 1) d1 → PermIn a (m + 1) dk d1 ∧ SortedIn (stT (ltOf cf) pos) a (m + 1) d1) := fun i d1 h1 h2 c1 c2 hr => merge_right (stT_swo hS) hp h1 h2 (by omega) c1 c2 hr
  have LT : Hid (∀ h, a ≤ h → h < m → stT (ltOf cf) pos dk[m]! dk[h]! = decide (cf dk[m]! dk[h]! < 0)) := fun h h1 h2 => stT_late (hp.2.2 h m h1 h2 (Nat.le_refl _) (by omega))
  clear hp hw hS
  have e0 : (((m : Int) - (a : Int)) == 1) = false := by rw [beq_eq_false_iff_ne]; omega
  have e1 : (((m : Int) + 1 - (m : Int)) == 1) = true := by rw [beq_iff_eq]; omega
  go_enter Try.func48, Try.ntmps48
  push_cast
  go_wp2
  go_loopw [14, 15] (fun vi vj wr => ∃ (i j : Nat), (a ≤ i ∧ i ≤ j ∧ j ≤ m) ∧ vi = .int .i64 i ∧ vj = .int .i64 j ∧ Hid (i = a ∨ stT (ltOf cf) pos dk[m]! dk[i - 1]! = false) ∧ Hid (j = m ∨ stT (ltOf cf) pos dk[m]! dk[j]! = true) ∧ Hid (SWK (enc3 f) 3 w0 blk off dk wr)) (fun i j _ => (intOf j).toNat - (intOf i).toNat)
  case atStart => exact ⟨a, m, ⟨by omega, by omega, by omega⟩, rfl, rfl, .inl rfl, .inl rfl, HW.out⟩
  case round =>
    obtain ⟨i, j, ⟨h1, h2, h3⟩, rfl, rfl, HI, HJ, HS⟩ := hrel
    have hsj := hs
    by_cases hlt : i < j
    · obtain ⟨h, hh⟩ : ∃ h, (i + j) / 2 = h := ⟨_, rfl⟩
      have hz : ((i : Int) + (j : Int)) / 2 = (h : Int) := by omega
      have hL := LT.out h (by omega) (by omega)
      have HL : Hid (stT (ltOf cf) pos dk[m]! dk[h]! = decide (cf dk[m]! dk[h]! < 0)) := hL
      clear hL
      generalize hx : f dk[m]! = X at *
      generalize hy : f dk[h]! = Y at *
      obtain ⟨x0, x1, x2⟩ := X
      obtain ⟨y0, y1, y2⟩ := Y
      have bp : m < d0.size := by omega
      have bq : h < d0.size := by omega
      obtain ⟨i0, i1, i2⟩ := K.in3 HS.out hsj (m) (by omega) hx
      obtain ⟨j0, j1, j2⟩ := K.in3 HS.out hsj (h) (by omega) hy
      have hcg := K.cmp3 HS.out hsj hx hy
      have HG : Hid (∀ n os, SWK (enc3 f) 3 w0 blk off dk (grow (wr.drewN n) os)) := fun n os => HS.out.grown n os
      generalize cf dk[m]! dk[h]! = c at *
      clear hx hy

      by_cases hc : c < 0
      · have HJ2 : Hid (h = m ∨ stT (ltOf cf) pos dk[m]! dk[h]! = true) := .inr (by rw [HL.out]; exact decide_eq_true hc)
        clear HL LT FIN HJ
        have hcd : decide (c < 0) = true := decide_eq_true hc
        go_wp2
        go_quiet_grown (first | (go_at_fn g; refine Calls.grown_of (hcg _ _)))
        go_wp2
        go_roundw
        case rel => exact ⟨i, h, ⟨by omega, by omega, by omega⟩, rfl, by go_num, HI, HJ2, HG.out _ _⟩
        case measure => simp [intOf]; omega
      · have HI2 : Hid (h + 1 = a ∨ stT (ltOf cf) pos dk[m]! dk[h + 1 - 1]! = false) := .inr (by rw [Nat.add_sub_cancel, HL.out]; exact decide_eq_false hc)
        clear HL LT FIN HI
        have hcd : decide (c < 0) = false := decide_eq_false hc
        go_wp2
        go_quiet_grown (first | (go_at_fn g; refine Calls.grown_of (hcg _ _)))
        go_wp2
        go_roundw
        case rel => exact ⟨h + 1, j, ⟨by omega, by omega, by omega⟩, by go_num, rfl, HI2, HJ, HG.out _ _⟩
        case measure => simp [intOf]; omega
    · have e : j = i := by omega
      subst e
      have FIN2 : Hid (∀ d1, RotP dk j m (m + 1) d1 → PermIn a (m + 1) dk d1 ∧ SortedIn (stT (ltOf cf) pos) a (m + 1) d1) := fun d1 hr => FIN.out j d1 h1 h3 HI.out HJ.out hr
      clear FIN LT HI HJ
      go_wp2
      go_loopw [17] (fun vk wr => ∃ (k : Nat) (dj : Array α), (j ≤ k ∧ k ≤ m) ∧ vk = .int .i64 k ∧ Hid (RotP dk k m (m + 1) dj) ∧ Hid (SWK (enc3 f) 3 w0 blk off dj wr)) (fun k _ => (intOf k).toNat - j)
      case atStart => exact ⟨m, dk, ⟨by omega, by omega⟩, rfl, RotP.none (.inl rfl) (by omega) (by omega), HS.out⟩
      case round =>
        clear HS
        obtain ⟨k, dj, ⟨hk1, hk2⟩, rfl, HR, HS⟩ := hrel
        have hsj : dj.size = d0.size := HR.out.perm.1.trans hs
        by_cases hlt2 : j < k
        · obtain ⟨kp, rfl⟩ : ∃ kp, k = kp + 1 := ⟨k - 1, by omega⟩
          have HN := shide (HR.out.down hk2 (by omega))
          have jz : (kp : Int) + 1 < (d0.size : Int) := by omega
          have jz1 : (kp : Int) < (d0.size : Int) := by omega
          have p0 : (0 : Int) ≤ (kp : Int) + 1 := by omega
          have pe : ((kp : Int) + 1).toNat = kp + 1 := by omega
          have hwp : IntKind.i64.wrap (kp : Int) = (kp : Int) := by rw [IntKind.wrap_i64]; omega
          obtain ⟨⟨i0, i1, i2⟩, g0, g1, g2⟩ := K.at3 HS.out hsj (kp + 1) (by omega)
          obtain ⟨⟨j0, j1, j2⟩, k0, k1, k2⟩ := K.at3 HS.out hsj (kp) (by omega)
          have HSW : Hid (∀ x0 x1 x2 y0 y1 y2, f dj[kp + 1]! = (x0, x1, x2) → f dj[kp]! = (y0, y1, y2) → _) := fun x0 x1 x2 y0 y1 y2 hx hy => K.swp3 HS.out (kp + 1) (kp) (by omega) (by omega) hx hy
          generalize hx : f dj[kp + 1]! = X at *
          generalize hy : f dj[kp]! = Y at *
          obtain ⟨x0, x1, x2⟩ := X
          obtain ⟨y0, y1, y2⟩ := Y
          have HZ := shide (HSW.out x0 x1 x2 y0 y1 y2 rfl rfl)
          simp only at i0 i1 i2 j0 j1 j2
          clear HSW hx hy
          go_wp2
          go_region
          all_goals go_wp2

          go_roundw
          case rel => exact ⟨kp, _, ⟨by omega, by omega⟩, by go_num, HN, by with_reducible exact HZ⟩
          case measure => simp [intOf]; omega
        · have e : k = j := by omega
          subst e
          go_wp2
          (try simp only [Exit.inBlock, Exit.then])
          refine bodyPost_ret (results_none rfl _ _ _) rfl ?_
          exact ⟨rfl, dj, FIN2.out _ HR.out, HS.out⟩
end
end Go.Proofs.Ytidjjgiecaoboaa
