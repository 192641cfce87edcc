/- Texts of one claim, joined: each in its own section, in build order. -/
import Derived.Test.YtdnodaoeflbfkaaGreatJ5
import Derived.Test.YtdnodaoeflbfkaaGreatJ1
import Derived.Test.YtdnodaoeflbfkaaGreatJ4
import Derived.Deep.RegionLaw
import Derived.Deep.AppendLies
import Derived.Deep.CutRange
import Derived.Deep.RegionHeld3
/- The library's stable sort at a row of structs of three numbers, walked: the whole. -/
namespace Go.Proofs.YtdnodaoeflbfkaaGreat
open Go.RowKit Go.Lib Go.Sort Go.BigFrame
set_option linter.unusedVariables false
section
variable {α : Type} [Inhabited α]

set_option maxRecDepth 20000 in
set_option maxHeartbeats 3200000 in
theorem insertion_any {f : α → Int × Int × Int} {g : Nat} {cb : Array Value} {cf : α → α → Int} {w0 : World} {blk off : Nat} {d0 : Array α} (K : StK Tryz.prog f g cb cf w0 blk off d0) (a b cap : Nat) (dk : Array α) (W : World) (hs : dk.size = d0.size) (hw : SWK (enc3 f) 3 w0 blk off dk W) (hab : a ≤ b) (hb : b ≤ d0.size) :
    Calls Tryz.prog 251 #[.slice (some ⟨blk, off, none⟩) d0.size cap, .int .i64 a, .int .i64 b, .func (.func g) #[] cb] W fun e w' => e = .returned (.tuple #[]) ∧ SWK (enc3 f) 3 w0 blk off (insertionSort (ltOf cf) dk a b) w' := by
  have hsm := K.small
  have HW := shide hw
  have eg := K.eg
  have mixed := stMixed
  clear hw
  go_enter Tryz.func251, Tryz.ntmps251
  go_wp2
  go_loopw [8] (fun vi wr => ∃ (i : Nat) (d1 : Array α), (a + 1 ≤ i ∧ i ≤ b + 1) ∧ vi = .int .i64 i ∧ d1.size = d0.size ∧ Hid (insOuter (ltOf cf) a b i d1 = insertionSort (ltOf cf) dk a b) ∧ Hid (SWK (enc3 f) 3 w0 blk off d1 wr)) (fun i _ => b + 1 - (intOf i).toNat)
  case atStart => exact ⟨a + 1, dk, ⟨by omega, by omega⟩, by go_num, hs, rfl, HW.out⟩
  case round =>
    obtain ⟨i, d1, ⟨h1, h2⟩, rfl, hs1, HO, HS0⟩ := hrel
    by_cases hlt : i < b
    · have HO2 : Hid (∀ dj, dj = insInner (ltOf cf) a i d1 → insOuter (ltOf cf) a b (i + 1) dj = insertionSort (ltOf cf) dk a b) := fun dj e => by rw [e, ← HO.out, insOuter_go _ _ _ _ _ hlt]
      clear HO HW
      go_wp2
      go_loopw [9] (fun vj wx => ∃ (j : Nat) (dj : Array α), (a ≤ j ∧ j ≤ i) ∧ vj = .int .i64 j ∧ dj.size = d0.size ∧ Hid (insInner (ltOf cf) a j dj = insInner (ltOf cf) a i d1) ∧ Hid (SWK (enc3 f) 3 w0 blk off dj wx)) (fun j _ => (intOf j).toNat)
      case atStart => exact ⟨i, d1, ⟨by omega, by omega⟩, rfl, hs1, rfl, HS0.out⟩
      case round =>
        clear HS0
        obtain ⟨j, dj, ⟨h3, h4⟩, rfl, hsj, HI, HS⟩ := hrel
        by_cases hja : a < j
        · obtain ⟨kp, rfl⟩ : ∃ kp, j = kp + 1 := ⟨j - 1, by omega⟩
          have hkz : decide ((kp : Int) + 1 > (a : Int)) = true := decide_eq_true (by omega)
          have p0 : (0 : Int) ≤ (kp : Int) + 1 := by omega
          have pe : ((kp : Int) + 1).toNat = kp + 1 := by omega
          have hwp : IntKind.i64.wrap (kp : Int) = (kp : Int) := by rw [IntKind.wrap_i64]; omega
          have jz : (kp : Int) + 1 < (d0.size : Int) := by omega
          have jz1 : (kp : Int) < (d0.size : Int) := by omega
          have HST : Hid (ltOf cf dj[kp + 1]! dj[kp]! = false → dj = insInner (ltOf cf) a i d1) := fun h => by
            rw [← HI.out, insInner_stop _ _ _ _ (.inr h)]
          have HGO : Hid (ltOf cf dj[kp + 1]! dj[kp]! = true → insInner (ltOf cf) a kp (swp dj (kp + 1) kp) = insInner (ltOf cf) a i d1) := fun h => by
            rw [← HI.out, insInner_go _ _ _ _ hja h]; rfl
          have LTE : Hid (ltOf cf dj[kp + 1]! dj[kp]! = decide (cf dj[kp + 1]! dj[kp]! < 0)) := rfl
          have HSZ : Hid (∀ W2 x0 x1 x2 y0 y1 y2, SWK (enc3 f) 3 w0 blk off dj W2 → f dj[kp + 1]! = (x0, x1, x2) → f dj[kp]! = (y0, y1, y2) → _) := fun W2 x0 x1 x2 y0 y1 y2 hW hx hy => K.swp3 hW (kp + 1) kp (by omega) (by omega) hx hy
          have HCE : Hid (∀ W2, SWK (enc3 f) 3 w0 blk off dj W2 → _) := fun W2 hW => And.intro (K.at3 hW hsj (kp + 1) (by omega)) (K.at3 hW hsj kp (by omega))
          clear HI
          generalize hx : f dj[kp + 1]! = X at *
          generalize hy : f dj[kp]! = Y at *
          obtain ⟨x0, x1, x2⟩ := X
          obtain ⟨y0, y1, y2⟩ := Y
          have bp : kp + 1 < d0.size := by omega
          have bq : kp < d0.size := by omega
          obtain ⟨i0, i1, i2⟩ := K.in3 HS.out hsj (kp + 1) (by omega) hx
          obtain ⟨j0, j1, j2⟩ := K.in3 HS.out hsj (kp) (by omega) hy
          have hcg := K.cmp3 HS.out hsj hx hy
          have HG : Hid (∀ n os, SWK (enc3 f) 3 w0 blk off dj (grow (wr.drewN n) os)) := fun n os => HS.out.grown n os
          generalize cf dj[kp + 1]! dj[kp]! = c at *
          have HX := shide hx
          have HY := shide hy
          clear hx hy
          by_cases hc : c < 0
          · have hcd : decide (c < 0) = true := decide_eq_true hc
            have HI2 := shide (HGO.out (LTE.out.trans hcd))
            clear HGO HST LTE
            go_wp2
            go_quiet_grown (first | (go_at_fn g; refine Calls.grown_of (hcg _ _)))
            have HS3 := shide (HG.out nq osq)
            generalize grow (wr.drewN nq) osq = wy at *
            obtain ⟨⟨⟨i0, i1, i2⟩, g0, g1, g2⟩, ⟨j0, j1, j2⟩, k0, k1, k2⟩ := HCE.out wy HS3.out
            have HZ := shide (HSZ.out wy x0 x1 x2 y0 y1 y2 HS3.out (by first | exact rfl | exact HX.out) (by first | exact rfl | exact HY.out))
            (try simp only at i0 i1 i2 j0 j1 j2)
            clear HSZ HCE HG hcg
            go_wp2
            go_region
            all_goals go_wp2
            go_roundw
            case rel => exact ⟨kp, _, ⟨by omega, by omega⟩, by go_num, (by rw [size_swp]; exact hsj), HI2, by with_reducible exact HZ⟩
            case measure => simp [intOf]
          · have hcd : decide (c < 0) = false := decide_eq_false hc
            have HI2 := shide (HO2.out dj (HST.out (LTE.out.trans hcd)))
            clear HGO HST LTE HSZ HCE
            go_wp2
            go_quiet_grown (first | (go_at_fn g; refine Calls.grown_of (hcg _ _)))
            go_wp2
            go_roundw
            case rel => exact ⟨i + 1, dj, ⟨by omega, by omega⟩, by go_num, hsj, HI2, HG.out _ _⟩
            case measure => simp [intOf]; omega
        · have e : j = a := by omega
          subst e
          have hkz : decide ((j : Int) > (j : Int)) = false := decide_eq_false (by omega)
          have HI2 := shide (HO2.out dj (by rw [← HI.out, insInner_stop _ _ _ _ (.inl (Nat.le_refl _))]))
          have HS3 := shide (fun n => HS.out.drewN n)
          clear HI HO2
          go_wp2
          go_region
          all_goals go_wp2
          go_roundw
          case rel => exact ⟨i + 1, dj, ⟨by omega, by omega⟩, by go_num, hsj, HI2, by first | exact HS.out | exact HS3.out _ | exact HS.out.drew⟩
          case measure => simp [intOf]; omega
    · have HE : Hid (d1 = insertionSort (ltOf cf) dk a b) := by
        show _ = _
        rw [← HO.out, insOuter_stop _ _ _ _ _ hlt]
      clear HO
      go_wp2
      go_end0
      exact ⟨rfl, by rw [← HE.out]; exact HS0.out⟩

set_option maxRecDepth 20000 in
set_option maxHeartbeats 6400000 in
theorem stable_any {f : α → Int × Int × Int} {g : Nat} {cb : Array Value} {cf : α → α → Int} {w0 : World} {blk off : Nat} {d0 : Array α} (K : StK Tryz.prog f g cb cf w0 blk off d0) (hS : SWO (ltOf cf)) (pos : α → Nat) (cap : Nat) (W : World) (hw : SWK (enc3 f) 3 w0 blk off d0 W) (ha : AscP pos 0 d0.size d0) :
    Calls Tryz.prog 247 #[.slice (some ⟨blk, off, none⟩) d0.size cap, .int .i64 d0.size, .func (.func g) #[] cb] W fun e w' => e = .returned (.tuple #[]) ∧ ∃ d', (PermIn 0 d0.size d0 d' ∧ SortedIn (stT (ltOf cf) pos) 0 d0.size d') ∧ SWK (enc3 f) 3 w0 blk off d' w' := by
  have hsm := K.small
  have HW := shide hw
  have HIN := shide (fun a b dk W => insertion_any K a b cap dk W)
  have HMG := shide (fun N a m b dk W => symMerge_any K hS pos cap N a m b dk W)
  have HA0 : Hid (BlkA (stT (ltOf cf) pos) pos d0 0 d0) := BlkA.zero ha
  have HAS : Hid (∀ q d, BlkA (stT (ltOf cf) pos) pos d0 q d → q * 20 + 20 ≤ d0.size → BlkA (stT (ltOf cf) pos) pos d0 (q + 1) (insertionSort (ltOf cf) d (q * 20) (q * 20 + 20))) := fun q d h hb => h.succ hS hb
  have HAD : Hid (∀ q d, BlkA (stT (ltOf cf) pos) pos d0 q d → q * 20 ≤ d0.size → d0.size < q * 20 + 20 → BlkB (stT (ltOf cf) pos) pos d0 20 0 (insertionSort (ltOf cf) d (q * 20) d0.size)) := fun q d h h1 h2 => h.done hS h1 h2
  clear hw ha hS
  go_enter Tryz.func247, Tryz.ntmps247
  go_wp2
  go_loopw [7, 8] (fun va vb wr => ∃ (q A : Nat) (dj : Array α), Hid (q * 20 = A) ∧ A ≤ d0.size ∧ va = .int .i64 A ∧ vb = .int .i64 (A + 20 : Nat) ∧ Hid (BlkA (stT (ltOf cf) pos) pos d0 q dj) ∧ Hid (SWK (enc3 f) 3 w0 blk off dj wr)) (fun a _ _ => d0.size + 1 - (intOf a).toNat)
  case atStart => exact ⟨0, 0, d0, rfl, Nat.zero_le _, rfl, rfl, HA0.out, HW.out⟩
  case round =>
    clear HW
    obtain ⟨q, A, dj, HQ, hA, rfl, rfl, HB, HS⟩ := hrel
    have hsj : dj.size = d0.size := HB.out.perm.1
    push_cast
    by_cases hlt : A + 20 ≤ d0.size
    · have HX := HIN.out A (A + 20) dj wr hsj HS.out (by omega) hlt
      push_cast at HX
      replace HX := shide HX
      have HN : Hid (BlkA (stT (ltOf cf) pos) pos d0 (q + 1) (insertionSort (ltOf cf) dj A (A + 20))) := by
        have := HAS.out q dj HB.out (by rw [HQ.out]; exact hlt)
        rw [HQ.out] at this; exact this
      have HQ2 : Hid ((q + 1) * 20 = A + 20) := by show _ = _; have := HQ.out; omega
      have hz : (A : Int) + 20 ≤ (d0.size : Int) := by omega
      clear HIN HMG HA0 HAS HAD HB HS
      go_wp2_with fail
      refine HX.out.mono ?_
      rintro e w1 ⟨rfl, h2⟩
      have HS2 := shide h2
      clear h2 HX
      go_wp2
      go_roundw
      case rel => exact ⟨q + 1, A + 20, _, HQ2, hlt, by go_num, by go_num, HN, HS2⟩
      case measure => simp [intOf]; omega
    · have HX := shide (HIN.out A d0.size dj wr hsj HS.out hA (Nat.le_refl _))
      have HN : Hid (BlkB (stT (ltOf cf) pos) pos d0 20 0 (insertionSort (ltOf cf) dj A d0.size)) := by
        have := HAD.out q dj HB.out (by rw [HQ.out]; exact hA) (by rw [HQ.out]; omega)
        rw [HQ.out] at this; exact this
      have hz : ¬ (A : Int) + 20 ≤ (d0.size : Int) := by omega
      clear HIN HA0 HAS HAD HB HS HQ
      go_wp2_with fail
      refine HX.out.mono ?_
      rintro e w1 ⟨rfl, h2⟩
      have HS2 := shide h2
      clear h2 HX
      generalize insertionSort (ltOf cf) dj A d0.size = d1 at *
      go_wp2
      go_loopw [6] (fun vs wr => ∃ (s : Nat) (dj : Array α), (0 < s ∧ s ≤ 2 * d0.size + 20) ∧ vs = .int .i64 s ∧ Hid (BlkB (stT (ltOf cf) pos) pos d0 s 0 dj) ∧ Hid (SWK (enc3 f) 3 w0 blk off dj wr)) (fun s _ => 2 * d0.size + 20 - (intOf s).toNat)
      case atStart => exact ⟨20, d1, ⟨by omega, by omega⟩, rfl, HN, HS2⟩
      case round =>
        clear HN HS2 hsj
        obtain ⟨s, dj, ⟨hs0, hs1⟩, rfl, HB, HS⟩ := hrel
        by_cases hls : s < d0.size
        · go_wp2
          go_loopw [7, 8] (fun va vb wr => ∃ (q A : Nat) (dj : Array α), Hid (A = q * (2 * s)) ∧ A ≤ d0.size ∧ va = .int .i64 A ∧ vb = .int .i64 (A + 2 * s : Nat) ∧ Hid (BlkB (stT (ltOf cf) pos) pos d0 s q dj) ∧ Hid (SWK (enc3 f) 3 w0 blk off dj wr)) (fun a _ _ => d0.size + 1 - (intOf a).toNat)
          case atStart => exact ⟨0, 0, dj, by show 0 = 0 * (2 * s); omega, Nat.zero_le _, rfl, by go_num, HB, HS⟩
          case round =>
            clear HB HS
            obtain ⟨q, A, dj, HQ, hA, rfl, rfl, HB, HS⟩ := hrel
            have hsj : dj.size = d0.size := HB.out.perm.1
            have HQ2 : Hid (A + 2 * s = (q + 1) * (2 * s)) := by
              show _ = _
              rw [HQ.out]; exact (Nat.succ_mul q (2 * s)).symm
            push_cast
            by_cases hlt : A + 2 * s ≤ d0.size
            · have HP : Hid (Mrg (stT (ltOf cf) pos) pos A (A + s) (A + 2 * s) dj) := by
                have := HB.out.mrg (b := A + 2 * s) (by rw [← HQ.out]; exact Nat.le_refl _) hlt (by rw [← HQ.out]; omega) hs0
                rw [← HQ.out] at this; exact this
              have HX := HMG.out (2 * s) A (A + s) (A + 2 * s) dj wr (by omega) (by omega) (by omega) hlt hsj HS.out HP.out
              push_cast at HX
              replace HX := shide HX
              have HN : Hid (∀ d', PermIn A (A + 2 * s) dj d' ∧ SortedIn (stT (ltOf cf) pos) A (A + 2 * s) d' → BlkB (stT (ltOf cf) pos) pos d0 s (q + 1) d') := fun d' h => by
                have e := HQ.out
                exact HB.out.succ (b := A + 2 * s) (by rw [← e]; omega) (by rw [← e]; omega) hs0 (by rw [← e]; exact h.1) (by rw [← e]; exact h.2)
              have hz : (A : Int) + 2 * (s : Int) ≤ (d0.size : Int) := by omega
              clear HMG HB HS HP HQ
              go_wp2_with fail
              refine HX.out.mono ?_
              rintro e w2 ⟨rfl, d2, h2, h3⟩
              have HN2 := shide (HN.out d2 h2)
              have HS2 := shide h3
              clear h2 h3 HX HN
              go_wp2
              go_roundw
              case rel => exact ⟨q + 1, A + 2 * s, d2, HQ2, hlt, by go_num, by go_num, HN2, HS2⟩
              case measure => simp [intOf]; omega
            · have hz : ¬ (A : Int) + 2 * (s : Int) ≤ (d0.size : Int) := by omega
              by_cases hm : A + s < d0.size
              · have HP : Hid (Mrg (stT (ltOf cf) pos) pos A (A + s) d0.size dj) := by
                  have := HB.out.mrg (b := d0.size) (by rw [← HQ.out]; omega) (Nat.le_refl _) (by rw [← HQ.out]; omega) hs0
                  rw [← HQ.out] at this; exact this
                have HX := HMG.out d0.size A (A + s) d0.size dj wr (by omega) (by omega) hm (Nat.le_refl _) hsj HS.out HP.out
                push_cast at HX
                replace HX := shide HX
                have HN : Hid (∀ d', PermIn A d0.size dj d' ∧ SortedIn (stT (ltOf cf) pos) A d0.size d' → BlkB (stT (ltOf cf) pos) pos d0 (2 * s) 0 d') := fun d' h => by
                  have e := HQ.out
                  have e2 := HQ2.out
                  have h5 := HB.out.succ (b := d0.size) (by rw [← e]; omega) (by rw [← e]; omega) hs0 (by rw [← e]; exact h.1) (by rw [← e]; exact h.2)
                  exact h5.done (by rw [← e2]; omega) hs0
                clear HMG HB HS HP HQ HQ2
                go_wp2_with fail
                refine HX.out.mono ?_
                rintro e w2 ⟨rfl, d2, h2, h3⟩
                have HN2 := shide (HN.out d2 h2)
                have HS2 := shide h3
                clear h2 h3 HX HN
                go_wp2
                go_roundw
                case rel => exact ⟨2 * s, d2, ⟨by omega, by omega⟩, by go_num, HN2, HS2⟩
                case measure => simp [intOf]; omega
              · have HN : Hid (BlkB (stT (ltOf cf) pos) pos d0 (2 * s) 0 dj) := by
                  have e := HQ.out
                  exact HB.out.done (by rw [← e]; omega) hs0
                clear HMG HB HQ HQ2
                go_wp2
                go_roundw
                case rel => exact ⟨2 * s, dj, ⟨by omega, by omega⟩, by go_num, HN, HS⟩
                case measure => simp [intOf]; omega
        · have HE := shide (HB.out.end (by omega))
          clear HB HMG
          go_wp2
          go_end0
          exact ⟨rfl, dj, HE.out, HS.out⟩
theorem sortStable_any {f : α → Int × Int × Int} {g : Nat} {cb : Array Value} {cf : α → α → Int} {w0 : World} {blk off : Nat} {d0 : Array α} (K : StK Tryz.prog f g cb cf w0 blk off d0) (hS : SWO (ltOf cf)) (pos : α → Nat) (cap : Nat) (W : World) (hw : SWK (enc3 f) 3 w0 blk off d0 W) (ha : AscP pos 0 d0.size d0) :
    Calls Tryz.prog 233 #[.slice (some ⟨blk, off, none⟩) d0.size cap, .func (.func g) #[] cb] W fun e w' => e = .returned (.tuple #[]) ∧ ∃ d', (PermIn 0 d0.size d0 d' ∧ SortedIn (stT (ltOf cf) pos) 0 d0.size d') ∧ SWK (enc3 f) 3 w0 blk off d' w' := by
  have HX := shide (stable_any K hS pos cap W hw ha)
  have hsm := K.small
  clear K hS hw ha
  go_enter Tryz.func233, Tryz.ntmps233
  go_wp2_with fail
  refine HX.out.mono ?_
  rintro e w1 ⟨rfl, d1, h2, h3⟩
  go_wp2
  go_end0
  exact ⟨rfl, d1, h2, h3⟩
end
end Go.Proofs.YtdnodaoeflbfkaaGreat
/- impl.greatestFirst: rows by their rest, the greatest first; those alike stay in order. -/
namespace Go.Proofs.YtdnodaoeflbfkaaGreat
open Go.RowKit Go.Lib Go.BigFrame
open Go.Sort (PermIn SortedIn SWO)
set_option linter.unusedVariables false
theorem SWK.outR {α : Type} [Inhabited α] {enc : α → List Value} {k : Nat} {w0 W : World} {blk off : Nat} {dk : Array α} (h : SWK enc k w0 blk off dk W) : OutR blk (blk + 1) w0 W := by
  obtain ⟨n, os, rfl⟩ := h
  refine ⟨rfl, rfl, rfl, size_sortWorldK_c enc k w0 blk off n dk os, fun j hj hr => ?_⟩
  have hne : blk ≠ j := by omega
  show (_ ++ os)[j]? = _
  rw [Array.getElem?_append_left (by simp [Go.Sort.putRowK, Go.Sort.putRow, Go.Sort.mapBlock]; exact hj)]
  simp [Go.Sort.putRowK, Go.Sort.putRow, Go.Sort.mapBlock, Array.getElem?_modify, hne]
/-- by their rest, the greatest first -/
def cfR (f : Nat → Int × Int × Int) (x y : Nat) : Int := Lib.compareInt (f y).2.2 (f x).2.2
theorem cfR_lt (f : Nat → Int × Int × Int) (x y : Nat) : ltOf (cfR f) x y = decide ((f y).2.2 < (f x).2.2) := by
  unfold ltOf cfR Lib.compareInt
  rw [Bool.eq_iff_iff, decide_eq_true_eq, decide_eq_true_eq]
  split
  · simp; assumption
  · split <;> constructor <;> intro h <;> omega
theorem cfR_swo (f : Nat → Int × Int × Int) : SWO (ltOf (cfR f)) where
  irrefl x := by rw [cfR_lt, decide_eq_false_iff_not]; omega
  trans x y z h1 h2 := by rw [cfR_lt, decide_eq_true_eq] at *; omega
  ntrans x y z h1 h2 := by rw [cfR_lt, decide_eq_false_iff_not] at *; omega
theorem nanInt (x : Int) (w : World) : Calls Tryz.prog 243 #[.int .i64 x] w fun e w' => e = .returned (.bool false) ∧ w' = w := by
  have h : (x != x) = false := by simp
  go_enter Tryz.func243, Tryz.ntmps243
  go_wp2
  go_ret
  exact ⟨rfl, rfl⟩
theorem cmpInt (x y : Int) (w : World) : Calls Tryz.prog 222 #[.int .i64 x, .int .i64 y] w fun e w' => e = .returned (.int .i64 (Lib.compareInt x y)) ∧ w' = w := by
  go_enter Tryz.func222, Tryz.ntmps222
  go_wp2_with (go_at_call 243; refine (nanInt _ _).mono ?_; rintro e w' ⟨rfl, rfl⟩)
  all_goals (go_ret; refine ⟨?_, rfl⟩; unfold Lib.compareInt; (repeat' split) <;> first | rfl | (exfalso; omega))
theorem cmpIntG (x y : Int) (w : World) : Calls Tryz.prog 222 #[.int .i64 x, .int .i64 y] w fun e w' => e = .returned (.int .i64 (Lib.compareInt x y)) ∧ ∃ q os, w' = Go.Sort.grow (w.drewN q) os :=
  (cmpInt x y w).mono (fun e w' h => ⟨h.1, 0, #[], by rw [h.2, Go.Sort.grow_empty]; rfl⟩)
theorem quotaRest (x0 x1 x2 : Int) (W : World) : Calls Tryz.prog 210 #[.agg #[.int .i64 x0, .int .i64 x1, .int .i64 x2]] W fun e w' => e = .returned (.int .i64 x2) ∧ ∃ q os, w' = Go.Sort.grow (W.drewN q) os := by
  go_enter Tryz.func210, Tryz.ntmps210
  go_wp2
  go_ret
  exact ⟨rfl, 0, #[_], by rw [Go.Sort.alloc_eq_grow]; rfl⟩
set_option maxHeartbeats 3200000 in
theorem byRest (x0 x1 x2 y0 y1 y2 : Int) (B : Nat) (W : World) (hB : W.cell? ⟨B, 0, none⟩ = some (.func (.func 210) #[] #[])) :
    Calls Tryz.prog 234 #[.agg #[.int .i64 x0, .int .i64 x1, .int .i64 x2], .agg #[.int .i64 y0, .int .i64 y1, .int .i64 y2], .pointer (some ⟨B, 0, none⟩)] W fun e w' => e = .returned (.int .i64 (Lib.compareInt y2 x2)) ∧ ∃ q os, w' = Go.Sort.grow (W.drewN q) os := by
  have mixed := stMixed
  have hb := World.block_lt_of_cell? _ _ hB
  have HB := shide hB
  have Hb := shide hb
  clear hB hb
  go_enter Tryz.func234, Tryz.ntmps234
  go_wp2
  have e0 : ∀ j v, ((W.alloc (.cells #[.int .i64 x0, .int .i64 x1, .int .i64 x2] 258)).alloc (.cells #[.int .i64 y0, .int .i64 y1, .int .i64 y2] 258)).cell? ⟨W.heap.size, j, none⟩ = some v → ∀ n os, (Go.Sort.grow ((((W.alloc (.cells #[.int .i64 x0, .int .i64 x1, .int .i64 x2] 258)).alloc (.cells #[.int .i64 y0, .int .i64 y1, .int .i64 y2] 258))).drewN n) os).cell? ⟨W.heap.size, j, none⟩ = some v := fun j v h n os => cell_grown (by simp; omega) h n os
  have e1 : ∀ j v, ((W.alloc (.cells #[.int .i64 x0, .int .i64 x1, .int .i64 x2] 258)).alloc (.cells #[.int .i64 y0, .int .i64 y1, .int .i64 y2] 258)).cell? ⟨W.heap.size + 1, j, none⟩ = some v → ∀ n os, (Go.Sort.grow ((((W.alloc (.cells #[.int .i64 x0, .int .i64 x1, .int .i64 x2] 258)).alloc (.cells #[.int .i64 y0, .int .i64 y1, .int .i64 y2] 258))).drewN n) os).cell? ⟨W.heap.size + 1, j, none⟩ = some v := fun j v h n os => cell_grown (by simp) h n os
  have a0 := e0 0 (.int .i64 x0) (by simp)
  have a1 := e0 1 (.int .i64 x1) (by simp)
  have a2 := e0 2 (.int .i64 x2) (by simp)
  have b0 := e1 0 (.int .i64 y0) (by simp)
  have b1 := e1 1 (.int .i64 y1) (by simp)
  have b2 := e1 2 (.int .i64 y2) (by simp)
  have c0 : ∀ n os, (Go.Sort.grow ((((W.alloc (.cells #[.int .i64 x0, .int .i64 x1, .int .i64 x2] 258)).alloc (.cells #[.int .i64 y0, .int .i64 y1, .int .i64 y2] 258))).drewN n) os).cell? ⟨B, 0, none⟩ = some (.func (.func 210) #[] #[]) := fun n os => cell_grown (by have := Hb.out; simp; omega) ((((Below.refl _ W).alloc (Nat.le_refl _) _).alloc (by simp) _).cell (p := ⟨B, 0, none⟩) Hb.out |>.trans HB.out) n os
  have EQ : Hid (((W.alloc (.cells #[.int .i64 x0, .int .i64 x1, .int .i64 x2] 258)).alloc (.cells #[.int .i64 y0, .int .i64 y1, .int .i64 y2] 258)) = Go.Sort.grow W (#[.cells #[.int .i64 x0, .int .i64 x1, .int .i64 x2] 258] ++ #[.cells #[.int .i64 y0, .int .i64 y1, .int .i64 y2] 258])) := by
    show _ = _
    rw [Go.Sort.alloc_eq_grow, Go.Sort.alloc_eq_grow, Go.Sort.grow_grow]
  clear e0 e1 HB
  generalize ((W.alloc (.cells #[.int .i64 x0, .int .i64 x1, .int .i64 x2] 258)).alloc (.cells #[.int .i64 y0, .int .i64 y1, .int .i64 y2] 258)) = W2 at *
  go_quiet_grown (first | (go_at_call 210; refine Calls.grown_of (quotaRest _ _ _ _)) | (go_at_call 222; refine Calls.grown_of (cmpIntG _ _ _)))
  go_wp2
  go_ret
  exact ⟨rfl, nq, _, by rw [EQ.out]; show Go.Sort.grow (Go.Sort.grow (W.drewN nq) _) osq = _; rw [Go.Sort.grow_grow]⟩
set_option maxHeartbeats 1600000 in
/-- the whole: the row sorted; all else as it was, but for new blocks -/
theorem greatestFirst_any (f : Nat → Int × Int × Int) (blk cap : Nat) (d0 : Array Nat) (w : World) (hH : Go.Sort.HoldsK (enc3 f) 3 w blk 0 d0) (hblk : blk < w.heap.size) (hsz : d0.size ≤ 1048576) (ha : AscP id 0 d0.size d0) :
    Calls Tryz.prog 209 #[.slice (some ⟨blk, 0, none⟩) d0.size cap, .func (.func 210) #[] #[]] w fun e w' => e = .returned (.tuple #[]) ∧ ∃ d', (PermIn 0 d0.size d0 d' ∧ SortedIn (stT (ltOf (cfR f)) id) 0 d0.size d') ∧ Go.Sort.HoldsK (enc3 f) 3 w' blk 0 d' ∧ OutR blk (blk + 1) w w' := by
  have hb0 : Below w.heap.size w (w.alloc (.cells #[.func (.func 210) #[] #[]] 260)) := (Below.refl _ _).alloc (Nat.le_refl _) _
  have hH1 : Go.Sort.HoldsK (enc3 f) 3 (w.alloc (.cells #[.func (.func 210) #[] #[]] 260)) blk 0 d0 := fun j hj => ⟨(hb0.cell (p := ⟨blk, 0 + j, none⟩) hblk).trans (hH j hj).1, (World.frozen?_of_block (w := w) (a := ⟨blk, 0 + j, none⟩) (hb0.block blk hblk)).trans (hH j hj).2⟩
  have K : StK Tryz.prog f 234 #[.pointer (some ⟨w.heap.size, 0, none⟩)] (cfR f) (w.alloc (.cells #[.func (.func 210) #[] #[]] 260)) blk 0 d0 := by
    refine ⟨⟨fun _ => rfl, enc3_one f, hH1, by simp; omega⟩, fun m os dk hs x y => ?_, enters_of Tryz.func234 (by kernel_rfl) rfl, hsz⟩
    refine (byRest _ _ _ _ _ _ w.heap.size _ ?_)
    refine ((SWK.outR (⟨m, os, rfl⟩ : SWK (enc3 f) 3 _ blk 0 dk _)).cell (p := ⟨w.heap.size, 0, none⟩) (by simp) (by show w.heap.size < blk ∨ blk + 1 ≤ w.heap.size; omega)).trans ?_
    simp
  have HX := shide (sortStable_any K (cfR_swo f) id cap _ (SWK.start hH1) ha)
  have HF : Hid (∀ d' W, SWK (enc3 f) 3 (w.alloc (.cells #[.func (.func 210) #[] #[]] 260)) blk 0 d' W → d'.size = d0.size → Go.Sort.HoldsK (enc3 f) 3 W blk 0 d' ∧ OutR blk (blk + 1) w W) := fun d' W h hs => by
    refine ⟨h.holds (by simp; omega) hH1 hs, ?_⟩
    have h1 := SWK.outR h
    exact ⟨h1.os, h1.tape, h1.output, by have := h1.size; simp at this; omega, fun j hj hr => (h1.block j (by simp; omega) hr).trans (hb0.block j hj)⟩
  clear hH hH1 hb0 K ha
  go_enter Tryz.func209, Tryz.ntmps209
  go_wp2_with fail
  refine HX.out.mono ?_
  rintro e w1 ⟨rfl, d1, h2, h3⟩
  have HE := HF.out d1 w1 h3 h2.1.1
  have H2 := shide h2
  have H3 := shide HE
  clear HX HF h2 h3 HE
  go_wp2
  go_end0
  exact ⟨rfl, d1, H2.out, H3.out⟩
end Go.Proofs.YtdnodaoeflbfkaaGreat
/- impl.quotas. -/
namespace Go.Proofs.YtdnodaoeflbfkaaGreat
open Go.RowKit Go.BigFrame
set_option linter.unusedVariables false
/-- rows of three numbers, cell by cell -/
def rowsQ (F : Nat → Int × Int × Int) : List Nat → List Value
  | [] => []
  | p :: r => enc3 F p ++ rowsQ F r
theorem rowsQ_snoc (F : Nat → Int × Int × Int) (p : Nat) : ∀ l, rowsQ F (l ++ [p]) = rowsQ F l ++ enc3 F p
  | [] => by show enc3 F p ++ [] = _; rw [List.append_nil]; rfl
  | q :: l => by show enc3 F q ++ rowsQ F (l ++ [p]) = enc3 F q ++ rowsQ F l ++ _; rw [rowsQ_snoc F p l, List.append_assoc]
theorem rowsQ_get (F : Nat → Int × Int × Int) : ∀ (l : List Nat) (j : Nat), j < l.length * 3 → (rowsQ F l)[j]? = some ((enc3 F (l.getD (j / 3) 0))[j % 3]!)
  | [], j, h => by simp at h
  | p :: l, j, h => by
    show (enc3 F p ++ rowsQ F l)[j]? = _
    by_cases hj : j < 3
    · rw [List.getElem?_append_left (by exact hj), show j / 3 = 0 by omega, show j % 3 = j by omega]
      have : j = 0 ∨ j = 1 ∨ j = 2 := by omega
      rcases this with rfl | rfl | rfl <;> rfl
    · rw [List.getElem?_append_right (by show 3 ≤ j; omega)]
      have h1 := rowsQ_get F l (j - 3) (by rw [List.length_cons] at h; omega)
      show (rowsQ F l)[j - 3]? = _
      rw [h1, show j / 3 = (j - 3) / 3 + 1 by omega, show j % 3 = (j - 3) % 3 by omega]
      rfl
def QR (w : World) (base : Nat) (v : Value) (F : Nat → Int × Int × Int) (l : List Nat) (n : Nat) : Prop := w.ownsRow base 258 3 v n (rowsQ F l) ∧ n = l.length ∧ ∃ g, v.ownBlock = some g ∧ base ≤ g ∧ g < w.heap.size
theorem QR.below {w w' : World} {base : Nat} {v : Value} {F : Nat → Int × Int × Int} {l : List Nat} {n : Nat} (h : QR w base v F l n) (hb : Below w.heap.size w w') : QR w' base v F l n := by
  obtain ⟨h1, hn, g, h2, h3, h4⟩ := h
  refine ⟨uowns_frame h1 (fun x hx => ?_), hn, g, h2, h3, by have := hb.size; omega⟩
  unfold blkOf at hx
  rw [h2] at hx
  have : x = g := by simpa using hx
  subst this
  exact hb.block x h4
theorem QR.holds {w : World} {base g cap n : Nat} {F : Nat → Int × Int × Int} {l : List Nat} (h : QR w base (.slice (some ⟨g, 0, none⟩) n cap) F l n) : Go.Sort.HoldsK (enc3 F) 3 w g 0 l.toArray := by
  obtain ⟨h1, rfl, -⟩ := h
  intro j hj
  rw [Go.Sort.size_flatK] at hj
  have hj' : j < l.length * 3 := by simpa using hj
  have hc := h1.cellAt j hj'
  rw [rowsQ_get F l j hj'] at hc
  rw [Nat.zero_add, Go.Sort.get_flatK _ _ _ _ hj]
  refine ⟨?_, h1.frozenAt j⟩
  rw [hc]
  congr 4
  have hq : j / 3 < l.length := by omega
  rw [getElem!_pos l.toArray (j / 3) (by simpa using hq), List.getD_eq_getElem?_getD, List.getElem?_eq_getElem hq]
  simp
/-- rows of three numbers in memory, by their place -/
def R3 (w : World) (g n : Nat) (F : Nat → Int × Int × Int) : Prop := ∀ j, j < n → (w.cell? ⟨g, j * 3, none⟩ = some (.int .i64 (F j).1) ∧ w.cell? ⟨g, j * 3 + 1, none⟩ = some (.int .i64 (F j).2.1) ∧ w.cell? ⟨g, j * 3 + 2, none⟩ = some (.int .i64 (F j).2.2)) ∧ w.frozen? ⟨g, j * 3 + 1, none⟩ = false
theorem R3.of {F : Nat → Int × Int × Int} {w : World} {g : Nat} {d : Array Nat} (h : Go.Sort.HoldsK (enc3 F) 3 w g 0 d) : R3 w g d.size (fun j => F d[j]!) := fun j hj => by
  obtain ⟨h1, h2⟩ := holds3 h j hj
  rw [Nat.zero_add] at h1 h2
  exact ⟨h1, h2.2.1⟩
theorem R3.congr {F G : Nat → Int × Int × Int} {w : World} {g n : Nat} (h : R3 w g n F) (he : ∀ j, j < n → G j = F j) : R3 w g n G := fun j hj => by rw [he j hj]; exact h j hj
theorem R3.below {F : Nat → Int × Int × Int} {w w' : World} {g n B : Nat} (h : R3 w g n F) (hb : Below B w w') (hg : g < B) : R3 w' g n F := fun j hj => by
  obtain ⟨⟨a, b, c⟩, d⟩ := h j hj
  exact ⟨⟨(hb.cell (p := ⟨g, j * 3, none⟩) hg).trans a, (hb.cell (p := ⟨g, j * 3 + 1, none⟩) hg).trans b, (hb.cell (p := ⟨g, j * 3 + 2, none⟩) hg).trans c⟩, (World.frozen?_of_block (w := w) (a := ⟨g, j * 3 + 1, none⟩) (hb.block g hg)).trans d⟩
theorem addr_ne {g a b : Nat} (h : a ≠ b) : (⟨g, a, none⟩ : Addr) ≠ ⟨g, b, none⟩ := fun e => h (by injection e)
/-- one row's second number is another one -/
def upd3 (F : Nat → Int × Int × Int) (x : Nat) (z : Int) (j : Nat) : Int × Int × Int := if j = x then ((F x).1, z, (F x).2.2) else F j
theorem upd3_self (F : Nat → Int × Int × Int) (x : Nat) (z : Int) : upd3 F x z x = ((F x).1, z, (F x).2.2) := if_pos rfl
theorem upd3_ne (F : Nat → Int × Int × Int) (x : Nat) (z : Int) {j : Nat} (h : j ≠ x) : upd3 F x z j = F j := if_neg h
theorem R3.put {F : Nat → Int × Int × Int} {w : World} {g n x : Nat} (h : R3 w g n F) (hx : x < n) (z : Int) : R3 (w.setCell ⟨g, x * 3 + 1, none⟩ (.int .i64 z)) g n (upd3 F x z) := fun j hj => by
  obtain ⟨⟨a, b, c⟩, d⟩ := h j hj
  refine ⟨⟨?_, ?_, ?_⟩, by rw [World.frozen?_setCell]; exact d⟩
  · rw [World.cell?_setCell_other _ _ _ _ (addr_ne (by omega)), a]
    by_cases e : j = x
    · subst e; rw [upd3_self]
    · rw [upd3_ne _ _ _ e]
  · by_cases e : j = x
    · subst e; rw [upd3_self, World.cell?_setCell_same' _ _ _ (by rw [b]; rfl)]
    · rw [upd3_ne _ _ _ e, World.cell?_setCell_other _ _ _ _ (addr_ne (by omega)), b]
  · rw [World.cell?_setCell_other _ _ _ _ (addr_ne (by omega)), c]
    by_cases e : j = x
    · subst e; rw [upd3_self]
    · rw [upd3_ne _ _ _ e]
theorem Tryz.infoDQuota : (Tryz.prog.info? 258).map (fun i => (i.zero, i.size, i.bytes)) = some (some (.agg #[.int .i64 0, .int .i64 0, .int .i64 0]), 3, 24) := by kernel_rfl
theorem QR.lit (w : World) (base : Nat) (F : Nat → Int × Int × Int) (hb : base ≤ w.heap.size) : QR (w.alloc (.cells #[] 258)) base (.slice (some ⟨w.heap.size, 0, none⟩) 0 0) F [] 0 :=
  ⟨World.ownsRow_lit w #[] 0 hb (by decide) rfl, rfl, w.heap.size, rfl, hb, by simp⟩
set_option maxRecDepth 20000 in
set_option maxHeartbeats 6400000 in
theorem quotas_any (m : Int) (k : Nat) (c1 : UD) (v1 vO : Value) (lo hi base : Nat) (O : Nat → Bool) (w : World) (ht1 : tyS 1 k c1 1) (hx1 : uS w lo hi 1 k c1 v1) (hO : IR w base vO (natI (opensL k O))) (h64 : k ≤ 64) (hm : 0 < m ∧ m ≤ 10000) (hw : ∀ i, i < k → 0 ≤ gI (intL c1) i ∧ gI (intL c1) i ≤ 1000) (hs : 0 < sumTo (onO O (gI (intL c1))) k) :
    Calls Tryz.prog 159 #[.int .i64 m, v1, vO] w fun e w' => ∃ (g cap : Nat) (d : Array Nat), e = .returned (.slice (some ⟨g, 0, none⟩) d.size cap) ∧ (w.heap.size ≤ g ∧ g < w'.heap.size) ∧ d.toList.Perm (opensL k O) ∧ R3 w' g d.size (fun j => ((d[j]! : Int), wantsF k m (sumTo (onO O (gI (intL c1))) k) (gI (intL c1)) O d[j]!, rem m (sumTo (onO O (gI (intL c1))) k) (gI (intL c1)) d[j]!)) ∧ Below w.heap.size w w' := by
  obtain ⟨gO, capO, rfl, -, -⟩ := hO.shape
  obtain ⟨a1, p1, rfl, hy1⟩ := hx1
  have H1 : Hid (uS w lo hi 1 k c1 (.slice a1 k p1)) := ⟨_, _, rfl, hy1⟩
  have T1 := uhide ht1
  obtain ⟨i0, hi0, hz0, hz1, hz2⟩ := infoD Tryz.infoDQuota
  have hln : (natI (opensL k O)).length = (opensL k O).length := natI_len _
  have hle := opensL_le k O
  obtain ⟨ps, hps⟩ : ∃ ps, opensL k O = ps := ⟨_, rfl⟩
  have HPM : Hid (∀ j (h : j < ps.length), ps[j] < k ∧ O ps[j] = true) := fun j h => by
    have : ps[j] ∈ opensL k O := by rw [hps]; exact List.getElem_mem h
    exact mem_opensL.1 this
  have HCO : Hid (∀ wx, Below w.heap.size w wx → ∀ j (h : j < ps.length), wx.cell? ⟨gO, j, none⟩ = some (.int .i64 (ps[j] : Nat))) := fun wx hb j h => by
    rw [hps] at hO
    have := ((hO.below hb).1).cellAt j (by rw [natI_len, Nat.mul_one]; exact h)
    rw [this]
    unfold natI
    simp [h]
  rw [hln, hps]
  rw [hps] at hle
  generalize hS : sumTo (onO O (gI (intL c1))) k = S at *
  have HSUM : Hid (sumL ps (gI (intL c1)) = S) := by show _ = _; rw [← hps, sumL_opens, hS]
  have HWB := uhide hw
  have HSB : Hid (∀ q, 0 ≤ sumL (ps.take q) (gI (intL c1)) ∧ sumL (ps.take q) (gI (intL c1)) ≤ 64000) := fun q => by
    have h1 := sumL_bd (f := gI (intL c1)) (a := 1000) (ps.take q) (fun p hp => HWB.out p (by
      obtain ⟨j, hj, e⟩ := List.mem_iff_getElem.1 (List.mem_of_mem_take hp)
      rw [← e]; exact (HPM.out j hj).1))
    have h2 : (ps.take q).length ≤ 64 := by rw [List.length_take]; omega
    omega
  have hSB : S ≤ 64000 := by
    have := (HSB.out ps.length).2
    rw [List.take_length, HSUM.out] at this
    exact this
  have HSTK : Hid (∀ (f : Nat → Int) q (h : q < ps.length), sumL (ps.take (q + 1)) f = sumL (ps.take q) f + f ps[q]) := fun f q h => sumL_take f ps q h
  obtain ⟨F, hF⟩ : ∃ F : Nat → Int × Int × Int, ∀ p, F p = ((p : Int), quo m S (gI (intL c1)) p, rem m S (gI (intL c1)) p) := ⟨_, fun p => rfl⟩
  have HF := uhide hF
  have HQB : Hid (∀ p, p < k → _) := fun p hp => quo_bd (m := m) (s := S) (w := gI (intL c1)) (i := p) (by omega) hs (hw p hp).1
  have HPS := uhide hps
  have HSE := uhide hS
  clear hy1 ht1 hO hw hln hF hps hS
  go_enter Tryz.func159, Tryz.ntmps159
  go_wp2
  go_loopw [7, 18] (fun s i wr => ∃ (q : Nat), q ≤ ps.length ∧ i = .int .i64 q ∧ s = .int .i64 (sumL (ps.take q) (gI (intL c1))) ∧ wr = w) (fun _ i _ => ps.length - (intOf i).toNat)
  case atStart => exact ⟨0, Nat.zero_le _, rfl, rfl, rfl⟩
  case round =>
    obtain ⟨q, hq, rfl, rfl, rfl⟩ := hrel
    have hsb := HSB.out q
    by_cases hlt : q < ps.length
    · have x0 := HCO.out wr (Below.refl _ _) q hlt
      have hp := (HPM.out q hlt).1
      have HN := uhide (HSTK.out (gI (intL c1)) q hlt)
      obtain ⟨b1, off1, rfl, hb1, -⟩ := H1.out.cells (by omega)
      generalize ps[q] = p at *
      have q1 := cell_int T1.out H1.out p hp
      have hwp := HWB.out p hp
      generalize sumL (ps.take q) (gI (intL c1)) = SQ at *
      generalize gI (intL c1) p = X at *
      clear H1 T1 HPM HCO HSUM HWB HSB HSTK HF HQB HPS HSE
      go_wp2
      go_roundw
      case rel => exact ⟨q + 1, by omega, by go_num, by rw [HN.out], trivial⟩
      case measure => simp [intOf]; omega
    · have e : q = ps.length := by omega
      subst e
      rw [List.take_length, HSUM.out]
      have Q0 : Hid (QR (wr.alloc (.cells #[] 258)) wr.heap.size (.slice (some ⟨wr.heap.size, 0, none⟩) 0 0) F (ps.take 0) 0) := QR.lit wr wr.heap.size F (Nat.le_refl _)
      have B0 : Hid (Below wr.heap.size wr (wr.alloc (.cells #[] 258))) := (Below.refl _ _).alloc (Nat.le_refl _) _
      clear HSB hsb HSUM
      obtain ⟨w, rfl⟩ : ∃ w, w = wr := ⟨_, rfl⟩
      go_wp2
      go_loopw [10, 11, 33] (fun v sp i wr => ∃ (q g cap : Nat), q ≤ ps.length ∧ i = .int .i64 q ∧ v = .slice (some ⟨g, 0, none⟩) q cap ∧ sp = .int .i64 (m - sumL (ps.take q) (quo m S (gI (intL c1)))) ∧ Hid (QR wr w.heap.size (.slice (some ⟨g, 0, none⟩) q cap) F (ps.take q) q) ∧ Hid (Below w.heap.size w wr)) (fun _ _ i _ => ps.length - (intOf i).toNat)
      case atStart => exact ⟨0, w.heap.size, 0, Nat.zero_le _, rfl, rfl, by show _ = Value.int .i64 (m - 0); rw [Int.sub_zero], Q0, B0⟩
      case round =>
        clear Q0 B0
        obtain ⟨q, g, cap, hq, rfl, rfl, rfl, V, HB⟩ := hrel
        have HQS : Hid (∀ q, 0 ≤ sumL (ps.take q) (quo m S (gI (intL c1))) ∧ sumL (ps.take q) (quo m S (gI (intL c1))) ≤ 640000000) := fun q => by
          have h1 := sumL_bd (f := quo m S (gI (intL c1))) (a := 10000000) (ps.take q) (fun p hp => by
            have hpk : p < k := by
              obtain ⟨j, hj, e⟩ := List.mem_iff_getElem.1 (List.mem_of_mem_take hp)
              rw [← e]; exact (HPM.out j hj).1
            obtain ⟨z1, z2, -⟩ := HQB.out p hpk
            have z3 := prod_bd (a := m) (b := gI (intL c1) p) (m := 10000) (n := 1000) (by omega) (by omega) (HWB.out p hpk).1 (HWB.out p hpk).2
            omega)
          have h2 : (ps.take q).length ≤ 64 := by rw [List.length_take]; omega
          omega
        by_cases hlt : q < ps.length
        · have x0 := HCO.out wr HB.out q hlt
          have hp := (HPM.out q hlt).1
          have HN := uhide (HSTK.out (quo m S (gI (intL c1))) q hlt)
          have HTK : Hid (ps.take (q + 1) = ps.take q ++ [ps[q]]) := by
            show _ = _
            rw [List.take_add_one, List.getElem?_eq_getElem hlt]; rfl
          obtain ⟨b1, off1, rfl, hb1, -⟩ := (H1.out.below HB.out).cells (by omega)
          have hqs := HQS.out q
          have hqs2 := HQS.out (q + 1)
          rw [HN.out] at hqs2
          generalize ps[q] = p at *
          have q1 := cell_int T1.out (H1.out.below HB.out) p hp
          have hwp := HWB.out p hp
          obtain ⟨z1, z2, z3, z4, z5, z6⟩ := HQB.out p hp
          have zz := prod_bd (a := m) (b := gI (intL c1) p) (m := 10000) (n := 1000) (by omega) (by omega) hwp.1 hwp.2
          have HFp := uhide (HF.out p)
          generalize sumL (ps.take q) (quo m S (gI (intL c1))) = SQ at *
          generalize quo m S (gI (intL c1)) p = QQ at *
          generalize rem m S (gI (intL c1)) p = RR at *
          generalize gI (intL c1) p = X at *
          clear H1 T1 HPM HCO HWB HSTK HF HQB HPS HSE HQS
          have hws : w.heap.size ≤ wr.heap.size := HB.out.size
          have VO : Hid (wr.ownsRow w.heap.size 258 3 (.slice (some ⟨g, 0, none⟩) q cap) q (rowsQ F (ps.take q))) := V.out.1
          have hs0 : ¬ S = 0 := by omega
          have hwq : IntKind.i64.wrap QQ = QQ := by rw [IntKind.wrap_i64]; omega
          have zb : (S == 0) = false := by rw [beq_eq_false_iff_ne]; exact hs0
          go_wp2
          go_region_law (refine step_append_lies _ rfl (.tmp 43) (.tmp 52) 203 rfl w.heap.size 258 i0 _ 3 24 Tryz.underlying203 hi0 hz0 hz1 hz2 rfl (by decide) (.slice (some ⟨g, 0, none⟩) q cap) q (rowsQ F (ps.take q)) (by simp [Act.eval]) (VO.out.alloc _).drew ⟨wr.heap.size, 0, none⟩ 1 1 [.int .i64 p, .int .i64 QQ, .int .i64 RR] (by simp [Act.eval]) rfl (fun j u hj => cells_new wr [.int .i64 p, .int .i64 QQ, .int .i64 RR] _ j u hj) (fun x hx => by simp at hx; rcases hx with rfl | rfl | rfl <;> rfl) (by decide) (by unfold maxLen; omega) (by omega) (by simp; omega) _ rfl ?_; intro g' cap' w3 hown' hgrow3 hat3 hlt3)
          all_goals (
            have V3 : Hid (QR w3 w.heap.size (.slice (some ⟨g', 0, none⟩) (q + 1) cap') F (ps.take (q + 1)) (q + 1)) := by
              refine ⟨?_, by rw [List.length_take]; omega, g', rfl, ?_, hlt3⟩
              · rw [HTK.out, rowsQ_snoc]
                unfold enc3
                rw [HFp.out]
                exact hown'
              · exact (uowns_blk hown' rfl).1
            have HB3 : Hid (Below w.heap.size w w3) := Below.grown ((HB.out.alloc hws _).drew) hgrow3 (by simp; omega) (fun j hj => by
              obtain ⟨-, -, g9, e9, h9, -⟩ := V.out
              rw [e9] at hj; cases hj; exact h9)
            clear hown' hgrow3 hat3 hlt3 V HB VO HTK HFp
            go_wp2
            go_roundw
            case rel => exact ⟨q + 1, g', cap', by omega, by go_num, rfl, by rw [HN.out]; go_num, V3, HB3⟩
            case measure => simp [intOf]; omega)
        · have e : q = ps.length := by omega
          subst e
          rw [List.take_length]
          have hbd := left_bd (m := m) (s := S) (w := gI (intL c1)) (O := O) (L := k) hs HSE.out.symm
          obtain ⟨t, ht⟩ : ∃ t, leftT m S (gI (intL c1)) O k = t := ⟨_, rfl⟩
          have HT : Hid (leftT m S (gI (intL c1)) O k = t) := ht
          have hsq : sumL ps (quo m S (gI (intL c1))) = sumTo (onO O (quo m S (gI (intL c1)))) k := by rw [← HPS.out, sumL_opens]
          have htz : m - sumL ps (quo m S (gI (intL c1))) = (t : Int) := by
            rw [hsq, ← ht]; unfold leftT; omega
          have htl : t ≤ ps.length := by
            have h1 := opensL_len O k
            rw [HPS.out] at h1
            rw [← hsq, htz] at hbd
            omega
          rw [htz]
          have hqb : ∀ j, j < ps.length → 0 ≤ quo m S (gI (intL c1)) (ps.getD j 0) := fun j hj => by
            rw [List.getD_eq_getElem?_getD, List.getElem?_eq_getElem hj]
            exact (HQB.out _ (HPM.out j hj).1).1
          have hv2 := V.out
          rw [List.take_length] at hv2
          obtain ⟨-, -, g9, e9, h9, h8⟩ := V.out
          have hgg : g9 = g := by cases e9; rfl
          subst hgg
          have HX := greatestFirst_any F g9 cap ps.toArray wr hv2.holds h8 (by simp; omega) (asc_arr (by rw [← HPS.out]; exact opensL_asc O k))
          rw [show ps.toArray.size = ps.length by simp] at HX
          replace HX := uhide HX
          have HSV : Hid (∀ d1 : Array Nat, Go.Sort.PermIn 0 ps.length ps.toArray d1 → Go.Sort.SortedIn (stT (ltOf (cfR F)) id) 0 ps.length d1 → d1.size = ps.length ∧ d1.toList.Perm ps ∧ ∀ j, j < ps.length → (d1[j]! < k ∧ wantsF k m S (gI (intL c1)) O d1[j]! = quo m S (gI (intL c1)) d1[j]! + (if j < t then 1 else 0))) := fun d1 h1 h2 => by
            have hsz : d1.size = ps.length := h1.1
            have hpm : d1.toList.Perm (opensL k O) := by rw [HPS.out]; exact perm_whole (d := ps.toArray) (by simpa using h1)
            refine ⟨hsz, by rw [← HPS.out]; exact hpm, fun j hj => ?_⟩
            have hin : d1[j]! ∈ opensL k O := hpm.mem_iff.1 (by rw [getElem!_pos d1 j (by omega)]; simp)
            obtain ⟨hk, ho⟩ := mem_opensL.1 hin
            refine ⟨hk, ?_⟩
            obtain ⟨hP, hn⟩ := served (k := k) (t := t) (O := O) (r := rem m S (gI (intL c1))) (lt := ltOf (cfR F)) (d' := d1) (fun a b => by rw [cfR_lt, HF.out, HF.out]) (by rw [HPS.out]; exact h1) (by rw [HPS.out]; exact h2) (by rw [HPS.out]; exact htl)
            have hseg := segOf_eq hP hn
            unfold wantsF
            rw [HT.out, hseg]
            show onO O _ _ + _ = _
            unfold onO
            rw [if_pos ho]
            congr 1
            have hnd : d1.toList.Nodup := hpm.nodup_iff.2 (opensL_nodup k O)
            have hit := in_take (t := t) hnd (j := j) (by omega)
            by_cases hjt : j < t
            · rw [if_pos hjt, if_pos (by rw [decide_eq_true_eq]; exact hit.2 hjt)]
            · rw [if_neg hjt, if_neg (by rw [decide_eq_true_eq]; exact fun h => hjt (hit.1 h))]
          have HBB : Hid (∀ wx, OutR g9 (g9 + 1) wr wx → Below w.heap.size w wx) := fun wx h => by
            have hws := HB.out.size
            exact HB.out.trans (h.below h9 hws)
          have HQ2 : Hid (∀ p, p < k → 0 ≤ quo m S (gI (intL c1)) p ∧ quo m S (gI (intL c1)) p ≤ 10000000) := fun p hp => by
            obtain ⟨z1, z2, -⟩ := HQB.out p hp
            have zz := prod_bd (a := m) (b := gI (intL c1) p) (m := 10000) (n := 1000) (by omega) (by omega) (HWB.out p hp).1 (HWB.out p hp).2
            omega
          clear hv2 V HB H1 T1 HPM HCO HWB HSTK HQB HPS HSE HQS HT hsq htz hqb e9 hbd ht
          go_wp2_with fail
          refine HX.out.mono ?_
          rintro e w4 ⟨rfl, d1, ⟨h1, h2⟩, h3, h4⟩
          obtain ⟨hsz, hpm, hwt⟩ := HSV.out d1 h1 h2
          have HPM1 := uhide hpm
          have HWT := uhide hwt
          have HB4 := uhide (HBB.out w4 h4)
          have hg4 : g9 < w4.heap.size := by have := h4.size; omega
          have R4 : Hid (R3 w4 g9 ps.length (fun j => ((d1[j]! : Int), quo m S (gI (intL c1)) d1[j]! + (if j < 0 then 1 else 0), rem m S (gI (intL c1)) d1[j]!))) := by
            have := R3.of h3
            rw [hsz] at this
            exact this.congr (fun j hj => by rw [HF.out, if_neg (by omega), Int.add_zero])
          clear h1 h2 h3 h4 hpm hwt HX HSV HBB HF
          go_wp2
          go_loopw [63] (fun i wx => ∃ x : Nat, x ≤ t ∧ i = .int .i64 x ∧ Hid (R3 wx g9 ps.length (fun j => ((d1[j]! : Int), quo m S (gI (intL c1)) d1[j]! + (if j < x then 1 else 0), rem m S (gI (intL c1)) d1[j]!))) ∧ Hid (Below w.heap.size w wx) ∧ g9 < wx.heap.size) (fun i _ => t - (intOf i).toNat)
          case atStart => exact ⟨0, Nat.zero_le _, rfl, R4, HB4, hg4⟩
          case round =>
            clear R4 HB4 hg4
            obtain ⟨w5, rfl⟩ : ∃ w5, w5 = wr := ⟨_, rfl⟩
            obtain ⟨x, hx, rfl, R5, HB5, hg5⟩ := hrel
            by_cases hxt : x < t
            · obtain ⟨⟨i0, i1, i2⟩, f1⟩ := R5.out x (by omega)
              have hxl : x < ps.length := by omega
              have hb := HQ2.out _ (HWT.out x (by omega)).1
              have HP : Hid (∀ z, z = quo m S (gI (intL c1)) d1[x]! + 1 → R3 (w5.setCell ⟨g9, x * 3 + 1, none⟩ (.int .i64 z)) g9 ps.length (fun j => ((d1[j]! : Int), quo m S (gI (intL c1)) d1[j]! + (if j < x + 1 then 1 else 0), rem m S (gI (intL c1)) d1[j]!))) := fun z hz => (R5.out.put (by omega) z).congr (fun j hj => by
                by_cases e : j = x
                · subst e; rw [upd3_self, hz, if_pos (by omega)]
                · rw [upd3_ne _ _ _ e]
                  by_cases h : j < x
                  · rw [if_pos h, if_pos (by omega)]
                  · rw [if_neg h, if_neg (by omega)])
              have HB6 : Hid (∀ z, Below w.heap.size w (w5.setCell ⟨g9, x * 3 + 1, none⟩ z)) := fun z => HB5.out.setCell h9 z
              simp only at i0 i1 i2
              rw [if_neg (by omega), Int.add_zero] at i1
              clear HPM1 HWT HQ2 R5 HB5
              generalize quo m S (gI (intL c1)) d1[x]! = QQ at *
              go_wp2
              go_roundw
              case rel => exact ⟨x + 1, by omega, by go_num, HP.out _ rfl, HB6.out _, by simpa using hg5⟩
              case measure => simp [intOf]; omega
            · have e : x = t := by omega
              subst e
              go_wp2
              go_ret
              refine ⟨g9, cap, d1, by rw [hsz]; rfl, ⟨h9, hg5⟩, HPM1.out, ?_, HB5.out⟩
              rw [hsz]
              exact R5.out.congr (fun j hj => by rw [(HWT.out j hj).2])
end Go.Proofs.YtdnodaoeflbfkaaGreat
/- impl.handOut. -/
namespace Go.Proofs.YtdnodaoeflbfkaaGreat
open Go.RowKit Go.BigFrame
set_option linter.unusedVariables false
/-- what one gets of what it would -/
def minG (C out WT : Nat → Int) (p : Nat) : Int := if C p - out p < WT p then C p - out p else WT p
open Classical in
/-- the shares when those of a list have theirs -/
noncomputable def shareL (l : List Nat) (out G : Nat → Int) (p : Nat) : Int := if p ∈ l then out p + G p else out p
theorem shareL_in {l : List Nat} {out G : Nat → Int} {p : Nat} (h : p ∈ l) : shareL l out G p = out p + G p := if_pos h
theorem shareL_not {l : List Nat} {out G : Nat → Int} {p : Nat} (h : ¬ p ∈ l) : shareL l out G p = out p := if_neg h
theorem take_grow (l : List Nat) (q : Nat) (h : q < l.length) (p : Nat) : p ∈ l.take (q + 1) ↔ p ∈ l.take q ∨ p = l[q] := by
  rw [List.take_add_one, List.getElem?_eq_getElem h, List.mem_append]
  simp
theorem OutR.then_below {lo hi : Nat} {a b c : World} (h : OutR lo hi a b) (hb : Below b.heap.size b c) : OutR lo hi a c :=
  ⟨hb.os.trans h.os, hb.tape.trans h.tape, hb.output.trans h.output, Nat.le_trans h.size hb.size, fun k hk hr => (hb.block k (Nat.lt_of_lt_of_le hk h.size)).trans (h.block k hk hr)⟩
theorem OutR.at {b : Nat} {a w : World} (h : OutR b (b + 1) a w) (x : Nat) (v : Value) : OutR b (b + 1) a (w.setCell ⟨b, x, none⟩ v) :=
  ⟨h.os, h.tape, h.output, by simpa using h.size, fun k hk hr => by
    have hne : b ≠ k := by omega
    rw [← h.block k hk hr]
    simp [World.setCell, Array.getElem?_modify, hne]⟩
set_option maxRecDepth 20000 in
set_option maxHeartbeats 6400000 in
theorem handOut_any (k : Nat) (c2 : UD) (v2 : Value) (lo g cap bS : Nat) (d : Array Nat) (WT R out : Nat → Int) (w : World) (ht2 : tyS 1 k c2 1) (hx2 : uS w lo bS 1 k c2 v2) (hr : w.rowIs bS 3 k (fun j => .int .i64 (out j))) (h3 : R3 w g d.size (fun j => ((d[j]! : Int), WT d[j]!, R d[j]!))) (hg : g < w.heap.size) (hgb : g ≠ bS)
    (hd : ∀ j, j < d.size → d[j]! < k) (hnd : d.toList.Nodup) (h64 : d.size ≤ 64) (hb : ∀ p, p < k → (0 ≤ WT p ∧ WT p ≤ 10000) ∧ 0 ≤ out p ∧ out p ≤ gI (intL c2) p ∧ gI (intL c2) p ≤ 10000) :
    Calls Tryz.prog 158 #[.slice (some ⟨g, 0, none⟩) d.size cap, v2, .slice (some ⟨bS, 0, none⟩) k k] w fun e w' => e = .returned (.int .i64 (sumL d.toList (fun p => WT p - minG (gI (intL c2)) out WT p))) ∧ w'.rowIs bS 3 k (fun p => .int .i64 (shareL d.toList out (minG (gI (intL c2)) out WT) p)) ∧ OutR bS (bS + 1) w w' := by
  obtain ⟨a2, p2, rfl, hy2⟩ := hx2
  have H2 : Hid (uS w lo bS 1 k c2 (.slice a2 k p2)) := ⟨_, _, rfl, hy2⟩
  have T2 := uhide ht2
  have HD := uhide hd
  have HB := uhide hb
  have HSB : Hid (∀ q, 0 ≤ sumL (d.toList.take q) (fun p => WT p - minG (gI (intL c2)) out WT p) ∧ sumL (d.toList.take q) (fun p => WT p - minG (gI (intL c2)) out WT p) ≤ 640000) := fun q => by
    have h1 := sumL_bd (f := fun p => WT p - minG (gI (intL c2)) out WT p) (a := 10000) (d.toList.take q) (fun p hp => by
      obtain ⟨j, hj, hjd, e⟩ := mem_take.1 hp
      have := hb p (by rw [← e]; exact hd j hjd)
      show 0 ≤ WT p - minG (gI (intL c2)) out WT p ∧ WT p - minG (gI (intL c2)) out WT p ≤ 10000
      unfold minG
      split <;> omega)
    have h2 : (d.toList.take q).length ≤ 64 := by rw [List.length_take, Array.length_toList]; omega
    omega
  have HST : Hid (∀ q (h : q < d.size), sumL (d.toList.take (q + 1)) (fun p => WT p - minG (gI (intL c2)) out WT p) = sumL (d.toList.take q) (fun p => WT p - minG (gI (intL c2)) out WT p) + (WT d[q]! - minG (gI (intL c2)) out WT d[q]!)) := fun q h => by
    rw [sumL_take _ _ q (by rw [Array.length_toList]; exact h), getElem!_pos d q h]; simp
  have HNI : Hid (∀ q, q < d.size → ¬ d[q]! ∈ d.toList.take q) := fun q h hm => by
    have := (in_take hnd h).1 hm
    omega
  have HTG : Hid (∀ q, q < d.size → ∀ p, p ∈ d.toList.take (q + 1) ↔ p ∈ d.toList.take q ∨ p = d[q]!) := fun q h p => by
    rw [take_grow _ q (by rw [Array.length_toList]; exact h), getElem!_pos d q h]; simp
  have R0 : Hid (w.rowIs bS 3 k (fun p => .int .i64 (shareL (d.toList.take 0) out (minG (gI (intL c2)) out WT) p))) := hr.congr (fun p _ => by rw [shareL_not (by simp)])
  have HBL := uhide hr.lt
  have H3 := uhide h3
  clear hy2 ht2 hd hb hr h3 hnd
  go_enter Tryz.func158, Tryz.ntmps158
  go_wp2
  go_loopw [7, 13] (fun s i wr => ∃ q : Nat, q ≤ d.size ∧ i = .int .i64 q ∧ s = .int .i64 (sumL (d.toList.take q) (fun p => WT p - minG (gI (intL c2)) out WT p)) ∧ Hid (wr.rowIs bS 3 k (fun p => .int .i64 (shareL (d.toList.take q) out (minG (gI (intL c2)) out WT) p))) ∧ Hid (OutR bS (bS + 1) w wr)) (fun _ i _ => d.size - (intOf i).toNat)
  case atStart => exact ⟨0, Nat.zero_le _, rfl, rfl, R0, ⟨rfl, rfl, rfl, Nat.le_refl _, fun _ _ _ => rfl⟩⟩
  case round =>
    clear R0
    obtain ⟨q, hq, rfl, rfl, RW, HO⟩ := hrel
    by_cases hlt : q < d.size
    · have hdk := HD.out q hlt
      obtain ⟨b2, off2, rfl, hb2, -⟩ := (H2.out.out HO.out (.inl (Nat.le_refl _))).cells (by omega)
      have q2 := cell_int T2.out (H2.out.out HO.out (.inl (Nat.le_refl _))) d[q]! hdk
      have hb2s : b2 < bS := by
        obtain ⟨a9, p9, e9, -, h9⟩ := H2.out
        obtain ⟨b', o', e', -, hlt', -⟩ := h9 (by omega)
        cases e9; cases e'; exact hlt'
      have hne2 : b2 ≠ bS := by omega
      have R3q : Hid (R3 wr g d.size (fun j => ((d[j]! : Int), WT d[j]!, R d[j]!))) := fun j hj => by
        obtain ⟨⟨y0, y1, y2⟩, y3⟩ := H3.out j hj
        have hr' : g < bS ∨ bS + 1 ≤ g := by omega
        exact ⟨⟨(HO.out.cell (p := ⟨g, j * 3, none⟩) hg hr').trans y0, (HO.out.cell (p := ⟨g, j * 3 + 1, none⟩) hg hr').trans y1, (HO.out.cell (p := ⟨g, j * 3 + 2, none⟩) hg hr').trans y2⟩, (World.frozen?_of_block (w := w) (a := ⟨g, j * 3 + 1, none⟩) (HO.out.block g hg hr')).trans y3⟩
      obtain ⟨⟨x0, x1, x2⟩, -⟩ := R3q.out q hlt
      simp only at x0 x1 x2
      have xo := RW.out.cell hdk
      have fo := RW.out.frozen d[q]!
      rw [shareL_not (HNI.out q hlt)] at xo
      have hsb := HSB.out q
      have hsb2 := HSB.out (q + 1)
      rw [HST.out q hlt] at hsb2
      have HS := uhide (HST.out q hlt)
      have hbb := HB.out d[q]! hdk
      have HMG : Hid (minG (gI (intL c2)) out WT d[q]! = if gI (intL c2) d[q]! - out d[q]! < WT d[q]! then gI (intL c2) d[q]! - out d[q]! else WT d[q]!) := rfl
      have HRW : Hid (∀ (wx : World) z, wx.rowIs bS 3 k (fun p => .int .i64 (shareL (d.toList.take q) out (minG (gI (intL c2)) out WT) p)) → z = out d[q]! + minG (gI (intL c2)) out WT d[q]! → World.rowIs (wx.setCell ⟨bS, d[q]!, none⟩ (.int .i64 z)) bS 3 k (fun p => .int .i64 (shareL (d.toList.take (q + 1)) out (minG (gI (intL c2)) out WT) p))) := fun wx z h hz => (h.set d[q]! (.int .i64 z)).congr (fun p _ => by
        by_cases e : p = d[q]!
        · subst e
          rw [if_pos rfl, shareL_in ((HTG.out q hlt _).2 (.inr rfl)), hz]
        · rw [if_neg e]
          by_cases hm : p ∈ d.toList.take q
          · rw [shareL_in hm, shareL_in ((HTG.out q hlt _).2 (.inl hm))]
          · rw [shareL_not hm, shareL_not (fun h => ((HTG.out q hlt _).1 h).elim hm e)])
      have hbl : bS < wr.heap.size := RW.out.lt
      have hgl : g < wr.heap.size := by have := HO.out.size; omega
      generalize sumL (d.toList.take q) (fun p => WT p - minG (gI (intL c2)) out WT p) = SQ at *
      generalize minG (gI (intL c2)) out WT d[q]! = G at *
      generalize R d[q]! = RR at *
      generalize WT d[q]! = WW at *
      generalize out d[q]! = OO at *
      generalize gI (intL c2) d[q]! = CC at *
      generalize d[q]! = p at *
      clear H2 T2 HD HB HSB HST HNI HTG H3 R3q
      have hG : G = min WW (CC - OO) := by rw [HMG.out]; split <;> omega
      subst hG
      clear HMG
      go_wp2
      go_quiet (fail)
      go_wp2
      have HB2 : Hid (∀ j, Below wr.heap.size wr ((wr.alloc (.cells #[.int .i64 p, .int .i64 WW, .int .i64 RR] 258)).drewN j)) := fun j => below_drewN ((Below.refl _ _).alloc (Nat.le_refl _) _) j
      go_roundw
      case rel => exact ⟨q + 1, by omega, by go_num, by rw [HS.out], HRW.out _ _ (rowIs_below RW.out (HB2.out _)) rfl, (HO.out.then_below (HB2.out _)).at _ _⟩
      case measure => simp [intOf]; omega
    · have e : q = d.size := by omega
      subst e
      rw [show d.toList.take d.size = d.toList from by rw [← Array.length_toList, List.take_length]] at RW ⊢
      go_wp2
      go_ret
      exact ⟨rfl, RW.out, HO.out⟩
end Go.Proofs.YtdnodaoeflbfkaaGreat
/- impl.Divide. -/
namespace Go.Proofs.YtdnodaoeflbfkaaGreat
open Go.RowKit Go.BigFrame
set_option linter.unusedVariables false
theorem open_none {L : Nat} {w c out : Nat → Int} : (opensL L (openF L w c out)).length = 0 ↔ ¬ 0 < openS L w c out := by
  have e : openS L w c out = sumL (opensL L (openF L w c out)) w := (sumL_opens _ _ _).symm
  have hp : ∀ p ∈ opensL L (openF L w c out), 0 < w p := fun p hp => by
    have := (mem_opensL.1 hp).2
    unfold openF at this
    rw [decide_eq_true_eq] at this
    exact this.2.1
  rw [e]
  generalize opensL L (openF L w c out) = l at *
  cases l with
  | nil => simp [sumL]
  | cons p r =>
    have h1 := hp p (by simp)
    have h2 : 0 ≤ sumL r w := by
      clear e
      have : ∀ q ∈ r, 0 < w q := fun q hq => hp q (by simp [hq])
      clear hp
      induction r with
      | nil => exact Int.le_refl _
      | cons q r ih =>
        have h3 := this q (by simp)
        have h4 := ih (fun x hx => this x (by simp [hx]))
        show 0 ≤ w q + sumL r w
        omega
    constructor
    · intro h; cases h
    · intro h; exact (h (by show 0 < w p + sumL r w; omega)).elim
/-- what a round of the program's does is what a round does -/
theorem round_eq {L : Nat} {n : Int} {w c out : Nat → Int} (hn : 0 < n) (hw : ∀ i, 0 ≤ w i) (ho : ∀ i, i < L → 0 ≤ out i ∧ out i ≤ c i) (hs : 0 < openS L w c out) {l : List Nat} (hl : l.Perm (opensL L (openF L w c out))) :
    sumL l (fun p => wantsF L n (openS L w c out) w (openF L w c out) p - minG c out (wantsF L n (openS L w c out) w (openF L w c out)) p) = n - sumTo (getsF L n w c out) L ∧
    ∀ i, i < L → shareL l out (minG c out (wantsF L n (openS L w c out) w (openF L w c out))) i = out i + getsF L n w c out i := by
  have hG : ∀ i, minG c out (wantsF L n (openS L w c out) w (openF L w c out)) i = getsF L n w c out i := fun i => rfl
  have h0 : ∀ i, i < L → openF L w c out i = false → getsF L n w c out i = 0 ∧ wantsF L n (openS L w c out) w (openF L w c out) i = 0 := fun i hi hf => by
    have h1 := (wants_bd (L := L) (m := n) (O := openF L w c out) (w := w) (by omega) hw hs rfl i).2.2 hf
    refine ⟨?_, h1⟩
    unfold getsF
    rw [h1]
    have := ho i hi
    rw [if_neg (by omega)]
  refine ⟨?_, fun i hi => ?_⟩
  · rw [sumL_perm hl, sumL_opens]
    have e1 : sumTo (onO (openF L w c out) (fun p => wantsF L n (openS L w c out) w (openF L w c out) p - minG c out (wantsF L n (openS L w c out) w (openF L w c out)) p)) L = sumTo (fun p => wantsF L n (openS L w c out) w (openF L w c out) p - getsF L n w c out p) L := sumTo_congr L (fun i hi => by
      unfold onO
      cases hf : openF L w c out i
      · rw [if_neg (by decide)]
        obtain ⟨h1, h2⟩ := h0 i hi hf
        rw [h1, h2]; rfl
      · rw [if_pos rfl]; rfl)
    rw [e1]
    have h2 := sumTo_add (fun p => wantsF L n (openS L w c out) w (openF L w c out) p - getsF L n w c out p) (getsF L n w c out) L
    have h3 := wants_sum (m := n) (w := w) (O := openF L w c out) (L := L) (s := openS L w c out) hs rfl
    have h4 : sumTo (fun i => (wantsF L n (openS L w c out) w (openF L w c out) i - getsF L n w c out i) + getsF L n w c out i) L = sumTo (wantsF L n (openS L w c out) w (openF L w c out)) L := sumTo_congr L (fun i _ => by omega)
    rw [h4, h3] at h2
    omega
  · by_cases hm : i ∈ l
    · rw [shareL_in hm]; rfl
    · rw [shareL_not hm]
      have hf : openF L w c out i = false := by
        cases hf : openF L w c out i
        · rfl
        · exact (hm (hl.mem_iff.2 (mem_opensL.2 ⟨hi, hf⟩))).elim
      rw [(h0 i hi hf).1]; omega
theorem rowIs_oS {w : World} {base b n : Nat} {t : TypeId} {f : Nat → Int} (h : w.rowIs b t n (fun j => .int .i64 (f j))) (hn : n ≤ maxLen) (hb : base ≤ b) : oS w 1 n (ofInts (ofFn n f)) (.slice (some ⟨b, 0, none⟩) n n) [b] ∧ own2 [b] base w.heap.size := by
  have hlt := h.lt
  obtain ⟨c, h1, h2, h3⟩ := h
  refine ⟨⟨by decide, t, (ofFn n f).map (Value.int .i64), [], ⟨by rw [List.length_map, ofFn_len, Nat.mul_one], .inr ⟨b, n, c, rfl, Nat.zero_le _, h1, Nat.le_refl _, hn, by rw [h2, Nat.mul_one], ?_⟩⟩, ofInts_own _, rfl⟩, by simp, fun s hs => by simp at hs; omega⟩
  apply List.ext_getElem?
  intro j
  rw [Nat.mul_one, List.getElem?_take]
  by_cases hj : j < n
  · rw [if_pos hj, Array.getElem?_toList, h3 j hj, List.getElem?_map, List.getElem?_eq_getElem (by rw [ofFn_len]; exact hj), ofFn_get]
    rfl
  · rw [if_neg hj, List.getElem?_eq_none (by rw [List.length_map, ofFn_len]; omega)]
theorem lit_oS (w : World) (t : TypeId) : oS (w.alloc (.cells #[] t)) 1 0 (ofInts []) (.slice (some ⟨w.heap.size, 0, none⟩) 0 0) [w.heap.size] ∧ own2 [w.heap.size] w.heap.size (w.alloc (.cells #[] t)).heap.size :=
  ⟨⟨by decide, t, [], [], World.ownsRow_lit w #[] 0 (Nat.zero_le _) (by decide) rfl, ⟨rfl, rfl⟩, rfl⟩, by simp, fun s hs => by simp at hs; subst hs; simp⟩
set_option maxRecDepth 20000 in
set_option maxHeartbeats 6400000 in
theorem iDivide_any (n : Int) (k1 k2 : Nat) (c1 c2 : UD) (v1 v2 : Value) (lo hi lo' hi' : Nat) (w : World) (hn0 : inK .i64 n) (ht1 : tyS 1 k1 c1 1) (ht2 : tyS 1 k2 c2 1) (hx1 : uS w lo hi 1 k1 c1 v1) (hx2 : uS w lo' hi' 1 k2 c2 v2) (z : List Int) (hz : (¬ rightP n (intL c1) (intL c2) → z = []) ∧ (rightP n (intL c1) (intL c2) → z = divL n (intL c1) (intL c2))) :
    Calls Tryz.prog 78 #[.int .i64 n, v1, v2] w fun e w' => ∃ c S, e = .returned c ∧ oS w' 1 z.length (ofInts z) c S ∧ own2 S w.heap.size w'.heap.size ∧ Below w.heap.size w w' := by
  obtain ⟨r, hr⟩ := bool_iff (rightP n (intL c1) (intL c2))
  have HR := uhide (divisionOk_any n k1 k2 c1 c2 v1 v2 lo hi lo' hi' w r ht1 ht2 hx1 hx2 hr)
  have hl1 := intL_len ht1
  have hl2 := intL_len ht2
  clear hn0
  have HA : Hid (∀ o, Below w.heap.size w (w.alloc o)) := fun o => (Below.refl _ _).alloc (Nat.le_refl _) _
  cases r
  · have hz1 := hz.1 (fun h => by have := hr.2 h; cases this)
    subst hz1
    obtain ⟨a1, p1, rfl, hy1⟩ := hx1
    obtain ⟨a2, p2, rfl, hy2⟩ := hx2
    clear hy1 hy2 ht1 ht2 hl1 hl2 hr hz
    go_enter Tryz.func78, Tryz.ntmps78
    go_wp2_with fail
    refine HR.out.mono ?_
    rintro e w1 ⟨rfl, rfl⟩
    go_wp2
    go_ret
    first
      | exact ⟨_, _, rfl, (lit_oS _ _).1, (lit_oS _ _).2, HA.out _⟩
      | exact ⟨_, rfl, _, (lit_oS _ _).1, (lit_oS _ _).2, HA.out _⟩
  have hrp := hr.1 rfl
  have hz1 := hz.2 hrp
  unfold divL at hz1
  rw [hl1] at hz1
  unfold rightP at hrp
  rw [hl1, hl2] at hrp
  obtain ⟨⟨hn, h64, hk⟩, hg⟩ := hrp
  have HG : Hid (∀ i, i < k1 → goodAt (intL c1) (intL c2) i) := hg
  subst hk
  have HZ := uhide hz1
  have HWN : Hid (∀ i, 0 ≤ gI (intL c1) i) := gI_nn (fun i hi => (HG.out i (by rw [hl1] at hi; exact hi)).1.1)
  have HC : Hid (∀ i, i < k1 → 0 ≤ (gI (intL c2)) i ∧ (gI (intL c2)) i ≤ 10000) := fun i hi => (HG.out i hi).2
  have HWB : Hid (∀ i, i < k1 → 0 ≤ (gI (intL c1)) i ∧ (gI (intL c1)) i ≤ 1000) := fun i hi => (HG.out i hi).1
  have hx2c := hx2.clip
  obtain ⟨a1, p1, rfl, hy1⟩ := hx1
  obtain ⟨a2, p2, rfl, hy2⟩ := hx2
  have H1 : Hid (uS w lo hi 1 k1 c1 (.slice a1 k1 p1)) := ⟨_, _, rfl, hy1⟩
  have H2 : Hid (uS w lo' w.heap.size 1 k1 c2 (.slice a2 k1 p2)) := hx2c
  have T1 := uhide ht1
  have T2 := uhide ht2
  generalize hRES : divF k1 (gI (intL c1)) (gI (intL c2)) n.toNat n (fun _ => 0) = RES at HZ
  have HD : Hid (divF k1 (gI (intL c1)) (gI (intL c2)) n.toNat n (fun _ => 0) = RES) := hRES
  have HO0 : Hid (∀ i, i < k1 → 0 ≤ (fun _ => 0 : Nat → Int) i ∧ (fun _ => 0 : Nat → Int) i ≤ (gI (intL c2)) i) := fun i hi => ⟨Int.le_refl _, (HC.out i hi).1⟩
  have R0 : Hid (World.rowIs (w.alloc (.cells (madeCells #[.int .i64 0] k1) 3)) w.heap.size 3 k1 (fun j => .int .i64 ((fun _ => 0 : Nat → Int) j))) := World.rowIs_made w (.int .i64 0) k1 3
  have HB0 : Hid (Below w.heap.size w (w.alloc (.cells (madeCells #[.int .i64 0] k1) 3))) := (Below.refl _ _).alloc (Nat.le_refl _) _
  have hmk := run_make_row' (P := Tryz.prog) 28 3 (.int .i64 0) 8 Tryz.underlying28 Tryz.infoDInt rfl .i64 .i64 k1 (by omega) (by omega)
  clear hz hz1 hr hg hl1 hl2 hy1 hy2 ht1 ht2 hRES hx2c HG
  go_enter Tryz.func78, Tryz.ntmps78
  go_wp2_with fail
  refine HR.out.mono ?_
  rintro e w1 ⟨rfl, rfl⟩
  clear HR
  go_wp2
  clear hmk
  obtain ⟨w, rfl⟩ : ∃ w, w = w1 := ⟨_, rfl⟩
  go_loopw [8] (fun nn w2 => ∃ (f : Nat) (m : Int) (out : Nat → Int), nn = .int .i64 m ∧ 0 ≤ m ∧ m ≤ 10000 ∧ m.toNat ≤ f ∧ Hid (divF k1 (gI (intL c1)) (gI (intL c2)) f m out = RES) ∧ Hid (∀ i, i < k1 → 0 ≤ out i ∧ out i ≤ (gI (intL c2)) i) ∧ Hid (w2.rowIs w.heap.size 3 k1 (fun j => .int .i64 (out j))) ∧ Hid (Below w.heap.size w w2)) (fun nn _ => (intOf nn).toNat)
  case atStart => exact ⟨n.toNat, n, fun _ => 0, rfl, hn.1, hn.2, Nat.le_refl _, HD, HO0, R0, HB0⟩
  case round =>
    clear R0 HB0 HD HO0
    obtain ⟨w2, rfl⟩ : ∃ w2, w2 = wr := ⟨_, rfl⟩
    obtain ⟨f, m, out, rfl, hm0, hm1, hf, HD, HO, R2, HB2⟩ := hrel
    by_cases hmp : 0 < m
    · have HX := uhide (openPlaces_any k1 c1 c2 (.slice a1 k1 p1) (.slice a2 k1 p2) lo hi lo' w.heap.size w.heap.size out w2 T1.out T2.out (H1.out.below HB2.out) (H2.out.below HB2.out) h64 R2.out)
      go_wp2_with fail
      refine HX.out.mono ?_
      rintro e w3 ⟨vO, rfl, hI, hb3⟩
      have HB3 : Hid (Below w.heap.size w w3) := HB2.out.trans (hb3.mono HB2.out.size)
      have R3 := uhide (rowIs_below R2.out hb3)
      have hws3 : w.heap.size < w3.heap.size := R3.out.lt
      have hw23 : w.heap.size < w2.heap.size := R2.out.lt
      obtain ⟨gO, capO, rfl, hgO, hgO2⟩ := hI.shape
      rw [natI_len] at *
      have HN := uhide (open_none (L := k1) (w := gI (intL c1)) (c := gI (intL c2)) (out := out))
      have hol := opensL_le k1 (openF k1 (gI (intL c1)) (gI (intL c2)) out)
      have HIR := uhide hI
      clear hI hb3 HX R2
      by_cases hs : 0 < openS k1 (gI (intL c1)) (gI (intL c2)) out
      rotate_left
      · have hlen := HN.out.2 hs
        have hres : RES = out := by rw [← HD.out]; exact divF_end (fun h => hs h.2)
        subst hres
        rw [hlen] at *
        clear HN HIR HO HD HWN HC HWB H1 H2 T1 T2 HB2
        go_wp2
        go_ret
        first
          | exact ⟨_, _, rfl, by rw [HZ.out, ofFn_len]; exact (rowIs_oS (base := w.heap.size) R3.out (by unfold maxLen; omega) (Nat.le_refl _)).1, (rowIs_oS (base := w.heap.size) R3.out (by unfold maxLen; omega) (Nat.le_refl _)).2, HB3.out⟩
          | exact ⟨_, rfl, _, by rw [HZ.out, ofFn_len]; exact (rowIs_oS (base := w.heap.size) R3.out (by unfold maxLen; omega) (Nat.le_refl _)).1, (rowIs_oS (base := w.heap.size) R3.out (by unfold maxLen; omega) (Nat.le_refl _)).2, HB3.out⟩
      have hlp : 0 < (opensL k1 (openF k1 (gI (intL c1)) (gI (intL c2)) out)).length := by
        refine Nat.pos_of_ne_zero (fun h => HN.out.1 h hs)
      have HQ := uhide (quotas_any m k1 c1 (.slice a1 k1 p1) (.slice (some ⟨gO, 0, none⟩) (opensL k1 (openF k1 (gI (intL c1)) (gI (intL c2)) out)).length capO) lo hi w2.heap.size (openF k1 (gI (intL c1)) (gI (intL c2)) out) w3 T1.out (H1.out.below HB3.out) HIR.out h64 ⟨hmp, hm1⟩ HWB.out hs)
      have HRE : Hid (∀ l : List Nat, l.Perm (opensL k1 (openF k1 (gI (intL c1)) (gI (intL c2)) out)) → _) := fun l hl => round_eq (n := m) hmp HWN.out HO.out hs hl
      have HGA := uhide (gets_all (L := k1) (n := m) (w := gI (intL c1)) (c := gI (intL c2)) (out := out) hmp HWN.out HO.out hs)
      have HWT : Hid (∀ p, p < k1 → (0 ≤ wantsF k1 m (openS k1 (gI (intL c1)) (gI (intL c2)) out) (gI (intL c1)) (openF k1 (gI (intL c1)) (gI (intL c2)) out) p ∧ wantsF k1 m (openS k1 (gI (intL c1)) (gI (intL c2)) out) (gI (intL c1)) (openF k1 (gI (intL c1)) (gI (intL c2)) out) p ≤ 10000) ∧ 0 ≤ out p ∧ out p ≤ gI (intL c2) p ∧ gI (intL c2) p ≤ 10000) := fun p hp => by
        have h1 := wants_bd (L := k1) (m := m) (O := openF k1 (gI (intL c1)) (gI (intL c2)) out) (w := gI (intL c1)) (by omega) HWN.out hs rfl p
        have h2 := HO.out p hp
        have h3 := HC.out p hp
        have h4 := h1.2.1 hp
        have h5 : wantsF k1 m (openS k1 (gI (intL c1)) (gI (intL c2)) out) (gI (intL c1)) (openF k1 (gI (intL c1)) (gI (intL c2)) out) p ≤ m := h4
        have h6 : 0 ≤ wantsF k1 m (openS k1 (gI (intL c1)) (gI (intL c2)) out) (gI (intL c1)) (openF k1 (gI (intL c1)) (gI (intL c2)) out) p := h1.1
        omega
      have HD2 : Hid (∃ f', f = f' + 1 ∧ divF k1 (gI (intL c1)) (gI (intL c2)) f' (m - sumTo (getsF k1 m (gI (intL c1)) (gI (intL c2)) out) k1) (fun i => out i + getsF k1 m (gI (intL c1)) (gI (intL c2)) out i) = RES) := by
        cases f with
        | zero => omega
        | succ f' => exact ⟨f', rfl, by rw [← HD.out]; exact (divF_go ⟨hmp, hs⟩).symm⟩
      have HMO : Hid (∀ p, p ∈ opensL k1 (openF k1 (gI (intL c1)) (gI (intL c2)) out) → p < k1) := fun p hp => (mem_opensL.1 hp).1
      have HND : Hid (∀ l : List Nat, l.Perm (opensL k1 (openF k1 (gI (intL c1)) (gI (intL c2)) out)) → l.Nodup) := fun l hl => hl.nodup_iff.2 (opensL_nodup _ _)
      have zl : (((opensL k1 (openF k1 (gI (intL c1)) (gI (intL c2)) out)).length : Int) == 0) = false := by rw [beq_eq_false_iff_ne]; omega
      clear HN HIR HD HWN HC HWB
      generalize hLN : (opensL k1 (openF k1 (gI (intL c1)) (gI (intL c2)) out)).length = LN at *
      have HLN := uhide hLN
      clear hLN
      go_wp2_with fail
      refine HQ.out.mono ?_
      rintro e w4 ⟨gR, capR, d, rfl, ⟨hg1, hg2⟩, hpm, hR3, hb4⟩
      have HB4 : Hid (Below w.heap.size w w4) := HB3.out.trans (hb4.mono HB3.out.size)
      have R4 := uhide (rowIs_below R3.out hb4)
      have hdk : ∀ j, j < d.size → d[j]! < k1 := fun j hj => HMO.out _ (hpm.mem_iff.1 (by rw [getElem!_pos d j hj]; simp))
      have hds : d.size ≤ 64 := by
        have := hpm.length_eq
        rw [Array.length_toList, HLN.out] at this
        omega
      have HH := uhide (handOut_any k1 c2 (.slice a2 k1 p2) lo' gR capR w.heap.size d (wantsF k1 m (openS k1 (gI (intL c1)) (gI (intL c2)) out) (gI (intL c1)) (openF k1 (gI (intL c1)) (gI (intL c2)) out)) (rem m (openS k1 (gI (intL c1)) (gI (intL c2)) out) (gI (intL c1))) out w4 T2.out (H2.out.below HB4.out) R4.out hR3 hg2 (by omega) hdk (HND.out _ hpm) hds HWT.out)
      obtain ⟨hsum, hsh⟩ := HRE.out _ hpm
      rw [hsum] at HH
      have HSH := uhide hsh
      obtain ⟨f', rfl, hd2⟩ := HD2.out
      obtain ⟨hga, hgb, hgc⟩ := HGA.out
      have HGB := uhide hga
      have HD3 := uhide hd2
      clear hsum hsh hd2 hga HD2 HGA HQ HRE hpm hR3 hb4 hdk HWT HMO HND R3 HB3 HLN H1 T1 H2 T2
      generalize getsF k1 m (gI (intL c1)) (gI (intL c2)) out = G at *
      generalize sumTo G k1 = SG at *
      go_wp2_with fail
      refine HH.out.mono ?_
      rintro e w5 ⟨rfl, hr5, ho5⟩
      have R5 : Hid (w5.rowIs w.heap.size 3 k1 (fun j => .int .i64 ((fun i => out i + G i) j))) := hr5.congr (fun j hj => by rw [HSH.out j hj])
      have HB5 : Hid (Below w.heap.size w w5) := HB4.out.trans (ho5.below (Nat.le_refl _) (by have := HB4.out.size; exact this))
      have HO5 : Hid (∀ i, i < k1 → 0 ≤ (fun i => out i + G i) i ∧ (fun i => out i + G i) i ≤ (gI (intL c2)) i) := fun i hi => by
        have h1 := HGB.out i hi
        have h2 := HO.out i hi
        show 0 ≤ out i + G i ∧ out i + G i ≤ _
        omega
      clear hr5 ho5 HSH HH HGB HO R4 HB4
      go_wp2
      go_roundw
      case rel => exact ⟨f', m - SG, _, by go_num, by omega, by omega, by omega, HD3, HO5, R5, HB5⟩
      case measure => simp [intOf]; omega
    · have hm : m = 0 := by omega
      subst hm
      have hres : RES = out := by rw [← HD.out]; exact divF_end (fun h => hmp h.1)
      subst hres
      clear HO HD HWN HC HWB H1 H2 T1 T2
      go_wp2
      go_ret
      first
        | exact ⟨_, _, rfl, by rw [HZ.out, ofFn_len]; exact (rowIs_oS (base := w.heap.size) R2.out (by unfold maxLen; omega) (Nat.le_refl _)).1, (rowIs_oS (base := w.heap.size) R2.out (by unfold maxLen; omega) (Nat.le_refl _)).2, HB2.out⟩
        | exact ⟨_, rfl, _, by rw [HZ.out, ofFn_len]; exact (rowIs_oS (base := w.heap.size) R2.out (by unfold maxLen; omega) (Nat.le_refl _)).1, (rowIs_oS (base := w.heap.size) R2.out (by unfold maxLen; omega) (Nat.le_refl _)).2, HB2.out⟩
end Go.Proofs.YtdnodaoeflbfkaaGreat
/- Shares, by the program. -/
namespace Go.Proofs.YtdnodaoeflbfkaaGreat
open Go.RowKit Go.BigFrame
set_option linter.unusedVariables false

def wsK (W : WaD) (l : List IsD) (k : Nat) : List Value := ((wsOf W l).take k).map (Value.int .i64) ++ List.replicate (l.length - k) (.int .i64 0)
theorem wsK_len (W : WaD) {l : List IsD} {k : Nat} (hk : k ≤ l.length) : (((wsOf W l).take k).map (Value.int .i64)).length = k := by rw [List.length_map, List.length_take, wsOf_len]; omega
theorem wsK_cons (W : WaD) {l : List IsD} {k : Nat} (hk : k < l.length) : wsK W l k = ((wsOf W l).take k).map (Value.int .i64) ++ .int .i64 0 :: List.replicate (l.length - (k + 1)) (.int .i64 0) := by
  unfold wsK
  rw [show l.length - k = (l.length - (k + 1)) + 1 by omega, List.replicate_succ]
theorem wsK_get (W : WaD) {l : List IsD} {k : Nat} (hk : k < l.length) : (wsK W l k)[k]? = some (.int .i64 0) := by
  have := wsK_len W (Nat.le_of_lt hk)
  rw [wsK_cons W hk, List.getElem?_append_right (by omega), this, Nat.sub_self]; rfl
theorem wsK_set (W : WaD) {l : List IsD} {k : Nat} (hk : k < l.length) : (wsK W l k).set k (.int .i64 (wOf W (l[k]'hk))) = wsK W l (k + 1) := by
  have h := wsK_len W (Nat.le_of_lt hk)
  rw [wsK_cons W hk, List.set_append_right _ _ (by omega), h, Nat.sub_self]
  unfold wsK
  rw [ws_succ hk, List.append_assoc]; rfl
theorem wsK_same (W : WaD) {l : List IsD} {k : Nat} (hk : k < l.length) (h : wOf W (l[k]'hk) = 0) : wsK W l k = wsK W l (k + 1) := by
  rw [← wsK_set W hk, h]
  have := wsK_get W hk
  obtain ⟨h1, h2⟩ := List.getElem?_eq_some_iff.1 this
  exact (by rw [← h2]; exact (List.set_getElem_self h1).symm)
theorem wsK_all (W : WaD) (l : List IsD) : wsK W l l.length = (wsOf W l).map (Value.int .i64) := by unfold wsK; rw [ws_all, Nat.sub_self]; simp
set_option maxRecDepth 20000 in
set_option maxHeartbeats 3200000 in
theorem iShares_any (W : WaD) (l : List IsD) (k2 : Nat) (c2 : UD) (xs : List Value) (lv v2 : Value) (lo hi : Nat) (w : World) (hq : okWa W) (hql : ∀ I ∈ l, okIs1 I) (hll : l.length ≤ maxLen) (ht2 : tyS 1 k2 c2 1) (hx : waH w W xs) (hl : isS w lv l) (hx2 : uS w lo hi 1 k2 c2 v2) :
    Calls Tryz.prog 16 #[.agg xs.toArray, lv, v2] w fun e w' => ∃ c S, e = .returned c ∧ oS w' 1 (shrL W l (intL c2)).length (ofInts (shrL W l (intL c2))) c S ∧ own2 S w.heap.size w'.heap.size ∧ Below w.heap.size w w' := by
  have hk2 := intL_len ht2
  obtain ⟨i0, hi0, hz0, hz1, hz2⟩ := infoD Tryz.infoDInt
  have HC0 : Hid (∀ wx, Below w.heap.size w wx → Calls Tryz.prog 73 #[.agg xs.toArray] wx fun e w' => e = .returned (.bool (wanB W)) ∧ Below wx.heap.size wx w') := fun wx hb => iWantOk_any W xs wx hq (hx.below hb)
  have HC1 : Hid (∀ wx, Below w.heap.size w wx → Calls Tryz.prog 74 #[lv, .int .i64 12, .func (.func 75) #[] #[]] wx fun e w' => e = .returned (.bool (decide (l.length ≤ 12) && l.all islB)) ∧ Below wx.heap.size wx w') := fun wx hb => allOkIs_any l lv 12 wx hll hql (hl.below hb)
  have HC2 : Hid (∀ (I : IsD) (ys : List Value) wx, I ∈ l → isH wx I ys → Below w.heap.size w wx → Calls Tryz.prog 76 #[.agg xs.toArray, .agg ys.toArray] wx fun e w' => e = .returned (.bool (eligB W I)) ∧ Below wx.heap.size wx w') := fun I ys wx hI h hb => iEligible_any W I xs ys wx hq (hql I hI) (hx.below hb) h
  have HC3 : Hid (∀ (s : ByteArray) wx, Below w.heap.size w wx → Calls Tryz.prog 77 #[.agg xs.toArray, .string s] wx fun e w' => e = .returned (.int .i64 (weighI W.2.2.2 s)) ∧ Below wx.heap.size wx w') := fun s wx hb => iWeightOf_any W.1 W.2.1 W.2.2.1 W.2.2.2 s xs wx hq.2.2.2.1 (hx.below hb)
  have HD : Hid (∀ (v1 : Value) wx, Below w.heap.size w wx → wanB W = true → uS wx 0 wx.heap.size 1 l.length (ofInts (wsOf W l)) v1 → Calls Tryz.prog 78 #[.int .i64 W.1, v1, v2] wx fun e w' => ∃ c S, e = .returned c ∧ oS w' 1 (dvdL W.1 (wsOf W l) (intL c2)).length (ofInts (dvdL W.1 (wsOf W l) (intL c2))) c S ∧ own2 S wx.heap.size w'.heap.size ∧ Below wx.heap.size wx w') := fun v1 wx hb hw h1 =>
    iDivide_any W.1 l.length k2 (ofInts (wsOf W l)) c2 v1 v2 0 wx.heap.size lo hi wx hq.1 (ws_ty hw hll) ht2 h1 (hx2.below hb) _ (by rw [intL_of]; exact dvdL_says _ _ _)
  obtain ⟨z, hz⟩ : ∃ z, z = shrL W l (intL c2) := ⟨_, rfl⟩
  have E0 : Hid (wanB W = false → z = []) := fun h => hz.trans (shrL_want h)
  have E1 : Hid ((decide (l.length ≤ 12) && l.all islB) = false → z = []) := fun h => by
    rcases Bool.and_eq_false_iff.1 h with h | h
    · exact hz.trans (shrL_long (of_decide_eq_false h))
    · rw [hz]; unfold shrL shrR; rw [h, Bool.and_false]; rfl
  have E4 : Hid (wanB W = true → (decide (l.length ≤ 12) && l.all islB) = true → z = dvdL W.1 (wsOf W l) (intL c2) ∧ l.length ≤ 12) := fun h1 h2 => by
    rw [Bool.and_eq_true] at h2
    exact ⟨hz.trans (shrL_good h1 (of_decide_eq_true h2.1) h2.2), of_decide_eq_true h2.1⟩
  rw [← hz]
  have HL := hide hl
  unfold maxLen at hll
  obtain ⟨e1, e2, e3, rfl, ⟨a1, p1, rfl, -⟩, ⟨a2, p2, rfl, -⟩, a3, p3, rfl, -⟩ := hx
  obtain ⟨la, lp, rfl, -⟩ := hl
  obtain ⟨va, vp, rfl, -⟩ := hx2
  clear hz hk2 ht2 hq hql
  have OX : Hid (objU (w.alloc (.cells #[.int .i64 W.1, .slice a1 W.2.1.length p1, .slice a2 W.2.2.1.length p2, .slice a3 W.2.2.2.length p3] 35)) w.heap.size 35 [.int .i64 W.1, .slice a1 W.2.1.length p1, .slice a2 W.2.2.1.length p2, .slice a3 W.2.2.2.length p3]) := objU.new _ _ _
  have BX : Hid (Below w.heap.size w (w.alloc (.cells #[.int .i64 W.1, .slice a1 W.2.1.length p1, .slice a2 W.2.2.1.length p2, .slice a3 W.2.2.2.length p3] 35))) := (Below.refl _ _).alloc (Nat.le_refl _) _
  have HWOF : Hid (∀ I : IsD, wOf W I = if eligB W I = true then weighI W.2.2.2 I.1 else 0) := fun I => rfl
  generalize hwan : wanB W = q0 at *
  generalize (decide (l.length ≤ 12) && l.all islB) = q1 at *
  go_enter Tryz.func16, Tryz.ntmps16
  have x0 := OX.out.cell 0 _ rfl
  have x1 := OX.out.cell 1 _ rfl
  have x2 := OX.out.cell 2 _ rfl
  have x3 := OX.out.cell 3 _ rfl
  go_wp2_with fail
  refine (HC0.out _ BX.out).mono ?_
  rintro e w1 ⟨rfl, hb1⟩
  have OX1 := hide (OX.out.below hb1)
  have BX1 : Hid (Below w.heap.size w w1) := BX.out.trans (hb1.mono BX.out.size)
  clear OX BX hb1 x0 x1 x2 x3
  have HOE : Hid (∀ wx : World, w.heap.size ≤ wx.heap.size → oS (wx.alloc (.cells #[] 3)) 1 0 (ofInts []) (.slice (some ⟨wx.heap.size, 0, none⟩) 0 0) [wx.heap.size] ∧ own2 [wx.heap.size] w.heap.size (wx.alloc (.cells #[] 3)).heap.size) := fun wx hs => by
    have := lit_oS wx 3
    exact ⟨this.1, this.2.mono hs (Nat.le_refl _)⟩
  cases q0 with
  | false =>
    have Hn := E0.out rfl
    subst Hn
    clear OX1 E0 E1 E4
    go_wp2
    go_ret
    exact ⟨_, _, rfl, (HOE.out w1 BX1.out.size).1, (HOE.out w1 BX1.out.size).2, BX1.out.alloc BX1.out.size _⟩
  | true =>
    go_wp2_with fail
    refine (HC1.out _ BX1.out).mono ?_
    rintro e w2 ⟨rfl, hb2⟩
    have OX2 := hide (OX1.out.below hb2)
    have BX2 : Hid (Below w.heap.size w w2) := BX1.out.trans (hb2.mono BX1.out.size)
    clear OX1 BX1 hb2
    cases q1 with
    | false =>
      have Hn := E1.out (by first | rfl | trivial)
      subst Hn
      clear OX2 E0 E1 E4
      go_wp2
      go_ret
      exact ⟨_, _, rfl, (HOE.out w2 BX2.out.size).1, (HOE.out w2 BX2.out.size).2, BX2.out.alloc BX2.out.size _⟩
    | true =>
    obtain ⟨hzd, h12⟩ := E4.out (by first | rfl | trivial) (by first | rfl | trivial)
    have Hzd := hide hzd
    clear hzd E0 E1 E4 HOE
    go_wp2_with (at_make; refine wpList_make_full _ rfl _ _ 28 rfl w2.heap.size 3 i0 _ 1 Tryz.underlying28 hi0 hz0 hz1 _ _ _ _ l.length rfl rfl rfl rfl (by rw [hz2]; omega) (by unfold maxLen; omega) (Nat.le_refl _) ?_; intro w3 hown hgrow)
    have R0 : Hid (w3.ownsRow w2.heap.size 3 1 (.slice (some ⟨w2.heap.size, 0, none⟩) l.length l.length) l.length (wsK W l 0)) := by
      have e : (madeCells (Value.int .i64 0).cells (l.length * 1)).toList = wsK W l 0 := by
        rw [show (Value.int .i64 0).cells = #[.int .i64 0] from rfl, toList_madeCells_one, Nat.mul_one]; rfl
      rw [← e]; exact hown
    have B3 : Hid (Below w2.heap.size w2 w3) := Below.grown (Below.refl _ _) hgrow (Nat.le_refl _) (fun k hk => by cases hk)
    clear hown hgrow
    go_loopw [24] (fun i wr => ∃ (k : Nat), k ≤ l.length ∧ i = .int .i64 k ∧ Hid (wr.ownsRow w2.heap.size 3 1 (.slice (some ⟨w2.heap.size, 0, none⟩) l.length l.length) l.length (wsK W l k)) ∧ Hid (Below w2.heap.size w2 wr)) (fun i _ => l.length - (intOf i).toNat)
    case atStart => exact ⟨0, Nat.zero_le _, rfl, R0, B3⟩
    case round =>
      clear R0 B3
      obtain ⟨k, hk, rfl, How, HB⟩ := hrel
      have HW : Hid (Below w.heap.size w wr) := BX2.out.trans (HB.out.mono BX2.out.size)
      have HOX : Hid (∀ wx, Below wr.heap.size wr wx → objU wx w.heap.size 35 [.int .i64 W.1, .slice a1 W.2.1.length p1, .slice a2 W.2.2.1.length p2, .slice a3 W.2.2.2.length p3]) := fun wx hb => OX2.out.below (HB.out.trans (hb.mono HB.out.size))
      by_cases hlt : k < l.length
      · obtain ⟨la', lp', e, hrows⟩ := HL.out.below HW.out
        cases e
        obtain ⟨bb, off, rfl, hat⟩ := hrows (by omega)
        obtain ⟨d1, d2, c0, c1, c2', c3, ⟨b1, r1, rfl, g1⟩, b2, r2, rfl, g2⟩ := hat k hlt
        have HEl : Hid (∀ wx, Below wr.heap.size wr wx → Calls Tryz.prog 76 #[.agg #[.int .i64 W.1, .slice a1 W.2.1.length p1, .slice a2 W.2.2.1.length p2, .slice a3 W.2.2.2.length p3], .agg #[.string (l[k]'hlt).1, .slice b1 (l[k]'hlt).2.1.length r1, .slice b2 (l[k]'hlt).2.2.1.length r2, .int .i64 (l[k]'hlt).2.2.2]] wx fun e w' => e = .returned (.bool (eligB W (l[k]'hlt))) ∧ Below wx.heap.size wx w') := fun wx hb => HC2.out (l[k]'hlt) [.string (l[k]'hlt).1, .slice b1 (l[k]'hlt).2.1.length r1, .slice b2 (l[k]'hlt).2.2.1.length r2, .int .i64 (l[k]'hlt).2.2.2] wx (List.getElem_mem hlt) (isH.below ⟨_, _, rfl, ⟨_, _, rfl, g1⟩, _, _, rfl, g2⟩ hb) (HW.out.trans (hb.mono HW.out.size))
        have HWe : Hid (∀ wx, Below wr.heap.size wr wx → Calls Tryz.prog 77 #[.agg #[.int .i64 W.1, .slice a1 W.2.1.length p1, .slice a2 W.2.2.1.length p2, .slice a3 W.2.2.2.length p3], .string (l[k]'hlt).1] wx fun e w' => e = .returned (.int .i64 (weighI W.2.2.2 (l[k]'hlt).1)) ∧ Below wx.heap.size wx w') := fun wx hb => HC3.out _ wx (HW.out.trans (hb.mono HW.out.size))
        have Hset := hide (wsK_set W hlt)
        have Hsame := hide (wsK_same W hlt)
        have Hget := hide (wsK_get W hlt)
        have HwI := hide (HWOF.out (l[k]'hlt))
        clear hat hrows g1 g2 HL HD HC0 HC1 HC2 HC3 HWOF
        generalize wOf W (l[k]'hlt) = NW at *
        generalize eligB W (l[k]'hlt) = re at *
        generalize weighI W.2.2.2 (l[k]'hlt).1 = wi at *
        generalize (l[k]'hlt).1 = z0 at *
        generalize (l[k]'hlt).2.1.length = z1 at *
        generalize (l[k]'hlt).2.2.1.length = z2 at *
        generalize (l[k]'hlt).2.2.2 = z3 at *
        have BI : Hid (Below wr.heap.size wr (wr.alloc (.cells #[.string z0, .slice b1 z1 r1, .slice b2 z2 r2, .int .i64 z3] 111))) := (Below.refl _ _).alloc (Nat.le_refl _) _
        have OI : Hid (objU (wr.alloc (.cells #[.string z0, .slice b1 z1 r1, .slice b2 z2 r2, .int .i64 z3] 111)) wr.heap.size 111 [.string z0, .slice b1 z1 r1, .slice b2 z2 r2, .int .i64 z3]) := objU.new _ _ _
        have How1 := hide (How.out.alloc (.cells #[.string z0, .slice b1 z1 r1, .slice b2 z2 r2, .int .i64 z3] 111))
        have y0 := (HOX.out _ BI.out).cell 0 _ rfl
        have y1 := (HOX.out _ BI.out).cell 1 _ rfl
        have y2 := (HOX.out _ BI.out).cell 2 _ rfl
        have y3 := (HOX.out _ BI.out).cell 3 _ rfl
        go_wp2_with fail
        refine (HEl.out _ BI.out).mono ?_
        rintro e w4 ⟨rfl, hb4⟩
        have B4 : Hid (Below wr.heap.size wr w4) := BI.out.trans (hb4.mono BI.out.size)
        have How4 := hide (owns_below_any How1.out hb4)
        have OI4 := hide (OI.out.below hb4)
        clear BI OI How1 y0 y1 y2 y3 hb4 c0 c1 c2' c3 HEl
        cases re with
        | false =>
          have HE : Hid (wsK W l k = wsK W l (k + 1)) := Hsame.out (HwI.out.trans rfl)
          clear Hset Hsame Hget HwI HWe OI4
          go_wp2
          go_roundw
          case rel => exact ⟨k + 1, by omega, by go_num, by rw [← HE.out]; exact How4.out, HB.out.trans (B4.out.mono HB.out.size)⟩
          case measure => simp [intOf]; omega
        | true =>
          have y0 := (HOX.out _ B4.out).cell 0 _ rfl
          have y1 := (HOX.out _ B4.out).cell 1 _ rfl
          have y2 := (HOX.out _ B4.out).cell 2 _ rfl
          have y3 := (HOX.out _ B4.out).cell 3 _ rfl
          have o0 := OI4.out.cell 0 _ rfl
          go_wp2_with fail
          refine (HWe.out _ B4.out).mono ?_
          rintro e w5 ⟨rfl, hb5⟩
          have B5 : Hid (Below wr.heap.size wr w5) := B4.out.trans (hb5.mono B4.out.size)
          have How5 := hide (owns_below_any How4.out hb5)
          have HE : Hid ((wsK W l k).set k (.int .i64 wi) = wsK W l (k + 1)) := by
            have := Hset.out; rw [HwI.out] at this; exact this
          have q0 : w5.cell? ⟨w2.heap.size, k, none⟩ = some (.int .i64 0) := (How5.out.cellAt _ (by omega)).trans Hget.out
          have f0 := How5.out.frozenAt k
          clear How4 OI4 B4 y0 y1 y2 y3 o0 hb5 HWe Hset Hsame HwI Hget
          go_wp2
          have s1 := How5.out.stored k (.int .i64 wi)
          go_roundw
          case rel => exact ⟨k + 1, by omega, by go_num, by rw [← HE.out]; exact s1.1, (HB.out.trans (B5.out.mono HB.out.size)).setCell (Nat.le_refl _) _⟩
          case measure => simp [intOf]; omega
      · have e : k = l.length := by omega
        subst e
        have HDv := hide (HD.out (.slice (some ⟨w2.heap.size, 0, none⟩) l.length l.length) wr HW.out (by first | rfl | trivial) (owns_uS (wsOf_len W l) (by rw [← wsK_all W l]; exact How.out)))
        rw [← Hzd.out] at HDv
        have y0 := (HOX.out wr (Below.refl _ _)).cell 0 _ rfl
        clear HL How HD HC0 HC1 HC2 HC3 HOX Hzd
        go_wp2_with fail
        refine HDv.out.mono ?_
        rintro e w4 ⟨c, S, rfl, hc, ho, hb4⟩
        have HB4 : Hid (Below w.heap.size w w4) := HW.out.trans (hb4.mono HW.out.size)
        go_wp2
        go_ret
        exact ⟨_, S, rfl, hc, ho.mono HW.out.size (Nat.le_refl _), HB4.out⟩
end Go.Proofs.YtdnodaoeflbfkaaGreat
/- spec.Divide: its answer as a row of its own. -/
namespace Go.Proofs.YtdnodaoeflbfkaaGreat
open Go.RowKit Go.BigFrame
set_option linter.unusedVariables false
theorem gI_ofFn2 {n : Nat} {f : Nat → Int} {q : Nat} (h : q < n) : gI (ofFn n f) q = f q := by
  rw [gI_get (by rw [ofFn_len]; exact h), ofFn_get]
theorem lit_row (w : World) (f : Nat → Value) : (w.alloc (.cells #[] 3)).rowIs w.heap.size 3 0 f := ⟨#[], Array.getElem?_push_size, rfl, fun i h => by cases h⟩
set_option maxRecDepth 20000 in
set_option maxHeartbeats 6400000 in
theorem sDivR_any (n : Int) (k1 k2 : Nat) (c1 c2 : UD) (v1 v2 : Value) (lo hi lo' hi' : Nat) (w : World) (ht1 : tyS 1 k1 c1 1) (ht2 : tyS 1 k2 c2 1) (hx1 : uS w lo hi 1 k1 c1 v1) (hx2 : uS w lo' hi' 1 k2 c2 v2) (z : List Int) (hz : (¬ rightP n (intL c1) (intL c2) → z = []) ∧ (rightP n (intL c1) (intL c2) → z = divL n (intL c1) (intL c2))) :
    Calls Tryz.prog 69 #[.int .i64 n, v1, v2] w fun e w' => ∃ b, e = .returned (.slice (some ⟨b, 0, none⟩) z.length z.length) ∧ w'.rowIs b 3 z.length (fun j => .int .i64 (gI z j)) ∧ w.heap.size ≤ b ∧ Below w.heap.size w w' := by
  obtain ⟨r, hr⟩ := bool_iff (rightP n (intL c1) (intL c2))
  have HR : Hid (∀ wx, Below w.heap.size w wx → Calls Tryz.prog 141 #[.int .i64 n, v1, v2] wx fun e w' => e = .returned (.bool r) ∧ w' = wx) := fun wx hb => l6Right_any n k1 k2 c1 c2 v1 v2 lo hi lo' hi' wx r ht1 ht2 (hx1.below hb) (hx2.below hb) hr
  obtain ⟨a1, p1, rfl, hy1⟩ := hx1
  obtain ⟨a2, p2, rfl, hy2⟩ := hx2
  have H1 : Hid (uS w lo hi 1 k1 c1 (.slice a1 k1 p1)) := ⟨_, _, rfl, hy1⟩
  have H2 : Hid (uS w lo' hi' 1 k2 c2 (.slice a2 k2 p2)) := ⟨_, _, rfl, hy2⟩
  have T1 := uhide ht1
  have T2 := uhide ht2
  have hl1 := intL_len ht1
  have hl2 := intL_len ht2
  have HA : Hid (∀ o, Below w.heap.size w (w.alloc o)) := fun o => (Below.refl _ _).alloc (Nat.le_refl _) _
  cases r
  · have hz1 := hz.1 (fun h => by have := hr.2 h; cases this)
    subst hz1
    clear hy1 hy2 ht1 ht2 hl1 hl2 hr H1 H2 T1 T2 hz
    go_enter Tryz.func69, Tryz.ntmps69
    go_wp2_with fail
    refine (HR.out _ (by first | exact Below.refl _ _ | exact HA.out _)).mono ?_
    rintro e w1 ⟨rfl, rfl⟩
    go_wp2
    go_ret
    exact ⟨_, rfl, lit_row _ _, Nat.le_refl _, HA.out _⟩
  have hrp := hr.1 rfl
  have hz1 := hz.2 hrp
  unfold divL at hz1
  rw [hl1] at hz1
  unfold rightP at hrp
  rw [hl1, hl2] at hrp
  obtain ⟨⟨hn, h64, hk⟩, hg⟩ := hrp
  have HG : Hid (∀ i, i < k1 → goodAt (intL c1) (intL c2) i) := hg
  subst hk
  have HZ := uhide hz1
  have HWN : Hid (∀ i, 0 ≤ gI (intL c1) i) := fun i => by
    by_cases h : i < k1
    · exact (HG.out i h).1.1
    · unfold gI; rw [List.getD_eq_getElem?_getD, List.getElem?_eq_none (by omega)]; exact Int.le_refl _
  clear hz hz1 hr hg hl1 hl2 hy1 hy2 ht1 ht2
  have hmk := run_make_row' (P := Tryz.prog) 28 3 (.int .i64 0) 8 Tryz.underlying28 Tryz.infoDInt rfl .i64 .i64 k1 (by omega) (by omega)
  go_enter Tryz.func69, Tryz.ntmps69
  go_wp2_with fail
  refine (HR.out _ (by first | exact Below.refl _ _ | exact HA.out _)).mono ?_
  rintro e w1 ⟨rfl, rfl⟩
  clear HR
  go_wp2
  have R0 : Hid (World.rowIs ((w.alloc (.cells #[] 3)).alloc (.cells (madeCells #[.int .i64 0] k1) 3)) (w.heap.size + 1) 3 k1 (fun j => .int .i64 ((fun _ => 0 : Nat → Int) j))) := by
    have h := (World.rowIs_made (w.alloc (.cells #[] 3)) (.int .i64 0) k1 3)
    have e : (w.alloc (.cells #[] 3)).heap.size = w.heap.size + 1 := by simp
    rw [e] at h
    exact h
  have HB0 : Hid (Below w.heap.size w ((w.alloc (.cells #[] 3)).alloc (.cells (madeCells #[.int .i64 0] k1) 3))) := ((Below.refl _ _).alloc (Nat.le_refl _) _).alloc (by simp) _
  have HD : Hid (divF k1 (gI (intL c1)) (gI (intL c2)) n.toNat n (fun _ => 0) = divF k1 (gI (intL c1)) (gI (intL c2)) n.toNat n (fun _ => 0)) := rfl
  generalize hRES : divF k1 (gI (intL c1)) (gI (intL c2)) n.toNat n (fun _ => 0) = RES at HZ
  have HD : Hid (divF k1 (gI (intL c1)) (gI (intL c2)) n.toNat n (fun _ => 0) = RES) := hRES
  have HC : Hid (∀ i, i < k1 → 0 ≤ (gI (intL c2)) i ∧ (gI (intL c2)) i ≤ 10000) := fun i hi => (HG.out i hi).2
  have HWB : Hid (∀ i, i < k1 → 0 ≤ (gI (intL c1)) i ∧ (gI (intL c1)) i ≤ 1000) := fun i hi => (HG.out i hi).1
  have HO0 : Hid (∀ i, i < k1 → 0 ≤ (fun _ => 0 : Nat → Int) i ∧ (fun _ => 0 : Nat → Int) i ≤ (gI (intL c2)) i) := fun i hi => ⟨Int.le_refl _, (HC.out i hi).1⟩
  clear hmk hRES
  go_loopw [0] (fun nn w2 => ∃ (f : Nat) (m : Int) (out : Nat → Int), nn = .int .i64 m ∧ 0 ≤ m ∧ m ≤ 10000 ∧ m.toNat ≤ f ∧ Hid (divF k1 (gI (intL c1)) (gI (intL c2)) f m out = RES) ∧ Hid (∀ i, i < k1 → 0 ≤ out i ∧ out i ≤ (gI (intL c2)) i) ∧ Hid (w2.rowIs (w.heap.size + 1) 3 k1 (fun j => .int .i64 (out j))) ∧ Hid (Below w.heap.size w w2)) (fun nn _ => (intOf nn).toNat)
  case atStart => exact ⟨n.toNat, n, fun _ => 0, rfl, hn.1, hn.2, Nat.le_refl _, HD, HO0, R0, HB0⟩
  case round =>
    clear R0 HB0 HD HO0
    obtain ⟨w2, rfl⟩ : ∃ w2, w2 = wr := ⟨_, rfl⟩
    obtain ⟨f, m, out, rfl, hm0, hm1, hf, HD, HO, R0, HB⟩ := hrel
    by_cases hmp : 0 < m
    · have hmk := run_make_row' (P := Tryz.prog) 188 4 (.bool false) 1 Tryz.underlying188 Tryz.infoUBool rfl .i64 .i64 k1 (by omega) (by omega)
      go_wp2
      have S0 : Hid (World.rowIs (w2.alloc (.cells (madeCells #[.bool false] k1) 4)) w2.heap.size 4 k1 (fun j => .bool (if j < 0 then openF k1 (gI (intL c1)) (gI (intL c2)) out j else false))) := (World.rowIs_made w2 (.bool false) k1 4).congr (fun i _ => by rw [if_neg (by omega)])
      have HBS : Hid (Below w2.heap.size w2 (w2.alloc (.cells (madeCells #[.bool false] k1) 4))) := (Below.refl _ _).alloc (Nat.le_refl _) _
      clear hmk
      have hg2 : w.heap.size + 1 < w2.heap.size := R0.out.lt
      go_loopw [9, 10] (fun s i w3 => ∃ (p : Nat), p ≤ k1 ∧ i = .int .i64 p ∧ s = .int .i64 (sumTo (onO (openF k1 (gI (intL c1)) (gI (intL c2)) out) (gI (intL c1))) p) ∧ Hid (w3.rowIs w2.heap.size 4 k1 (fun j => .bool (if j < p then openF k1 (gI (intL c1)) (gI (intL c2)) out j else false))) ∧ Hid (Below w2.heap.size w2 w3)) (fun _ i _ => k1 - (intOf i).toNat)
      case atStart => exact ⟨0, Nat.zero_le _, rfl, rfl, S0, HBS⟩
      case round =>
        clear S0 HBS
        obtain ⟨w3, rfl⟩ : ∃ w3, w3 = wr := ⟨_, rfl⟩
        obtain ⟨p, hp, rfl, rfl, S0, HBS⟩ := hrel
        have HB3 : Hid (Below w.heap.size w w3) := HB.out.trans (HBS.out.mono HB.out.size)
        have hsb := sumTo_bd (f := onO (openF k1 (gI (intL c1)) (gI (intL c2)) out) (gI (intL c1))) (m := 1000) (n := p) (fun i hi => by
          have := HWB.out i (by omega)
          unfold onO; split <;> omega) p (Nat.le_refl _)
        by_cases hpl : p < k1
        · obtain ⟨b1, off1, rfl, hb1, -⟩ := (H1.out.below HB3.out).cells (by omega)
          obtain ⟨b2, off2, rfl, hb2, -⟩ := (H2.out.below HB3.out).cells (by omega)
          have q1 := cell_int T1.out (H1.out.below HB3.out) p hpl
          have q2 := cell_int T2.out (H2.out.below HB3.out) p hpl
          have hb1l : b1 < w.heap.size := cell_lt (cell_int T1.out H1.out p hpl)
          have hb2l : b2 < w.heap.size := cell_lt (cell_int T2.out H2.out p hpl)
          have qo := (rowIs_below R0.out HBS.out).cell hpl
          have xs := S0.out.cell hpl
          have fs := S0.out.frozen p
          have hne : b1 ≠ w2.heap.size := by omega
          have hne' : b2 ≠ w2.heap.size := by omega
          have hne2 : w.heap.size + 1 ≠ w2.heap.size := by omega
          have HSS : Hid (∀ v, openF k1 (gI (intL c1)) (gI (intL c2)) out p = v → World.rowIs (w3.setCell ⟨w2.heap.size, p, none⟩ (.bool v)) w2.heap.size 4 k1 (fun j => .bool (if j < p + 1 then openF k1 (gI (intL c1)) (gI (intL c2)) out j else false))) := fun v hv => (S0.out.set p (.bool v)).congr (fun j _ => by
            by_cases e : j = p
            · subst e; rw [if_pos rfl, if_pos (by omega), hv]
            · rw [if_neg e]
              by_cases h : j < p
              · rw [if_pos h, if_pos (by omega)]
              · rw [if_neg h, if_neg (by omega)])
          have HOP : Hid (openF k1 (gI (intL c1)) (gI (intL c2)) out p = decide (p < k1 ∧ 0 < (gI (intL c1)) p ∧ out p < (gI (intL c2)) p)) := rfl
          have HSQ : Hid (sumTo (onO (openF k1 (gI (intL c1)) (gI (intL c2)) out) (gI (intL c1))) (p + 1) = sumTo (onO (openF k1 (gI (intL c1)) (gI (intL c2)) out) (gI (intL c1))) p + (if openF k1 (gI (intL c1)) (gI (intL c2)) out p = true then (gI (intL c1)) p else 0)) := rfl
          have HBQ : Hid (∀ v, Below w2.heap.size w2 (w3.setCell ⟨w2.heap.size, p, none⟩ v)) := fun v => HBS.out.setCell (by simp) v
          have hwp := HWB.out p hpl
          generalize sumTo (onO (openF k1 (gI (intL c1)) (gI (intL c2)) out) (gI (intL c1))) p = SP at *
          generalize (gI (intL c1)) p = X at *
          generalize (gI (intL c2)) p = Y at *
          generalize out p = Z at *
          generalize openF k1 (gI (intL c1)) (gI (intL c2)) out p = OP at *
          clear S0 R0 H1 H2 T1 T2 HC HWB HO HD HG HWN HZ
          by_cases hx : 0 < X
          rotate_left
          · have z0 : decide ((0 : Int) < X) = false := by rw [decide_eq_false_iff_not]; exact hx
            have hop : OP = false := by rw [HOP.out, decide_eq_false_iff_not]; exact fun h => hx h.2.1
            have SS := uhide (HSS.out false hop)
            have SQ := HSQ.out
            rw [hop, if_neg (by decide), Int.add_zero] at SQ
            have HSQ2 := uhide SQ
            have HBQ2 := uhide (HBQ.out (.bool false))
            clear HSS HSQ HBQ HOP SQ
            go_wp2
            go_region
            all_goals (
              go_wp2
              go_roundw
              case rel => exact ⟨p + 1, by omega, by go_num, by rw [HSQ2.out], rowIs_below SS.out (by repeat (first | with_reducible exact Below.refl _ _ | with_reducible refine Below.drew ?_ | with_reducible refine below_drewN ?_ _)), uhide (by repeat (first | with_reducible exact HBQ2.out | with_reducible refine Below.drew ?_ | with_reducible refine below_drewN ?_ _))⟩
              case measure => simp [intOf]; omega)
          by_cases hzy : Z < Y
          · have hop : OP = true := by rw [HOP.out, decide_eq_true_eq]; exact ⟨hpl, hx, hzy⟩
            have SS := uhide (HSS.out true hop)
            have SQ := HSQ.out
            rw [hop, if_pos rfl] at SQ
            have HSQ2 := uhide SQ
            have HBQ2 := uhide (HBQ.out (.bool true))
            clear HSS HSQ HBQ HOP SQ
            go_wp2
            go_region
            all_goals (
              go_wp2
              go_roundw
              case rel => exact ⟨p + 1, by omega, by go_num, by rw [HSQ2.out], rowIs_below SS.out (by repeat (first | with_reducible exact Below.refl _ _ | with_reducible refine Below.drew ?_ | with_reducible refine below_drewN ?_ _)), uhide (by repeat (first | with_reducible exact HBQ2.out | with_reducible refine Below.drew ?_ | with_reducible refine below_drewN ?_ _))⟩
              case measure => simp [intOf]; omega)
          · have z0 : decide (Z < Y) = false := by rw [decide_eq_false_iff_not]; exact hzy
            have hop : OP = false := by rw [HOP.out, decide_eq_false_iff_not]; exact fun h => hzy h.2.2
            have SS := uhide (HSS.out false hop)
            have SQ := HSQ.out
            rw [hop, if_neg (by decide), Int.add_zero] at SQ
            have HSQ2 := uhide SQ
            have HBQ2 := uhide (HBQ.out (.bool false))
            clear HSS HSQ HBQ HOP SQ
            go_wp2
            go_region
            all_goals (
              go_wp2
              go_roundw
              case rel => exact ⟨p + 1, by omega, by go_num, by rw [HSQ2.out], rowIs_below SS.out (by repeat (first | with_reducible exact Below.refl _ _ | with_reducible refine Below.drew ?_ | with_reducible refine below_drewN ?_ _)), uhide (by repeat (first | with_reducible exact HBQ2.out | with_reducible refine Below.drew ?_ | with_reducible refine below_drewN ?_ _))⟩
              case measure => simp [intOf]; omega)
        · have e : p = k1 := by omega
          subst e
          have HGA := fun hs => gets_all (L := p) (n := m) (w := (gI (intL c1))) (c := (gI (intL c2))) (out := out) hmp HWN.out HO.out hs
          have S1 : Hid (w3.rowIs w2.heap.size 4 p (fun j => .bool (openF p (gI (intL c1)) (gI (intL c2)) out j))) := S0.out.congr (fun j hj => by rw [if_pos hj])
          have HOS : sumTo (onO (openF p (gI (intL c1)) (gI (intL c2)) out) (gI (intL c1))) p = openS p (gI (intL c1)) (gI (intL c2)) out := rfl
          have hsw : openS p (gI (intL c1)) (gI (intL c2)) out ≤ 64000 := by omega
          have hsw0 : 0 ≤ openS p (gI (intL c1)) (gI (intL c2)) out := by omega
          have HSE : Hid (openS p (gI (intL c1)) (gI (intL c2)) out = sumTo (onO (openF p (gI (intL c1)) (gI (intL c2)) out) (gI (intL c1))) p) := rfl
          rw [HOS]
          by_cases hs : openS p (gI (intL c1)) (gI (intL c2)) out = 0
          · have z0 : (openS p (gI (intL c1)) (gI (intL c2)) out == 0) = true := by rw [beq_iff_eq]; exact hs
            have hres : RES = out := by rw [← HD.out]; exact divF_end (fun h => by omega)
            subst hres
            have R3 := uhide (rowIs_below R0.out HBS.out)
            generalize openS p (gI (intL c1)) (gI (intL c2)) RES = SS at *
            clear S0 S1 R0 H1 H2 T1 T2 HC HWB HO HD HG HWN HGA HSE HOS
            go_wp2
            go_ret
            exact ⟨_, by rw [HZ.out, ofFn_len]; rfl, by rw [HZ.out, ofFn_len]; exact R3.out.congr (fun j hj => by rw [gI_ofFn2 hj]), by omega, HB3.out⟩
          · have z0 : (openS p (gI (intL c1)) (gI (intL c2)) out == 0) = false := by rw [beq_eq_false_iff_ne]; exact hs
            have hs1 : 0 < openS p (gI (intL c1)) (gI (intL c2)) out := by omega
            obtain ⟨hga, hgb, hgc⟩ := HGA hs1
            have HL := uhide (l6Wants_any m (openS p (gI (intL c1)) (gI (intL c2)) out) p c1 (.slice a1 p p1) lo hi w2.heap.size (openF p (gI (intL c1)) (gI (intL c2)) out) w3 T1.out (H1.out.below HB3.out) S1.out h64 ⟨hmp, hm1⟩ HWB.out ⟨hs1, hsw⟩ rfl)
            have HWT : Hid (∀ j, j < p → 0 ≤ wantsF p m (openS p (gI (intL c1)) (gI (intL c2)) out) (gI (intL c1)) (openF p (gI (intL c1)) (gI (intL c2)) out) j ∧ wantsF p m (openS p (gI (intL c1)) (gI (intL c2)) out) (gI (intL c1)) (openF p (gI (intL c1)) (gI (intL c2)) out) j ≤ m) := fun j hj => by
              have := wants_bd (L := p) (m := m) (O := openF p (gI (intL c1)) (gI (intL c2)) out) (w := (gI (intL c1))) (by omega) HWN.out hs1 rfl j
              exact ⟨this.1, this.2.1 hj⟩
            have HGD : Hid (∀ j, getsF p m (gI (intL c1)) (gI (intL c2)) out j = if (gI (intL c2)) j - out j < wantsF p m (openS p (gI (intL c1)) (gI (intL c2)) out) (gI (intL c1)) (openF p (gI (intL c1)) (gI (intL c2)) out) j then (gI (intL c2)) j - out j else wantsF p m (openS p (gI (intL c1)) (gI (intL c2)) out) (gI (intL c1)) (openF p (gI (intL c1)) (gI (intL c2)) out) j) := fun j => rfl
            have HGB := uhide hga
            have HD2 : Hid (∃ f', f = f' + 1 ∧ divF p (gI (intL c1)) (gI (intL c2)) f' (m - sumTo (getsF p m (gI (intL c1)) (gI (intL c2)) out) p) (fun i => out i + getsF p m (gI (intL c1)) (gI (intL c2)) out i) = RES) := by
              cases f with
              | zero => omega
              | succ f' => exact ⟨f', rfl, by rw [← HD.out]; exact (divF_go ⟨hmp, hs1⟩).symm⟩
            have R3 := uhide (rowIs_below R0.out HBS.out)
            have hsz : w2.heap.size ≤ w3.heap.size := HBS.out.size
            clear S0 S1 R0 HWB HD HGA HOS HSE hga
            go_wp2_with fail
            refine (HL.out).mono ?_
            rintro e w4 ⟨bW, rfl, hbW, hRW, hb4⟩
            have R4 := uhide (rowIs_below R3.out hb4)
            have RW4 : Hid (w4.rowIs bW 3 p (fun j => .int .i64 (if j < 0 then getsF p m (gI (intL c1)) (gI (intL c2)) out j else wantsF p m (openS p (gI (intL c1)) (gI (intL c2)) out) (gI (intL c1)) (openF p (gI (intL c1)) (gI (intL c2)) out) j))) := hRW.congr (fun j _ => by rw [if_neg (by omega)])
            have R40 : Hid (w4.rowIs (w.heap.size + 1) 3 p (fun j => .int .i64 (if j < 0 then out j + getsF p m (gI (intL c1)) (gI (intL c2)) out j else out j))) := R4.out.congr (fun j _ => by rw [if_neg (by omega)])
            have HB4 : Hid (Below w.heap.size w w4) := HB3.out.trans (hb4.mono HB3.out.size)
            clear hRW hb4 HL R3 R4 HWN
            generalize wantsF p m (openS p (gI (intL c1)) (gI (intL c2)) out) (gI (intL c1)) (openF p (gI (intL c1)) (gI (intL c2)) out) = WT at *
            generalize getsF p m (gI (intL c1)) (gI (intL c2)) out = G at *
            generalize openS p (gI (intL c1)) (gI (intL c2)) out = SS at *
            go_wp2
            go_loopw [0, 12] (fun nn i w5 => ∃ (j0 : Nat), j0 ≤ p ∧ i = .int .i64 j0 ∧ nn = .int .i64 (m - sumTo G j0) ∧ Hid (w5.rowIs (w.heap.size + 1) 3 p (fun j => .int .i64 (if j < j0 then out j + G j else out j))) ∧ Hid (w5.rowIs bW 3 p (fun j => .int .i64 (if j < j0 then G j else WT j))) ∧ Hid (Below w.heap.size w w5)) (fun _ i _ => p - (intOf i).toNat)
            case atStart => exact ⟨0, Nat.zero_le _, rfl, by simp [sumTo], R40, RW4, HB4⟩
            case round =>
              clear R40 RW4 HB4
              obtain ⟨w5, rfl⟩ : ∃ w5, w5 = wr := ⟨_, rfl⟩
              obtain ⟨j0, hj0, rfl, rfl, R0, RW, HB5⟩ := hrel
              by_cases hjl : j0 < p
              · obtain ⟨b2, off2, rfl, hb2, -⟩ := (H2.out.below HB5.out).cells (by omega)
                have hb2l : b2 < w.heap.size := cell_lt (cell_int T2.out H2.out j0 hjl)
                have q2 := cell_int T2.out (H2.out.below HB5.out) j0 hjl
                have xo := R0.out.cell hjl
                have fo := R0.out.frozen j0
                have xw := RW.out.cell hjl
                have fw := RW.out.frozen j0
                rw [if_neg (by omega)] at xo xw
                have hoj := HO.out j0 hjl
                have hcj := HC.out j0 hjl
                have hgj := HGB.out j0 hjl
                have hwj := HWT.out j0 hjl
                have hdj := HGD.out j0
                have hsj := sumTo_bd (f := G) (m := 10000) (n := p) (fun i hi => by
                  have := HGB.out i hi
                  have := HO.out i hi
                  have := HC.out i hi
                  omega) j0 hj0
                have HSQ : Hid (m - sumTo G (j0 + 1) = m - sumTo G j0 - G j0) := by
                  show _ = _
                  rw [sumTo_succ]; omega
                have RG : Hid (∀ (wx : World) (v : Value), v = .int .i64 (out j0 + G j0) → wx.rowIs (w.heap.size + 1) 3 p (fun j => .int .i64 (if j < j0 then out j + G j else out j)) → World.rowIs (wx.setCell ⟨w.heap.size + 1, j0, none⟩ v) (w.heap.size + 1) 3 p (fun j => .int .i64 (if j < j0 + 1 then out j + G j else out j))) := fun wx v hv h => (h.set j0 v).congr (fun j _ => by
                  by_cases e : j = j0
                  · subst e; rw [if_pos rfl, if_pos (by omega), hv]
                  · rw [if_neg e]
                    by_cases h : j < j0
                    · rw [if_pos h, if_pos (by omega)]
                    · rw [if_neg h, if_neg (by omega)])
                have RX : Hid (∀ (wx : World) (v : Value), v = .int .i64 (G j0) → wx.rowIs bW 3 p (fun j => .int .i64 (if j < j0 then G j else WT j)) → World.rowIs (wx.setCell ⟨bW, j0, none⟩ v) bW 3 p (fun j => .int .i64 (if j < j0 + 1 then G j else WT j))) := fun wx v hv h => (h.set j0 v).congr (fun j _ => by
                  by_cases e : j = j0
                  · subst e; rw [if_pos rfl, if_pos (by omega), hv]
                  · rw [if_neg e]
                    by_cases h : j < j0
                    · rw [if_pos h, if_pos (by omega)]
                    · rw [if_neg h, if_neg (by omega)])
                have RY : Hid (G j0 = WT j0 → w5.rowIs bW 3 p (fun j => .int .i64 (if j < j0 + 1 then G j else WT j))) := fun hv => RW.out.congr (fun j _ => by
                  by_cases e : j = j0
                  · subst e; rw [if_neg (by omega), if_pos (by omega), hv]
                  · by_cases h : j < j0
                    · rw [if_pos h, if_pos (by omega)]
                    · rw [if_neg h, if_neg (by omega)])
                have hn1 : bW ≠ w.heap.size + 1 := by omega
                have hn2 : b2 ≠ w.heap.size + 1 := by omega
                have hn3 : b2 ≠ bW := by omega
                generalize sumTo G j0 = SG at *
                generalize (gI (intL c2)) j0 = Y at *
                generalize hGz : G j0 = Gz at *
                generalize hWz : WT j0 = Wz at *
                generalize hOz : out j0 = Oz at *
                clear H1 H2 T1 T2 HC HO HD2 HG HZ HWT HGD HGB hGz hWz hOz
                by_cases hlt : Y - Oz < Wz
                · rw [if_pos hlt] at hdj
                  subst hdj
                  clear RY
                  go_wp2
                  go_quiet (fail)
                  go_wp2
                  go_region
                  all_goals (
                    go_wp2
                    go_region
                    all_goals (
                      go_wp2
                      go_roundw
                      case rel =>
                        exact ⟨j0 + 1, by omega, by go_num, by rw [HSQ.out], uhide (by
                          repeat (first
                            | with_reducible exact R0.out
                            | with_reducible refine World.rowIs.drew ?_
                            | with_reducible refine rowIs_drewN ?_ _
                            | with_reducible refine RG.out _ _ (by first | rfl | go_num | (congr 1; omega)) ?_
                            | with_reducible refine World.rowIs.setOther ?_ (by simp <;> omega) _)), uhide (by
                          repeat (first
                            | with_reducible exact RW.out
                            | with_reducible refine World.rowIs.drew ?_
                            | with_reducible refine rowIs_drewN ?_ _
                            | with_reducible refine RX.out _ _ (by first | rfl | go_num | (congr 1; omega)) ?_
                            | with_reducible refine World.rowIs.setOther ?_ (by simp <;> omega) _)), uhide (by
                          repeat (first
                            | with_reducible exact HB5.out
                            | with_reducible refine Below.drew ?_
                            | with_reducible refine below_drewN ?_ _
                            | with_reducible refine Below.setCell ?_ (by simp <;> omega) _))⟩
                      case measure => simp [intOf]; omega))
                · rw [if_neg hlt] at hdj
                  subst hdj
                  have RW1 := uhide (RY.out rfl)
                  have z0 : decide (Y - Oz < Gz) = false := by rw [decide_eq_false_iff_not]; exact hlt
                  clear RY RX RW
                  have RX : Hid (∀ (wx : World) (v : Value), False → True → World.rowIs (wx.setCell ⟨bW, j0, none⟩ v) bW 3 p (fun j => .int .i64 (if j < j0 + 1 then G j else WT j))) := fun _ _ h => h.elim
                  go_wp2
                  go_quiet (fail)
                  go_wp2
                  go_region
                  all_goals (
                    go_wp2
                    go_roundw
                    case rel =>
                      exact ⟨j0 + 1, by omega, by go_num, by rw [HSQ.out], uhide (by
                        repeat (first
                          | with_reducible exact R0.out
                          | with_reducible refine World.rowIs.drew ?_
                          | with_reducible refine rowIs_drewN ?_ _
                          | with_reducible refine RG.out _ _ (by first | rfl | go_num | (congr 1; omega)) ?_
                          | with_reducible refine World.rowIs.setOther ?_ (by simp <;> omega) _)), uhide (by
                        repeat (first
                          | with_reducible exact RW1.out
                          | with_reducible refine World.rowIs.drew ?_
                          | with_reducible refine rowIs_drewN ?_ _
                          | with_reducible refine RX.out _ _ (by first | rfl | go_num | (congr 1; omega)) ?_
                          | with_reducible refine World.rowIs.setOther ?_ (by simp <;> omega) _)), uhide (by
                        repeat (first
                          | with_reducible exact HB5.out
                          | with_reducible refine Below.drew ?_
                          | with_reducible refine below_drewN ?_ _
                          | with_reducible refine Below.setCell ?_ (by simp <;> omega) _))⟩
                    case measure => simp [intOf]; omega)
              · have e : j0 = p := by omega
                subst e
                obtain ⟨f', hf', hd⟩ := HD2.out
                subst hf'
                have HDn := uhide hd
                have HOn : Hid (∀ i, i < j0 → 0 ≤ (fun i => out i + G i : Nat → Int) i ∧ (fun i => out i + G i : Nat → Int) i ≤ (gI (intL c2)) i) := fun i hi => by
                  have := HGB.out i hi
                  have := HO.out i hi
                  show 0 ≤ out i + G i ∧ out i + G i ≤ _
                  omega
                have R0' : Hid (w5.rowIs (w.heap.size + 1) 3 j0 (fun j => .int .i64 ((fun i => out i + G i : Nat → Int) j))) := R0.out.congr (fun j hj => by rw [if_pos hj])
                clear HD2 hd R0 RW HGB HO HGD HWT H1 H2 T1 T2
                go_wp2
                go_roundw
                case rel => exact ⟨f', m - sumTo G j0, fun i => out i + G i, rfl, by omega, by omega, by omega, HDn, HOn, R0', HB5⟩
                case measure => simp [intOf]; omega
    · have hres : RES = out := by rw [← HD.out]; exact divF_end (fun h => hmp h.1)
      subst hres
      clear H1 H2 T1 T2 HC HWB HO HD HG HWN
      go_wp2
      go_ret
      exact ⟨_, by rw [HZ.out, ofFn_len]; rfl, by rw [HZ.out, ofFn_len]; exact R0.out.congr (fun j hj => by rw [gI_ofFn2 hj]), by omega, HB.out⟩
end Go.Proofs.YtdnodaoeflbfkaaGreat
/- Plans: what is planned, as a plain function; rows of rows that a call builds. -/
namespace Go.Proofs.YtdnodaoeflbfkaaGreat
open Go.RowKit Go.BigFrame
set_option linter.unusedVariables false

def subL (a b : List Int) : List Int := List.zipWith (fun x y => x - y) a b
noncomputable def lefK (wants : List WaD) (l : List IsD) : Nat → List Int
  | 0 => l.map (fun I => I.2.2.2)
  | k + 1 => match wants[k]? with
    | some W => subL (lefK wants l k) (shrL W l (lefK wants l k))
    | none => lefK wants l k
noncomputable def rowK (wants : List WaD) (l : List IsD) (k : Nat) : List Int := match wants[k]? with
  | some W => shrL W l (lefK wants l k)
  | none => []
def planB (wants : List WaD) (l : List IsD) : Bool := (decide (wants.length ≤ 40) && wants.all wanB) && (decide (l.length ≤ 12) && l.all islB)
noncomputable def rowsK (wants : List WaD) (l : List IsD) (k : Nat) : List (List Int) := (List.range k).map (rowK wants l)
noncomputable def planL (wants : List WaD) (l : List IsD) : List (List Int) := if planB wants l = true then rowsK wants l wants.length else []
theorem rowK_eq {wants : List WaD} {l : List IsD} {k : Nat} (hk : k < wants.length) : rowK wants l k = shrL (wants[k]'hk) l (lefK wants l k) := by unfold rowK; rw [List.getElem?_eq_getElem hk]
theorem lefK_succ {wants : List WaD} {l : List IsD} {k : Nat} (hk : k < wants.length) : lefK wants l (k + 1) = subL (lefK wants l k) (rowK wants l k) := by
  rw [rowK_eq hk]
  show (match wants[k]? with | some W => _ | none => _) = _
  rw [List.getElem?_eq_getElem hk]
theorem islB_room {I : IsD} (h : islB I = true) : 0 ≤ I.2.2.2 ∧ I.2.2.2 ≤ 10000 := by
  unfold islB at h
  rw [Bool.and_eq_true] at h
  exact inB_iff.1 h.2
theorem wanB_copies {W : WaD} (h : wanB W = true) : 0 ≤ W.1 ∧ W.1 ≤ 10000 := by
  unfold wanB at h
  simp only [Bool.and_eq_true] at h
  exact inB_iff.1 h.1.1.1
/-- a right want over right islands, with right numbers left: a share for each, none beyond what is left -/
theorem shrL_right {W : WaD} {l : List IsD} {left : List Int} (hw : wanB W = true) (h12 : l.length ≤ 12) (ha : l.all islB = true) (hn : left.length = l.length) (hb : ∀ x ∈ left, 0 ≤ x ∧ x ≤ 10000) :
    (shrL W l left).length = l.length ∧ ∀ i (h : i < (shrL W l left).length) (h' : i < left.length), 0 ≤ (shrL W l left)[i] ∧ (shrL W l left)[i] ≤ left[i] := by
  have hg : ∀ i, i < left.length → 0 ≤ gI left i ∧ gI left i ≤ 10000 := fun i hi => by rw [gI_get hi]; exact hb _ (List.getElem_mem hi)
  have hws : ∀ i, i < (wsOf W l).length → 0 ≤ gI (wsOf W l) i ∧ gI (wsOf W l) i ≤ 1000 := fun i hi => by
    rw [gI_get hi]
    have := List.getElem_mem hi
    obtain ⟨I, _, e⟩ := List.mem_map.1 this
    rw [← e]; exact wOf_in hw I
  have hr : rightP W.1 (wsOf W l) left := ⟨⟨wanB_copies hw, by rw [wsOf_len]; omega, by rw [wsOf_len, hn]⟩, fun i hi => ⟨hws i hi, hg i (by rw [wsOf_len] at hi; omega)⟩⟩
  have e : shrL W l left = divL W.1 (wsOf W l) left := (shrL_good hw h12 ha).trans ((dvdL_says _ _ _).2 hr)
  have hl : (shrL W l left).length = l.length := by rw [e]; unfold divL; rw [ofFn_len, wsOf_len]
  refine ⟨hl, fun i h h' => ?_⟩
  have hwn : ∀ i, 0 ≤ gI (wsOf W l) i := gI_nn (fun i hi => (hws i hi).1)
  have := divF_bd (L := (wsOf W l).length) (c := gI left) hwn W.1.toNat W.1 (fun _ => 0) (fun i hi => ⟨Int.le_refl _, (hg i (by rw [wsOf_len] at hi; omega)).1⟩) i (by rw [wsOf_len]; omega)
  have hv : (shrL W l left)[i] = divF (wsOf W l).length (gI (wsOf W l)) (gI left) W.1.toNat W.1 (fun _ => 0) i := by
    have h2 : i < (divL W.1 (wsOf W l) left).length := by rw [← e]; exact h
    have : (shrL W l left)[i] = (divL W.1 (wsOf W l) left)[i] := by congr 1
    rw [this]; exact ofFn_get _ _ _ _
  rw [hv]
  have hgi := gI_get h'
  omega
/-- all but the wants from k on are right -/
def gudK (wants : List WaD) (l : List IsD) (k : Nat) : Prop := (l.length ≤ 12 ∧ l.all islB = true) ∧ ∀ j (h : j < wants.length), j < k → wanB (wants[j]'h) = true
theorem lefK_right {wants : List WaD} {l : List IsD} : ∀ k, k ≤ wants.length → gudK wants l k → (lefK wants l k).length = l.length ∧ ∀ x ∈ lefK wants l k, 0 ≤ x ∧ x ≤ 10000
  | 0, _, h => ⟨by unfold lefK; rw [List.length_map], fun x hx => by
    unfold lefK at hx
    obtain ⟨I, hI, rfl⟩ := List.mem_map.1 hx
    exact islB_room (List.all_eq_true.1 h.1.2 I hI)⟩
  | k + 1, hk, h => by
    obtain ⟨h1, h2⟩ := lefK_right k (by omega) ⟨h.1, fun j hj hjk => h.2 j hj (by omega)⟩
    have hr := shrL_right (h.2 k (by omega) (by omega)) h.1.1 h.1.2 h1 h2
    rw [← rowK_eq] at hr
    rw [lefK_succ (by omega)]
    refine ⟨by unfold subL; rw [List.length_zipWith, h1, hr.1, Nat.min_self], fun x hx => ?_⟩
    obtain ⟨i, hi, rfl⟩ := List.getElem_of_mem hx
    unfold subL at hi ⊢
    rw [List.length_zipWith] at hi
    rw [List.getElem_zipWith]
    have := hr.2 i (by omega) (by omega)
    have := h2 _ (List.getElem_mem (show i < (lefK wants l k).length by omega))
    omega
theorem rowK_right {wants : List WaD} {l : List IsD} {k : Nat} (hk : k < wants.length) (h : gudK wants l (k + 1)) : (rowK wants l k).length = l.length ∧ ∀ i (h : i < (rowK wants l k).length) (h' : i < (lefK wants l k).length), 0 ≤ (rowK wants l k)[i] ∧ (rowK wants l k)[i] ≤ (lefK wants l k)[i] := by
  obtain ⟨h1, h2⟩ := lefK_right k (by omega) ⟨h.1, fun j hj hjk => h.2 j hj (by omega)⟩
  have := shrL_right (h.2 k hk (by omega)) h.1.1 h.1.2 h1 h2
  rw [← rowK_eq hk] at this
  exact this
/-- as many shares as islands: these are right -/
theorem len_gud {W : WaD} {l : List IsD} {left : List Int} (h : (shrL W l left).length = l.length) : l.length ≤ 12 ∧ l.all islB = true := by
  by_cases hr : shrR W l = true
  · unfold shrR at hr
    rw [Bool.and_eq_true, Bool.and_eq_true] at hr
    exact ⟨of_decide_eq_true hr.1.2, hr.2⟩
  · have e : shrL W l left = [] := by unfold shrL; rw [if_neg hr]
    rw [e] at h
    have : l = [] := List.eq_nil_of_length_eq_zero h.symm
    subst this
    exact ⟨by simp, rfl⟩
theorem planL_no {wants : List WaD} {l : List IsD} (h : planB wants l = true → False) : planL wants l = [] := by unfold planL; rw [if_neg h]
theorem planB_all {wants : List WaD} {l : List IsD} (h : planB wants l = true) : wants.length ≤ 40 ∧ gudK wants l wants.length := by
  unfold planB at h
  simp only [Bool.and_eq_true, decide_eq_true_eq] at h
  exact ⟨h.1.1, h.2, fun j hj _ => List.all_eq_true.1 h.1.2 _ (List.getElem_mem hj)⟩
theorem planL_yes {wants : List WaD} {l : List IsD} (h40 : wants.length ≤ 40) (h : gudK wants l wants.length) : planL wants l = rowsK wants l wants.length := by
  unfold planL planB
  rw [if_pos]
  simp only [Bool.and_eq_true, decide_eq_true_eq]
  refine ⟨⟨h40, List.all_eq_true.2 fun x hx => ?_⟩, h.1⟩
  obtain ⟨j, hj, rfl⟩ := List.getElem_of_mem hx
  exact h.2 j hj hj
theorem rowsK_succ (wants : List WaD) (l : List IsD) (k : Nat) : rowsK wants l (k + 1) = rowsK wants l k ++ [rowK wants l k] := by unfold rowsK; rw [List.range_succ, List.map_append]; rfl
theorem rowsK_len (wants : List WaD) (l : List IsD) (k : Nat) : (rowsK wants l k).length = k := by unfold rowsK; simp

-- rows of rows, as cells
def rowsU : List (List Int) → UD
  | [] => .nil
  | z :: r => .l 1 z.length (ofInts z) (rowsU r)
theorem rowsU_app : ∀ (a : List (List Int)) (z : List Int), rowsU (a ++ [z]) = (rowsU a).app (.l 1 z.length (ofInts z) .nil)
  | [], z => by rw [show rowsU [] = .nil from rfl, UD.app_nil]; rfl
  | x :: r, z => by show UD.l 1 x.length (ofInts x) (rowsU (r ++ [z])) = _; rw [rowsU_app r z]; rfl
theorem rowsU_len : ∀ a : List (List Int), (rowsU a).len = a.length * 1
  | [] => rfl
  | z :: r => by show UD.len (.l 1 z.length (ofInts z) (rowsU r)) = _; rw [UD.len_l, rowsU_len r]; simp
theorem rowsU_ty : ∀ (a : List (List Int)) (i : Nat), (∀ z ∈ a, (∀ x ∈ z, inK .i64 x) ∧ z.length ≤ 64) → tyU (rowsU a) (uE 3) i
  | [], _, _ => trivial
  | z :: r, i, h => by
    have hz := h z (.head _)
    refine ⟨⟨1, ?_, ofInts_tyS hz.1 (by unfold maxLen; omega)⟩, rowsU_ty r (i + 1) (fun y hy => h y (.tail _ hy))⟩
    have : i % (uE 3).length = 0 := by show i % 1 = 0; omega
    rw [this]; rfl
theorem rowsU_cnt : ∀ a : List (List Int), (∀ z ∈ a, z.length ≤ 64) → cnt (rowsU a) ≤ 64 * a.length
  | [], _ => by simp [rowsU, cnt]
  | z :: r, h => by
    have := rowsU_cnt r (fun y hy => h y (.tail _ hy))
    have hz := h z (.head _)
    show cnt (.l 1 z.length (ofInts z) (rowsU r)) ≤ _
    simp only [cnt, cnt_ofInts, List.length_cons]
    omega
theorem oH_row {w : World} {z : List Int} {c : Value} {T : List Nat} (h : oS w 1 z.length (ofInts z) c T) : oH w (.l 1 z.length (ofInts z) .nil) [c] T := by
  obtain ⟨h0, e, zs, S1, h1, h2, rfl⟩ := h
  exact ⟨c, [], S1, [], rfl, by simp, h0, ⟨e, zs, h1, h2⟩, rfl, rfl⟩
/-- rows of numbers that a call builds, in blocks base .. b; block gL is not among them -/
def PLx (base gL b : Nat) (w : World) (e : TypeId) (v : Value) (R : List (List Int)) (xs : List Value) (S : List Nat) : Prop :=
  w.ownsRow base e 1 v R.length xs ∧ oH w (rowsU R) xs S ∧ own2 S base b ∧ (∀ g ∈ blkOf v, g ∉ S) ∧ gL ∉ S ∧ gL ∉ blkOf v ∧ ∀ g ∈ blkOf v, g < b
def PL (base gL : Nat) (w : World) (e : TypeId) (v : Value) (R : List (List Int)) : Prop := ∃ xs S, PLx base gL w.heap.size w e v R xs S
theorem PLx.frame {base gL b : Nat} {w w' : World} {e : TypeId} {v : Value} {R : List (List Int)} {xs : List Value} {S : List Nat} (h : PLx base gL b w e v R xs S) (hf : ∀ g, g < b → g ≠ gL → w'.heap[g]? = w.heap[g]?) : PLx base gL b w' e v R xs S := by
  obtain ⟨h1, h2, h3, h4, h5, h6, h7⟩ := h
  exact ⟨uowns_frame h1 (fun x hx => hf x (h7 x hx) (fun e => h6 (e ▸ hx))), h2.frame _ _ _ (fun g hg => hf g (h3.2 g hg).2 (fun e => h5 (e ▸ hg))), h3, h4, h5, h6, h7⟩
theorem PL.frame {base gL : Nat} {w w' : World} {e : TypeId} {v : Value} {R : List (List Int)} (h : PL base gL w e v R) (hs : w.heap.size ≤ w'.heap.size) (hf : ∀ g, g < w.heap.size → g ≠ gL → w'.heap[g]? = w.heap[g]?) : PL base gL w' e v R := by
  obtain ⟨xs, S, h⟩ := h
  obtain ⟨h1, h2, h3, h4, h5, h6, h7⟩ := h.frame hf
  exact ⟨xs, S, h1, h2, h3.mono (Nat.le_refl _) hs, h4, h5, h6, fun g hg => Nat.lt_of_lt_of_le (h7 g hg) hs⟩
theorem PL.below {base gL : Nat} {w w' : World} {e : TypeId} {v : Value} {R : List (List Int)} (h : PL base gL w e v R) (hb : Below w.heap.size w w') : PL base gL w' e v R := h.frame hb.size (fun g hg _ => hb.block g hg)
theorem PL.slice {base gL : Nat} {w : World} {e : TypeId} {v : Value} {R : List (List Int)} (h : PL base gL w e v R) : ∃ a p, v = .slice a R.length p := by
  obtain ⟨xs, S, h1, _⟩ := h
  exact uowns_slice h1
theorem PL.done {base gL : Nat} {w : World} {e : TypeId} {v : Value} {R : List (List Int)} (h : PL base gL w e v R) (hb : base ≤ w.heap.size) : ∃ S, oS w 1 R.length (rowsU R) v S ∧ own2 S base w.heap.size := by
  obtain ⟨xs, S, h1, h2, h3, h4, _, _⟩ := h
  exact AS.done (cs := rowsU R) ⟨rowsU_len R, xs, S, h1, h2, h3, h4⟩ (by decide) hb
theorem PL.none {base gL : Nat} {w : World} {e : TypeId} {g : Nat} (hn : g ≠ gL) (hg : g < w.heap.size) (h : w.ownsRow base e 1 (.slice (some ⟨g, 0, none⟩) 0 0) 0 []) : PL base gL w e (.slice (some ⟨g, 0, none⟩) 0 0) [] := by
  refine ⟨[], [], h, ⟨rfl, rfl⟩, own2.nil _ _, (fun _ _ h => by cases h), (fun h => by cases h), fun h => ?_, fun x hx => ?_⟩
  · have : gL = g := by simpa [blkOf, Value.ownBlock] using h
    exact hn this.symm
  · have : x = g := by simpa [blkOf, Value.ownBlock] using hx
    omega
theorem PLx.snoc {base b b0 gL : Nat} {w1 w2 : World} {e : TypeId} {v v' : Value} {R : List (List Int)} {z : List Int} {c : Value} {T : List Nat} {xs : List Value} {S : List Nat} (h : PLx base gL b w1 e v R xs S)
    (hgb : gL < b) (hbb : b ≤ b0) (hR : oS w1 1 z.length (ofInts z) c T) (hT : own2 T b0 w1.heap.size) (hb : base ≤ b) (hb2 : b0 ≤ w1.heap.size)
    (hown : w2.ownsRow base e 1 v' (R.length + 1) (xs ++ [c])) (hgrow : w1.grownBy w2 v.ownBlock) (hat : v'.ownBlock = v.ownBlock ∨ v'.ownBlock = some w1.heap.size) : PL base gL w2 e v' (R ++ [z]) := by
  obtain ⟨hw, ho, hS, hne, hgS, hgv, hvb⟩ := h
  have hrow : ∀ g', v.ownBlock = some g' → g' ∈ blkOf v := fun g' h => by unfold blkOf; rw [h]; simp
  have hvT : ∀ g' ∈ blkOf v, g' ∉ T := fun g' h ht => by have := hvb g' h; have := hT.2 g' ht; omega
  refine ⟨xs ++ [c], S ++ T, by rw [List.length_append]; exact hown, ?_, (own2.app hS hT hbb (by omega) (by omega)).mono (Nat.le_refl _) hgrow.size, fun g' hg' => ?_, ?_, ?_, fun g' hg' => (ublk_lt hown g' hg').2⟩
  · rw [rowsU_app]
    exact oH.app (ho.frame _ _ _ (grown_frame hgrow (ho.lt _ _ _) (fun g' h => hne g' (hrow g' h)))) ((oH_row hR).frame _ _ _ (grown_frame hgrow ((oH_row hR).lt _ _ _) (fun g' h => hvT g' (hrow g' h))))
  · rw [List.mem_append]
    rcases hat with h | h
    · have hm : g' ∈ blkOf v := by unfold blkOf at hg' ⊢; rw [h] at hg'; exact hg'
      exact fun hx => hx.elim (hne g' hm) (hvT g' hm)
    · have hm : g' = w1.heap.size := by unfold blkOf at hg'; rw [h] at hg'; simpa using hg'
      intro hx
      rcases hx with hx | hx
      · have := hS.2 g' hx; omega
      · have := hT.2 g' hx; omega
  · rw [List.mem_append]
    intro hx
    rcases hx with hx | hx
    · exact hgS hx
    · have := hT.2 gL hx; omega
  · rcases hat with h | h
    · intro hx
      exact hgv (by unfold blkOf at hx ⊢; rw [h] at hx; exact hx)
    · intro hx
      have : gL = w1.heap.size := by unfold blkOf at hx; rw [h] at hx; simpa using hx
      omega
end Go.Proofs.YtdnodaoeflbfkaaGreat
/- Shares, by the specification: the answer as a row of the call's own. -/
namespace Go.Proofs.YtdnodaoeflbfkaaGreat
open Go.RowKit Go.BigFrame
set_option linter.unusedVariables false

set_option maxRecDepth 20000 in
set_option maxHeartbeats 3200000 in
theorem sSharesR_any (W : WaD) (l : List IsD) (k2 : Nat) (c2 : UD) (xs : List Value) (lv v2 : Value) (lo hi : Nat) (w : World) (hq : okWa W) (hql : ∀ I ∈ l, okIs1 I) (hll : l.length ≤ maxLen) (ht2 : tyS 1 k2 c2 1) (hx : waH w W xs) (hl : isS w lv l) (hx2 : uS w lo hi 1 k2 c2 v2) :
    Calls Tryz.prog 12 #[.agg xs.toArray, lv, v2] w fun e w' => ∃ b, e = .returned (.slice (some ⟨b, 0, none⟩) (shrL W l (intL c2)).length (shrL W l (intL c2)).length) ∧ w'.rowIs b 3 (shrL W l (intL c2)).length (fun j => .int .i64 (gI (shrL W l (intL c2)) j)) ∧ w.heap.size ≤ b ∧ Below w.heap.size w w' := by
  have hk2 := intL_len ht2
  obtain ⟨i0, hi0, hz0, hz1, hz2⟩ := infoD Tryz.infoDInt
  have HC0 : Hid (∀ wx, Below w.heap.size w wx → Calls Tryz.prog 65 #[.agg xs.toArray] wx fun e w' => e = .returned (.bool (wanB W)) ∧ Below wx.heap.size wx w') := fun wx hb => sWantOk_any W xs wx hq (hx.below hb)
  have HC1 : Hid (∀ (I : IsD) (ys : List Value) wx, I ∈ l → isH wx I ys → Calls Tryz.prog 66 #[.agg ys.toArray] wx fun e w' => e = .returned (.bool (islB I)) ∧ Below wx.heap.size wx w') := fun I ys wx hI h => sIslandOk_any I ys wx (hql I hI) h
  have HC2 : Hid (∀ (I : IsD) (ys : List Value) wx, I ∈ l → isH wx I ys → Below w.heap.size w wx → Calls Tryz.prog 67 #[.agg xs.toArray, .agg ys.toArray] wx fun e w' => e = .returned (.bool (eligB W I)) ∧ Below wx.heap.size wx w') := fun I ys wx hI h hb => sEligible_any W I xs ys wx hq (hql I hI) (hx.below hb) h
  have HC3 : Hid (∀ (s : ByteArray) wx, Below w.heap.size w wx → Calls Tryz.prog 68 #[.agg xs.toArray, .string s] wx fun e w' => e = .returned (.int .i64 (weighI W.2.2.2 s)) ∧ Below wx.heap.size wx w') := fun s wx hb => sWeightOf_any W.1 W.2.1 W.2.2.1 W.2.2.2 s xs wx hq.2.2.2.1 (hx.below hb)
  have HD : Hid (∀ (v1 : Value) wx, Below w.heap.size w wx → wanB W = true → uS wx 0 wx.heap.size 1 l.length (ofInts (wsOf W l)) v1 → Calls Tryz.prog 69 #[.int .i64 W.1, v1, v2] wx fun e w' => ∃ b, e = .returned (.slice (some ⟨b, 0, none⟩) (dvdL W.1 (wsOf W l) (intL c2)).length (dvdL W.1 (wsOf W l) (intL c2)).length) ∧ w'.rowIs b 3 (dvdL W.1 (wsOf W l) (intL c2)).length (fun j => .int .i64 (gI (dvdL W.1 (wsOf W l) (intL c2)) j)) ∧ wx.heap.size ≤ b ∧ Below wx.heap.size wx w') := fun v1 wx hb hw h1 =>
    sDivR_any W.1 l.length k2 (ofInts (wsOf W l)) c2 v1 v2 0 wx.heap.size lo hi wx (ws_ty hw hll) ht2 h1 (hx2.below hb) _ (by rw [intL_of]; exact dvdL_says _ _ _)
  obtain ⟨z, hz⟩ : ∃ z, z = shrL W l (intL c2) := ⟨_, rfl⟩
  have E0 : Hid (wanB W = false → z = []) := fun h => hz.trans (shrL_want h)
  have E1 : Hid (¬ l.length ≤ 12 → z = []) := fun h => hz.trans (shrL_long h)
  have E2 : Hid (k2 ≠ l.length → z = []) := fun h => hz.trans (shrL_len (by rw [hk2]; exact h))
  have E3 : Hid (∀ (k : Nat) (hk : k < l.length), islB (l[k]'hk) = false → z = []) := fun k hk h => hz.trans (shrL_bad hk h)
  have E4 : Hid (wanB W = true → l.length ≤ 12 → l.all islB = true → z = dvdL W.1 (wsOf W l) (intL c2)) := fun h1 h2 h3 => hz.trans (shrL_good h1 h2 h3)
  rw [← hz]
  have HL := hide hl
  unfold maxLen at hll
  have hk2m := ht2.2.2.1
  unfold maxLen at hk2m
  obtain ⟨e1, e2, e3, rfl, ⟨a1, p1, rfl, -⟩, ⟨a2, p2, rfl, -⟩, a3, p3, rfl, -⟩ := hx
  obtain ⟨la, lp, rfl, -⟩ := hl
  obtain ⟨va, vp, rfl, -⟩ := hx2
  clear hz hk2 ht2 hq hql
  have OX : Hid (objU (w.alloc (.cells #[.int .i64 W.1, .slice a1 W.2.1.length p1, .slice a2 W.2.2.1.length p2, .slice a3 W.2.2.2.length p3] 35)) w.heap.size 35 [.int .i64 W.1, .slice a1 W.2.1.length p1, .slice a2 W.2.2.1.length p2, .slice a3 W.2.2.2.length p3]) := objU.new _ _ _
  have BX : Hid (Below w.heap.size w (w.alloc (.cells #[.int .i64 W.1, .slice a1 W.2.1.length p1, .slice a2 W.2.2.1.length p2, .slice a3 W.2.2.2.length p3] 35))) := (Below.refl _ _).alloc (Nat.le_refl _) _
  have HWOF : Hid (∀ I : IsD, wOf W I = if eligB W I = true then weighI W.2.2.2 I.1 else 0) := fun I => rfl
  generalize hwan : wanB W = q0 at *
  go_enter Tryz.func12, Tryz.ntmps12
  have x0 := OX.out.cell 0 _ rfl
  have x1 := OX.out.cell 1 _ rfl
  have x2 := OX.out.cell 2 _ rfl
  have x3 := OX.out.cell 3 _ rfl
  go_wp2_with fail
  refine (HC0.out _ BX.out).mono ?_
  rintro e w1 ⟨rfl, hb1⟩
  have OX1 := hide (OX.out.below hb1)
  have BX1 : Hid (Below w.heap.size w w1) := BX.out.trans (hb1.mono BX.out.size)
  clear OX BX hb1 x0 x1 x2 x3
  cases q0 with
  | false =>
    have Hn := E0.out rfl
    subst Hn
    clear OX1 E0 E1 E2 E3 E4
    go_wp2
    go_ret
    exact ⟨_, rfl, lit_row _ _, BX1.out.size, BX1.out.alloc BX1.out.size _⟩
  | true =>
    by_cases h12 : l.length ≤ 12
    rotate_left
    · have h12' : (12 : Int) < (l.length : Int) := by omega
      have Hn := E1.out h12
      subst Hn
      clear OX1 E0 E1 E2 E3 E4
      go_wp2
      go_ret
      exact ⟨_, rfl, lit_row _ _, BX1.out.size, BX1.out.alloc BX1.out.size _⟩
    by_cases hkl : k2 = l.length
    rotate_left
    · have h12' : ¬ (12 : Int) < (l.length : Int) := by omega
      have hne : ((k2 : Int) != (l.length : Int)) = true := by simp; omega
      have Hn := E2.out hkl
      subst Hn
      clear OX1 E0 E1 E2 E3 E4
      go_wp2
      go_ret
      exact ⟨_, rfl, lit_row _ _, BX1.out.size, BX1.out.alloc BX1.out.size _⟩
    have h12' : ¬ (12 : Int) < (l.length : Int) := by omega
    subst hkl
    have hne : ((l.length : Int) != (l.length : Int)) = false := by simp
    go_wp2
    have R0 : Hid ((w1.alloc (.cells #[] 3)).ownsRow w1.heap.size 3 1 (.slice (some ⟨w1.heap.size, 0, none⟩) 0 0) 0 (((wsOf W l).take 0).map (Value.int .i64))) := World.ownsRow_lit w1 #[] 0 (Nat.le_refl _) (by decide) rfl
    go_loopw [7, 8] (fun s i wr => ∃ (k : Nat), k ≤ l.length ∧ i = .int .i64 k ∧ Hid (s ≠ .slice none 0 0) ∧ Hid (wr.ownsRow w1.heap.size 3 1 s k (((wsOf W l).take k).map (Value.int .i64))) ∧ Hid (∀ j (hj : j < l.length), j < k → islB (l[j]'hj) = true) ∧ Hid (Below w1.heap.size w1 wr)) (fun _ i _ => l.length - (intOf i).toNat)
    case atStart => exact ⟨0, Nat.zero_le _, rfl, (fun h => by cases h), R0, fun j _ hj => by omega, (Below.refl _ _).alloc (Nat.le_refl _) _⟩
    case round =>
      clear R0
      obtain ⟨k, hk, rfl, Hnn, How, Hx, HB⟩ := hrel
      have HW : Hid (Below w.heap.size w wr) := BX1.out.trans (HB.out.mono BX1.out.size)
      have HOX : Hid (∀ wx, Below wr.heap.size wr wx → objU wx w.heap.size 35 [.int .i64 W.1, .slice a1 W.2.1.length p1, .slice a2 W.2.2.1.length p2, .slice a3 W.2.2.2.length p3]) := fun wx hb => OX1.out.below (HB.out.trans (hb.mono HB.out.size))
      by_cases hlt : k < l.length
      · obtain ⟨la', lp', e, hrows⟩ := HL.out.below HW.out
        cases e
        obtain ⟨bb, off, rfl, hat⟩ := hrows (by omega)
        obtain ⟨d1, d2, c0, c1, c2', c3, ⟨b1, r1, rfl, g1⟩, b2, r2, rfl, g2⟩ := hat k hlt
        have hbb := World.block_lt_of_cell? _ _ c0
        have HIs := hide (HC1.out (l[k]'hlt) [.string (l[k]'hlt).1, .slice b1 (l[k]'hlt).2.1.length r1, .slice b2 (l[k]'hlt).2.2.1.length r2, .int .i64 (l[k]'hlt).2.2.2] wr (List.getElem_mem hlt) ⟨_, _, rfl, ⟨_, _, rfl, g1⟩, _, _, rfl, g2⟩)
        have HEl : Hid (∀ wx, Below wr.heap.size wr wx → Calls Tryz.prog 67 #[.agg #[.int .i64 W.1, .slice a1 W.2.1.length p1, .slice a2 W.2.2.1.length p2, .slice a3 W.2.2.2.length p3], .agg #[.string (l[k]'hlt).1, .slice b1 (l[k]'hlt).2.1.length r1, .slice b2 (l[k]'hlt).2.2.1.length r2, .int .i64 (l[k]'hlt).2.2.2]] wx fun e w' => e = .returned (.bool (eligB W (l[k]'hlt))) ∧ Below wx.heap.size wx w') := fun wx hb => HC2.out (l[k]'hlt) [.string (l[k]'hlt).1, .slice b1 (l[k]'hlt).2.1.length r1, .slice b2 (l[k]'hlt).2.2.1.length r2, .int .i64 (l[k]'hlt).2.2.2] wx (List.getElem_mem hlt) (isH.below ⟨_, _, rfl, ⟨_, _, rfl, g1⟩, _, _, rfl, g2⟩ hb) (HW.out.trans (hb.mono HW.out.size))
        have HWe : Hid (∀ wx, Below wr.heap.size wr wx → Calls Tryz.prog 68 #[.agg #[.int .i64 W.1, .slice a1 W.2.1.length p1, .slice a2 W.2.2.1.length p2, .slice a3 W.2.2.2.length p3], .string (l[k]'hlt).1] wx fun e w' => e = .returned (.int .i64 (weighI W.2.2.2 (l[k]'hlt).1)) ∧ Below wx.heap.size wx w') := fun wx hb => HC3.out _ wx (HW.out.trans (hb.mono HW.out.size))
        have Hsu := hide (ws_succ (W := W) hlt)
        have HwI := hide (HWOF.out (l[k]'hlt))
        have Hbad : Hid (islB (l[k]'hlt) = false → z = []) := E3.out k hlt
        have Hnx : Hid (islB (l[k]'hlt) = true → ∀ j (hj : j < l.length), j < k + 1 → islB (l[j]'hj) = true) := fun h j hj hjk => by
          by_cases e : j = k
          · subst e; exact h
          · exact Hx.out j hj (by omega)
        have HR4 : Hid (∀ wx, Below wr.heap.size wr wx → wx.cell? ⟨bb, off + k * 4, none⟩ = some (.string (l[k]'hlt).1) ∧ wx.cell? ⟨bb, off + k * 4 + 1, none⟩ = some (.slice b1 (l[k]'hlt).2.1.length r1) ∧ wx.cell? ⟨bb, off + k * 4 + 2, none⟩ = some (.slice b2 (l[k]'hlt).2.2.1.length r2) ∧ wx.cell? ⟨bb, off + k * 4 + 3, none⟩ = some (.int .i64 (l[k]'hlt).2.2.2)) := fun wx hb => ⟨(hb.cell (p := ⟨bb, off + k * 4, none⟩) hbb).trans c0, (hb.cell (p := ⟨bb, off + k * 4 + 1, none⟩) hbb).trans c1, (hb.cell (p := ⟨bb, off + k * 4 + 2, none⟩) hbb).trans c2', (hb.cell (p := ⟨bb, off + k * 4 + 3, none⟩) hbb).trans c3⟩
        clear hat hrows g1 g2 Hx HL hbb E0 E1 E2 E3 E4 HD
        generalize wOf W (l[k]'hlt) = NW at *
        generalize islB (l[k]'hlt) = ri at *
        generalize eligB W (l[k]'hlt) = re at *
        generalize weighI W.2.2.2 (l[k]'hlt).1 = wi at *
        generalize (l[k]'hlt).1 = z0 at *
        generalize (l[k]'hlt).2.1.length = z1 at *
        generalize (l[k]'hlt).2.2.1.length = z2 at *
        generalize (l[k]'hlt).2.2.2 = z3 at *
        cases ri with
        | false =>
          have Hn := Hbad.out (by first | rfl | trivial)
          subst Hn
          clear Hbad Hnx HEl HWe HOX HR4
          go_wp2_with fail
          refine HIs.out.mono ?_
          rintro e w2 ⟨rfl, hb2⟩
          have HB2 : Hid (Below w.heap.size w w2) := HW.out.trans (hb2.mono HW.out.size)
          go_wp2
          go_ret
          exact ⟨_, rfl, lit_row _ _, HB2.out.size, HB2.out.alloc HB2.out.size _⟩
        | true =>
          have HN := hide (Hnx.out (by first | rfl | trivial))
          go_wp2_with fail
          refine HIs.out.mono ?_
          rintro e w2 ⟨rfl, hb2⟩
          have hb0d := hide hb2
          clear hb2 c0 c1 c2' c3 HIs
          have y0 := (HOX.out w2 hb0d.out).cell 0 _ rfl
          have y1 := (HOX.out w2 hb0d.out).cell 1 _ rfl
          have y2 := (HOX.out w2 hb0d.out).cell 2 _ rfl
          have y3 := (HOX.out w2 hb0d.out).cell 3 _ rfl
          obtain ⟨v0, v1, v2', v3⟩ := HR4.out w2 hb0d.out
          go_wp2
          go_region_held3 (fun w' => w'.cell? ⟨w.heap.size, 0, none⟩ = some (.int .i64 W.1) ∧ w'.cell? ⟨w.heap.size, 1, none⟩ = some (.slice a1 W.2.1.length p1) ∧ w'.cell? ⟨w.heap.size, 2, none⟩ = some (.slice a2 W.2.2.1.length p2) ∧ w'.cell? ⟨w.heap.size, 3, none⟩ = some (.slice a3 W.2.2.2.length p3) ∧ w'.cell? ⟨bb, off + k * 4, none⟩ = some (.string z0) ∧ w'.cell? ⟨bb, off + k * 4 + 1, none⟩ = some (.slice b1 z1 r1) ∧ w'.cell? ⟨bb, off + k * 4 + 2, none⟩ = some (.slice b2 z2 r2) ∧ w'.cell? ⟨bb, off + k * 4 + 3, none⟩ = some (.int .i64 z3)) (first | assumption | exact ⟨y0, y1, y2, y3, v0, v1, v2', v3⟩ | go_keep)
            (first | (go_at_call 67; refine (HEl.out _ (show Below wr.heap.size wr _ from (by repeat (first | with_reducible exact hb0d.out | with_reducible refine Below.drew ?_ | with_reducible refine below_drewN ?_ _)))).mono ?_; rintro e w3 ⟨rfl, hc⟩; have hb3 : Hid (Below wr.heap.size wr w3) := Below.trans (show Below wr.heap.size wr _ from (by repeat (first | with_reducible exact hb0d.out | with_reducible refine Below.drew ?_ | with_reducible refine below_drewN ?_ _))) (hc.mono (by (try simp) <;> first | done | exact hb0d.out.size | (have := hb0d.out.size; omega))); clear hc; have u0 := (HOX.out w3 hb3.out).cell 0 _ rfl; have u1 := (HOX.out w3 hb3.out).cell 1 _ rfl; have u2 := (HOX.out w3 hb3.out).cell 2 _ rfl; have u3 := (HOX.out w3 hb3.out).cell 3 _ rfl; obtain ⟨q0, q1, q2, q3⟩ := HR4.out w3 hb3.out))
          clear y0 y1 y2 y3 v0 v1 v2' v3 hb0d
          cases re with
          | false =>
            clear u0 u1 u2 u3 q0 q1 q2 q3
            have Howw3 := hide (owns_below_any How.out hb3.out)
            have HBw : Hid (Below w1.heap.size w1 w3) := HB.out.trans (hb3.out.mono HB.out.size)
            have Hln : Hid (((wsOf W l).take (k + 1)).map (Value.int .i64) = ((wsOf W l).take k).map (Value.int .i64) ++ [.int .i64 (0 : Int)]) := by show _ = _; rw [Hsu.out, HwI.out]; rfl
            clear Hsu HwI HOX HR4 Hnx Hbad HC0 HC1 HC2 HC3 HEl HWe
            go_wp2_with (at_builtin; refine wpList_append_own _ rfl _ _ 28 rfl w1.heap.size 3 i0 _ 1 8 Tryz.underlying28 hi0 hz0 hz1 hz2 rfl (by decide) _ _ _ rfl (Howw3.out.alloc _) ⟨w3.heap.size, 0, none⟩ 1 1 [.int .i64 (0 : Int)] rfl rfl (cell_one_at1 _ _ (by simp) _ _) (fun x hx => by simp at hx; rcases hx with rfl; rfl) (by unfold maxLen; omega) (by omega) (by have := HBw.out.size; simp; omega) ?_; intro v' w5 hown' hgrow3 hnil3)
            go_roundw
            case rel => exact ⟨k + 1, by omega, by go_num, (fun h => Hnn.out (hnil3.1 h).1), by rw [Hln.out]; exact hown', HN, Below.grown (HBw.out.alloc HBw.out.size _) hgrow3 (by have := HBw.out.size; simp; omega) (fun j hj => (How.out.lt _ hj).1)⟩
            case measure => simp [intOf]; omega
          | true =>
            have y0 := (HOX.out w3 hb3.out).cell 0 _ rfl
            have y1 := (HOX.out w3 hb3.out).cell 1 _ rfl
            have y2 := (HOX.out w3 hb3.out).cell 2 _ rfl
            have y3 := (HOX.out w3 hb3.out).cell 3 _ rfl
            obtain ⟨v0, v1, v2', v3⟩ := HR4.out w3 hb3.out
            clear u0 u1 u2 u3 q0 q1 q2 q3
            go_wp2
            go_region_held3 (fun w' => w'.cell? ⟨w.heap.size, 0, none⟩ = some (.int .i64 W.1) ∧ w'.cell? ⟨w.heap.size, 1, none⟩ = some (.slice a1 W.2.1.length p1) ∧ w'.cell? ⟨w.heap.size, 2, none⟩ = some (.slice a2 W.2.2.1.length p2) ∧ w'.cell? ⟨w.heap.size, 3, none⟩ = some (.slice a3 W.2.2.2.length p3) ∧ w'.cell? ⟨bb, off + k * 4, none⟩ = some (.string z0) ∧ w'.cell? ⟨bb, off + k * 4 + 1, none⟩ = some (.slice b1 z1 r1) ∧ w'.cell? ⟨bb, off + k * 4 + 2, none⟩ = some (.slice b2 z2 r2) ∧ w'.cell? ⟨bb, off + k * 4 + 3, none⟩ = some (.int .i64 z3)) (first | assumption | exact ⟨y0, y1, y2, y3, v0, v1, v2', v3⟩ | go_keep)
              (first | (go_at_call 68; refine (HWe.out _ (show Below wr.heap.size wr _ from (by repeat (first | with_reducible exact hb3.out | with_reducible refine Below.drew ?_ | with_reducible refine below_drewN ?_ _)))).mono ?_; rintro e w4 ⟨rfl, hc⟩; have hb4 : Hid (Below wr.heap.size wr w4) := Below.trans (show Below wr.heap.size wr _ from (by repeat (first | with_reducible exact hb3.out | with_reducible refine Below.drew ?_ | with_reducible refine below_drewN ?_ _))) (hc.mono (by (try simp) <;> first | done | exact hb3.out.size | (have := hb3.out.size; omega))); clear hc; have u0 := (HOX.out w4 hb4.out).cell 0 _ rfl; have u1 := (HOX.out w4 hb4.out).cell 1 _ rfl; have u2 := (HOX.out w4 hb4.out).cell 2 _ rfl; have u3 := (HOX.out w4 hb4.out).cell 3 _ rfl; obtain ⟨q0, q1, q2, q3⟩ := HR4.out w4 hb4.out))
            clear y0 y1 y2 y3 v0 v1 v2' v3 hb3 u0 u1 u2 u3 q0 q1 q2 q3
            have Howw4 := hide (owns_below_any How.out hb4.out)
            have HBw : Hid (Below w1.heap.size w1 w4) := HB.out.trans (hb4.out.mono HB.out.size)
            have Hln : Hid (((wsOf W l).take (k + 1)).map (Value.int .i64) = ((wsOf W l).take k).map (Value.int .i64) ++ [.int .i64 wi]) := by show _ = _; rw [Hsu.out, HwI.out]; rfl
            clear Hsu HwI HOX HR4 Hnx Hbad HC0 HC1 HC2 HC3 HEl HWe
            go_wp2_with (at_builtin; refine wpList_append_own _ rfl _ _ 28 rfl w1.heap.size 3 i0 _ 1 8 Tryz.underlying28 hi0 hz0 hz1 hz2 rfl (by decide) _ _ _ rfl (Howw4.out.alloc _) ⟨w4.heap.size, 0, none⟩ 1 1 [.int .i64 wi] rfl rfl (cell_one_at1 _ _ (by simp) _ _) (fun x hx => by simp at hx; rcases hx with rfl; rfl) (by unfold maxLen; omega) (by omega) (by have := HBw.out.size; simp; omega) ?_; intro v' w5 hown' hgrow3 hnil3)
            go_roundw
            case rel => exact ⟨k + 1, by omega, by go_num, (fun h => Hnn.out (hnil3.1 h).1), by rw [Hln.out]; exact hown', HN, Below.grown (HBw.out.alloc HBw.out.size _) hgrow3 (by have := HBw.out.size; simp; omega) (fun j hj => (How.out.lt _ hj).1)⟩
            case measure => simp [intOf]; omega
      · have e : k = l.length := by omega
        subst e
        have Hf : Hid (∃ g cap, u7 = Value.slice (some ⟨g, 0, none⟩) l.length cap) := by
          rcases How.out.2 with ⟨h, _⟩ | ⟨g, cap, cur, h, _⟩
          · exact absurd h Hnn.out
          · exact ⟨g, cap, h⟩
        obtain ⟨g, cp, hv⟩ := Hf.out
        subst hv
        have Hn := E4.out (by first | rfl | trivial) h12 (all_end (fun j hj => Hx.out j hj hj))
        have HDv := hide (HD.out (.slice (some ⟨g, 0, none⟩) l.length cp) wr HW.out (by first | rfl | trivial) (owns_uS (wsOf_len W l) (by rw [← ws_all W l]; exact How.out)))
        rw [← Hn] at HDv
        have y0 := (HOX.out wr (Below.refl _ _)).cell 0 _ rfl
        clear Hn Hx HL How Hnn Hf E0 E1 E2 E3 E4 HD HC0 HC1 HC2 HC3 HOX
        go_wp2_with fail
        refine HDv.out.mono ?_
        rintro e w2 ⟨c, rfl, hc, hbc, hb2⟩
        have HB2 : Hid (Below w.heap.size w w2) := HW.out.trans (hb2.mono HW.out.size)
        go_wp2
        go_ret
        exact ⟨_, rfl, hc, Nat.le_trans HW.out.size hbc, HB2.out⟩
end Go.Proofs.YtdnodaoeflbfkaaGreat
