/- Texts of one claim, joined: each in its own section, in build order. -/
import Derived.Test.YtdnodaoeflbfkaaGreatJ5
import Derived.Test.YtdnodaoeflbfkaaGreatJ1
import Derived.Test.YtdnodaoeflbfkaaGreatJ4
import Derived.Deep.RegionLaw
import Derived.Deep.AppendLies
import Derived.Deep.CutRange
import Derived.Deep.RegionHeld3
import Derived.Test.YtdnodaoeflbfkaaGreatJ3
/- The library's stable sort at a row of structs of three numbers, walked: the whole. -/
namespace Go.Proofs.YtdnodaoeflbfkaaGreat
open Go.RowKit Go.Lib Go.Sort Go.BigFrame
set_option linter.unusedVariables false
section
variable {α : Type} [Inhabited α]

set_option maxRecDepth 20000 in
set_option maxHeartbeats 3200000 in
theorem insertion_any {f : α → Int × Int × Int} {g : Nat} {cb : Array Value} {cf : α → α → Int} {w0 : World} {blk off : Nat} {d0 : Array α} (K : StK Tryz.prog f g cb cf w0 blk off d0) (a b cap : Nat) (dk : Array α) (W : World) (hs : dk.size = d0.size) (hw : SWK (enc3 f) 3 w0 blk off dk W) (hab : a ≤ b) (hb : b ≤ d0.size) :
    Calls Tryz.prog 251 #[.slice (some ⟨blk, off, none⟩) d0.size cap, .int .i64 a, .int .i64 b, .func (.func g) #[] cb] W fun e w' => e = .returned (.tuple #[]) ∧ SWK (enc3 f) 3 w0 blk off (insertionSort (ltOf cf) dk a b) w' := by
  have hsm := K.small
  have HW := shide hw
  have eg := K.eg
  have mixed := stMixed
  clear hw
  go_enter Tryz.func251, Tryz.ntmps251
  go_wp2
  go_loopw [8] (fun vi wr => ∃ (i : Nat) (d1 : Array α), (a + 1 ≤ i ∧ i ≤ b + 1) ∧ vi = .int .i64 i ∧ d1.size = d0.size ∧ Hid (insOuter (ltOf cf) a b i d1 = insertionSort (ltOf cf) dk a b) ∧ Hid (SWK (enc3 f) 3 w0 blk off d1 wr)) (fun i _ => b + 1 - (intOf i).toNat)
  case atStart => exact ⟨a + 1, dk, ⟨by omega, by omega⟩, by go_num, hs, rfl, HW.out⟩
  case round =>
    obtain ⟨i, d1, ⟨h1, h2⟩, rfl, hs1, HO, HS0⟩ := hrel
    by_cases hlt : i < b
    · have HO2 : Hid (∀ dj, dj = insInner (ltOf cf) a i d1 → insOuter (ltOf cf) a b (i + 1) dj = insertionSort (ltOf cf) dk a b) := fun dj e => by rw [e, ← HO.out, insOuter_go _ _ _ _ _ hlt]
      clear HO HW
      go_wp2
      go_loopw [9] (fun vj wx => ∃ (j : Nat) (dj : Array α), (a ≤ j ∧ j ≤ i) ∧ vj = .int .i64 j ∧ dj.size = d0.size ∧ Hid (insInner (ltOf cf) a j dj = insInner (ltOf cf) a i d1) ∧ Hid (SWK (enc3 f) 3 w0 blk off dj wx)) (fun j _ => (intOf j).toNat)
      case atStart => exact ⟨i, d1, ⟨by omega, by omega⟩, rfl, hs1, rfl, HS0.out⟩
      case round =>
        clear HS0
        obtain ⟨j, dj, ⟨h3, h4⟩, rfl, hsj, HI, HS⟩ := hrel
        by_cases hja : a < j
        · obtain ⟨kp, rfl⟩ : ∃ kp, j = kp + 1 := ⟨j - 1, by omega⟩
          have hkz : decide ((kp : Int) + 1 > (a : Int)) = true := decide_eq_true (by omega)
          have p0 : (0 : Int) ≤ (kp : Int) + 1 := by omega
          have pe : ((kp : Int) + 1).toNat = kp + 1 := by omega
          have hwp : IntKind.i64.wrap (kp : Int) = (kp : Int) := by rw [IntKind.wrap_i64]; omega
          have jz : (kp : Int) + 1 < (d0.size : Int) := by omega
          have jz1 : (kp : Int) < (d0.size : Int) := by omega
          have HST : Hid (ltOf cf dj[kp + 1]! dj[kp]! = false → dj = insInner (ltOf cf) a i d1) := fun h => by
            rw [← HI.out, insInner_stop _ _ _ _ (.inr h)]
          have HGO : Hid (ltOf cf dj[kp + 1]! dj[kp]! = true → insInner (ltOf cf) a kp (swp dj (kp + 1) kp) = insInner (ltOf cf) a i d1) := fun h => by
            rw [← HI.out, insInner_go _ _ _ _ hja h]; rfl
          have LTE : Hid (ltOf cf dj[kp + 1]! dj[kp]! = decide (cf dj[kp + 1]! dj[kp]! < 0)) := rfl
          have HSZ : Hid (∀ W2 x0 x1 x2 y0 y1 y2, SWK (enc3 f) 3 w0 blk off dj W2 → f dj[kp + 1]! = (x0, x1, x2) → f dj[kp]! = (y0, y1, y2) → _) := fun W2 x0 x1 x2 y0 y1 y2 hW hx hy => K.swp3 hW (kp + 1) kp (by omega) (by omega) hx hy
          have HCE : Hid (∀ W2, SWK (enc3 f) 3 w0 blk off dj W2 → _) := fun W2 hW => And.intro (K.at3 hW hsj (kp + 1) (by omega)) (K.at3 hW hsj kp (by omega))
          clear HI
          generalize hx : f dj[kp + 1]! = X at *
          generalize hy : f dj[kp]! = Y at *
          obtain ⟨x0, x1, x2⟩ := X
          obtain ⟨y0, y1, y2⟩ := Y
          have bp : kp + 1 < d0.size := by omega
          have bq : kp < d0.size := by omega
          obtain ⟨i0, i1, i2⟩ := K.in3 HS.out hsj (kp + 1) (by omega) hx
          obtain ⟨j0, j1, j2⟩ := K.in3 HS.out hsj (kp) (by omega) hy
          have hcg := K.cmp3 HS.out hsj hx hy
          have HG : Hid (∀ n os, SWK (enc3 f) 3 w0 blk off dj (grow (wr.drewN n) os)) := fun n os => HS.out.grown n os
          generalize cf dj[kp + 1]! dj[kp]! = c at *
          have HX := shide hx
          have HY := shide hy
          clear hx hy
          by_cases hc : c < 0
          · have hcd : decide (c < 0) = true := decide_eq_true hc
            have HI2 := shide (HGO.out (LTE.out.trans hcd))
            clear HGO HST LTE
            go_wp2
            go_quiet_grown (first | (go_at_fn g; refine Calls.grown_of (hcg _ _)))
            have HS3 := shide (HG.out nq osq)
            generalize grow (wr.drewN nq) osq = wy at *
            obtain ⟨⟨⟨i0, i1, i2⟩, g0, g1, g2⟩, ⟨j0, j1, j2⟩, k0, k1, k2⟩ := HCE.out wy HS3.out
            have HZ := shide (HSZ.out wy x0 x1 x2 y0 y1 y2 HS3.out (by first | exact rfl | exact HX.out) (by first | exact rfl | exact HY.out))
            (try simp only at i0 i1 i2 j0 j1 j2)
            clear HSZ HCE HG hcg
            go_wp2
            go_region
            all_goals go_wp2
            go_roundw
            case rel => exact ⟨kp, _, ⟨by omega, by omega⟩, by go_num, (by rw [size_swp]; exact hsj), HI2, by with_reducible exact HZ⟩
            case measure => simp [intOf]
          · have hcd : decide (c < 0) = false := decide_eq_false hc
            have HI2 := shide (HO2.out dj (HST.out (LTE.out.trans hcd)))
            clear HGO HST LTE HSZ HCE
            go_wp2
            go_quiet_grown (first | (go_at_fn g; refine Calls.grown_of (hcg _ _)))
            go_wp2
            go_roundw
            case rel => exact ⟨i + 1, dj, ⟨by omega, by omega⟩, by go_num, hsj, HI2, HG.out _ _⟩
            case measure => simp [intOf]; omega
        · have e : j = a := by omega
          subst e
          have hkz : decide ((j : Int) > (j : Int)) = false := decide_eq_false (by omega)
          have HI2 := shide (HO2.out dj (by rw [← HI.out, insInner_stop _ _ _ _ (.inl (Nat.le_refl _))]))
          have HS3 := shide (fun n => HS.out.drewN n)
          clear HI HO2
          go_wp2
          go_region
          all_goals go_wp2
          go_roundw
          case rel => exact ⟨i + 1, dj, ⟨by omega, by omega⟩, by go_num, hsj, HI2, by first | exact HS.out | exact HS3.out _ | exact HS.out.drew⟩
          case measure => simp [intOf]; omega
    · have HE : Hid (d1 = insertionSort (ltOf cf) dk a b) := by
        show _ = _
        rw [← HO.out, insOuter_stop _ _ _ _ _ hlt]
      clear HO
      go_wp2
      go_end0
      exact ⟨rfl, by rw [← HE.out]; exact HS0.out⟩

set_option maxRecDepth 20000 in
set_option maxHeartbeats 6400000 in
theorem stable_any {f : α → Int × Int × Int} {g : Nat} {cb : Array Value} {cf : α → α → Int} {w0 : World} {blk off : Nat} {d0 : Array α} (K : StK Tryz.prog f g cb cf w0 blk off d0) (hS : SWO (ltOf cf)) (pos : α → Nat) (cap : Nat) (W : World) (hw : SWK (enc3 f) 3 w0 blk off d0 W) (ha : AscP pos 0 d0.size d0) :
    Calls Tryz.prog 247 #[.slice (some ⟨blk, off, none⟩) d0.size cap, .int .i64 d0.size, .func (.func g) #[] cb] W fun e w' => e = .returned (.tuple #[]) ∧ ∃ d', (PermIn 0 d0.size d0 d' ∧ SortedIn (stT (ltOf cf) pos) 0 d0.size d') ∧ SWK (enc3 f) 3 w0 blk off d' w' := by
  have hsm := K.small
  have HW := shide hw
  have HIN := shide (fun a b dk W => insertion_any K a b cap dk W)
  have HMG := shide (fun N a m b dk W => symMerge_any K hS pos cap N a m b dk W)
  have HA0 : Hid (BlkA (stT (ltOf cf) pos) pos d0 0 d0) := BlkA.zero ha
  have HAS : Hid (∀ q d, BlkA (stT (ltOf cf) pos) pos d0 q d → q * 20 + 20 ≤ d0.size → BlkA (stT (ltOf cf) pos) pos d0 (q + 1) (insertionSort (ltOf cf) d (q * 20) (q * 20 + 20))) := fun q d h hb => h.succ hS hb
  have HAD : Hid (∀ q d, BlkA (stT (ltOf cf) pos) pos d0 q d → q * 20 ≤ d0.size → d0.size < q * 20 + 20 → BlkB (stT (ltOf cf) pos) pos d0 20 0 (insertionSort (ltOf cf) d (q * 20) d0.size)) := fun q d h h1 h2 => h.done hS h1 h2
  clear hw ha hS
  go_enter Tryz.func247, Tryz.ntmps247
  go_wp2
  go_loopw [7, 8] (fun va vb wr => ∃ (q A : Nat) (dj : Array α), Hid (q * 20 = A) ∧ A ≤ d0.size ∧ va = .int .i64 A ∧ vb = .int .i64 (A + 20 : Nat) ∧ Hid (BlkA (stT (ltOf cf) pos) pos d0 q dj) ∧ Hid (SWK (enc3 f) 3 w0 blk off dj wr)) (fun a _ _ => d0.size + 1 - (intOf a).toNat)
  case atStart => exact ⟨0, 0, d0, rfl, Nat.zero_le _, rfl, rfl, HA0.out, HW.out⟩
  case round =>
    clear HW
    obtain ⟨q, A, dj, HQ, hA, rfl, rfl, HB, HS⟩ := hrel
    have hsj : dj.size = d0.size := HB.out.perm.1
    push_cast
    by_cases hlt : A + 20 ≤ d0.size
    · have HX := HIN.out A (A + 20) dj wr hsj HS.out (by omega) hlt
      push_cast at HX
      replace HX := shide HX
      have HN : Hid (BlkA (stT (ltOf cf) pos) pos d0 (q + 1) (insertionSort (ltOf cf) dj A (A + 20))) := by
        have := HAS.out q dj HB.out (by rw [HQ.out]; exact hlt)
        rw [HQ.out] at this; exact this
      have HQ2 : Hid ((q + 1) * 20 = A + 20) := by show _ = _; have := HQ.out; omega
      have hz : (A : Int) + 20 ≤ (d0.size : Int) := by omega
      clear HIN HMG HA0 HAS HAD HB HS
      go_wp2_with fail
      refine HX.out.mono ?_
      rintro e w1 ⟨rfl, h2⟩
      have HS2 := shide h2
      clear h2 HX
      go_wp2
      go_roundw
      case rel => exact ⟨q + 1, A + 20, _, HQ2, hlt, by go_num, by go_num, HN, HS2⟩
      case measure => simp [intOf]; omega
    · have HX := shide (HIN.out A d0.size dj wr hsj HS.out hA (Nat.le_refl _))
      have HN : Hid (BlkB (stT (ltOf cf) pos) pos d0 20 0 (insertionSort (ltOf cf) dj A d0.size)) := by
        have := HAD.out q dj HB.out (by rw [HQ.out]; exact hA) (by rw [HQ.out]; omega)
        rw [HQ.out] at this; exact this
      have hz : ¬ (A : Int) + 20 ≤ (d0.size : Int) := by omega
      clear HIN HA0 HAS HAD HB HS HQ
      go_wp2_with fail
      refine HX.out.mono ?_
      rintro e w1 ⟨rfl, h2⟩
      have HS2 := shide h2
      clear h2 HX
      generalize insertionSort (ltOf cf) dj A d0.size = d1 at *
      go_wp2
      go_loopw [6] (fun vs wr => ∃ (s : Nat) (dj : Array α), (0 < s ∧ s ≤ 2 * d0.size + 20) ∧ vs = .int .i64 s ∧ Hid (BlkB (stT (ltOf cf) pos) pos d0 s 0 dj) ∧ Hid (SWK (enc3 f) 3 w0 blk off dj wr)) (fun s _ => 2 * d0.size + 20 - (intOf s).toNat)
      case atStart => exact ⟨20, d1, ⟨by omega, by omega⟩, rfl, HN, HS2⟩
      case round =>
        clear HN HS2 hsj
        obtain ⟨s, dj, ⟨hs0, hs1⟩, rfl, HB, HS⟩ := hrel
        by_cases hls : s < d0.size
        · go_wp2
          go_loopw [7, 8] (fun va vb wr => ∃ (q A : Nat) (dj : Array α), Hid (A = q * (2 * s)) ∧ A ≤ d0.size ∧ va = .int .i64 A ∧ vb = .int .i64 (A + 2 * s : Nat) ∧ Hid (BlkB (stT (ltOf cf) pos) pos d0 s q dj) ∧ Hid (SWK (enc3 f) 3 w0 blk off dj wr)) (fun a _ _ => d0.size + 1 - (intOf a).toNat)
          case atStart => exact ⟨0, 0, dj, by show 0 = 0 * (2 * s); omega, Nat.zero_le _, rfl, by go_num, HB, HS⟩
          case round =>
            clear HB HS
            obtain ⟨q, A, dj, HQ, hA, rfl, rfl, HB, HS⟩ := hrel
            have hsj : dj.size = d0.size := HB.out.perm.1
            have HQ2 : Hid (A + 2 * s = (q + 1) * (2 * s)) := by
              show _ = _
              rw [HQ.out]; exact (Nat.succ_mul q (2 * s)).symm
            push_cast
            by_cases hlt : A + 2 * s ≤ d0.size
            · have HP : Hid (Mrg (stT (ltOf cf) pos) pos A (A + s) (A + 2 * s) dj) := by
                have := HB.out.mrg (b := A + 2 * s) (by rw [← HQ.out]; exact Nat.le_refl _) hlt (by rw [← HQ.out]; omega) hs0
                rw [← HQ.out] at this; exact this
              have HX := HMG.out (2 * s) A (A + s) (A + 2 * s) dj wr (by omega) (by omega) (by omega) hlt hsj HS.out HP.out
              push_cast at HX
              replace HX := shide HX
              have HN : Hid (∀ d', PermIn A (A + 2 * s) dj d' ∧ SortedIn (stT (ltOf cf) pos) A (A + 2 * s) d' → BlkB (stT (ltOf cf) pos) pos d0 s (q + 1) d') := fun d' h => by
                have e := HQ.out
                exact HB.out.succ (b := A + 2 * s) (by rw [← e]; omega) (by rw [← e]; omega) hs0 (by rw [← e]; exact h.1) (by rw [← e]; exact h.2)
              have hz : (A : Int) + 2 * (s : Int) ≤ (d0.size : Int) := by omega
              clear HMG HB HS HP HQ
              go_wp2_with fail
              refine HX.out.mono ?_
              rintro e w2 ⟨rfl, d2, h2, h3⟩
              have HN2 := shide (HN.out d2 h2)
              have HS2 := shide h3
              clear h2 h3 HX HN
              go_wp2
              go_roundw
              case rel => exact ⟨q + 1, A + 2 * s, d2, HQ2, hlt, by go_num, by go_num, HN2, HS2⟩
              case measure => simp [intOf]; omega
            · have hz : ¬ (A : Int) + 2 * (s : Int) ≤ (d0.size : Int) := by omega
              by_cases hm : A + s < d0.size
              · have HP : Hid (Mrg (stT (ltOf cf) pos) pos A (A + s) d0.size dj) := by
                  have := HB.out.mrg (b := d0.size) (by rw [← HQ.out]; omega) (Nat.le_refl _) (by rw [← HQ.out]; omega) hs0
                  rw [← HQ.out] at this; exact this
                have HX := HMG.out d0.size A (A + s) d0.size dj wr (by omega) (by omega) hm (Nat.le_refl _) hsj HS.out HP.out
                push_cast at HX
                replace HX := shide HX
                have HN : Hid (∀ d', PermIn A d0.size dj d' ∧ SortedIn (stT (ltOf cf) pos) A d0.size d' → BlkB (stT (ltOf cf) pos) pos d0 (2 * s) 0 d') := fun d' h => by
                  have e := HQ.out
                  have e2 := HQ2.out
                  have h5 := HB.out.succ (b := d0.size) (by rw [← e]; omega) (by rw [← e]; omega) hs0 (by rw [← e]; exact h.1) (by rw [← e]; exact h.2)
                  exact h5.done (by rw [← e2]; omega) hs0
                clear HMG HB HS HP HQ HQ2
                go_wp2_with fail
                refine HX.out.mono ?_
                rintro e w2 ⟨rfl, d2, h2, h3⟩
                have HN2 := shide (HN.out d2 h2)
                have HS2 := shide h3
                clear h2 h3 HX HN
                go_wp2
                go_roundw
                case rel => exact ⟨2 * s, d2, ⟨by omega, by omega⟩, by go_num, HN2, HS2⟩
                case measure => simp [intOf]; omega
              · have HN : Hid (BlkB (stT (ltOf cf) pos) pos d0 (2 * s) 0 dj) := by
                  have e := HQ.out
                  exact HB.out.done (by rw [← e]; omega) hs0
                clear HMG HB HQ HQ2
                go_wp2
                go_roundw
                case rel => exact ⟨2 * s, dj, ⟨by omega, by omega⟩, by go_num, HN, HS⟩
                case measure => simp [intOf]; omega
        · have HE := shide (HB.out.end (by omega))
          clear HB HMG
          go_wp2
          go_end0
          exact ⟨rfl, dj, HE.out, HS.out⟩
theorem sortStable_any {f : α → Int × Int × Int} {g : Nat} {cb : Array Value} {cf : α → α → Int} {w0 : World} {blk off : Nat} {d0 : Array α} (K : StK Tryz.prog f g cb cf w0 blk off d0) (hS : SWO (ltOf cf)) (pos : α → Nat) (cap : Nat) (W : World) (hw : SWK (enc3 f) 3 w0 blk off d0 W) (ha : AscP pos 0 d0.size d0) :
    Calls Tryz.prog 233 #[.slice (some ⟨blk, off, none⟩) d0.size cap, .func (.func g) #[] cb] W fun e w' => e = .returned (.tuple #[]) ∧ ∃ d', (PermIn 0 d0.size d0 d' ∧ SortedIn (stT (ltOf cf) pos) 0 d0.size d') ∧ SWK (enc3 f) 3 w0 blk off d' w' := by
  have HX := shide (stable_any K hS pos cap W hw ha)
  have hsm := K.small
  clear K hS hw ha
  go_enter Tryz.func233, Tryz.ntmps233
  go_wp2_with fail
  refine HX.out.mono ?_
  rintro e w1 ⟨rfl, d1, h2, h3⟩
  go_wp2
  go_end0
  exact ⟨rfl, d1, h2, h3⟩
end
end Go.Proofs.YtdnodaoeflbfkaaGreat
/- impl.greatestFirst: rows by their rest, the greatest first; those alike stay in order. -/
namespace Go.Proofs.YtdnodaoeflbfkaaGreat
open Go.RowKit Go.Lib Go.BigFrame
open Go.Sort (PermIn SortedIn SWO)
set_option linter.unusedVariables false
theorem SWK.outR {α : Type} [Inhabited α] {enc : α → List Value} {k : Nat} {w0 W : World} {blk off : Nat} {dk : Array α} (h : SWK enc k w0 blk off dk W) : OutR blk (blk + 1) w0 W := by
  obtain ⟨n, os, rfl⟩ := h
  refine ⟨rfl, rfl, rfl, size_sortWorldK_c enc k w0 blk off n dk os, fun j hj hr => ?_⟩
  have hne : blk ≠ j := by omega
  show (_ ++ os)[j]? = _
  rw [Array.getElem?_append_left (by simp [Go.Sort.putRowK, Go.Sort.putRow, Go.Sort.mapBlock]; exact hj)]
  simp [Go.Sort.putRowK, Go.Sort.putRow, Go.Sort.mapBlock, Array.getElem?_modify, hne]
/-- by their rest, the greatest first -/
def cfR (f : Nat → Int × Int × Int) (x y : Nat) : Int := Lib.compareInt (f y).2.2 (f x).2.2
theorem cfR_lt (f : Nat → Int × Int × Int) (x y : Nat) : ltOf (cfR f) x y = decide ((f y).2.2 < (f x).2.2) := by
  unfold ltOf cfR Lib.compareInt
  rw [Bool.eq_iff_iff, decide_eq_true_eq, decide_eq_true_eq]
  split
  · simp; assumption
  · split <;> constructor <;> intro h <;> omega
theorem cfR_swo (f : Nat → Int × Int × Int) : SWO (ltOf (cfR f)) where
  irrefl x := by rw [cfR_lt, decide_eq_false_iff_not]; omega
  trans x y z h1 h2 := by rw [cfR_lt, decide_eq_true_eq] at *; omega
  ntrans x y z h1 h2 := by rw [cfR_lt, decide_eq_false_iff_not] at *; omega
theorem nanInt (x : Int) (w : World) : Calls Tryz.prog 243 #[.int .i64 x] w fun e w' => e = .returned (.bool false) ∧ w' = w := by
  have h : (x != x) = false := by simp
  go_enter Tryz.func243, Tryz.ntmps243
  go_wp2
  go_ret
  exact ⟨rfl, rfl⟩
theorem cmpInt (x y : Int) (w : World) : Calls Tryz.prog 222 #[.int .i64 x, .int .i64 y] w fun e w' => e = .returned (.int .i64 (Lib.compareInt x y)) ∧ w' = w := by
  go_enter Tryz.func222, Tryz.ntmps222
  go_wp2_with (go_at_call 243; refine (nanInt _ _).mono ?_; rintro e w' ⟨rfl, rfl⟩)
  all_goals (go_ret; refine ⟨?_, rfl⟩; unfold Lib.compareInt; (repeat' split) <;> first | rfl | (exfalso; omega))
theorem cmpIntG (x y : Int) (w : World) : Calls Tryz.prog 222 #[.int .i64 x, .int .i64 y] w fun e w' => e = .returned (.int .i64 (Lib.compareInt x y)) ∧ ∃ q os, w' = Go.Sort.grow (w.drewN q) os :=
  (cmpInt x y w).mono (fun e w' h => ⟨h.1, 0, #[], by rw [h.2, Go.Sort.grow_empty]; rfl⟩)
theorem quotaRest (x0 x1 x2 : Int) (W : World) : Calls Tryz.prog 210 #[.agg #[.int .i64 x0, .int .i64 x1, .int .i64 x2]] W fun e w' => e = .returned (.int .i64 x2) ∧ ∃ q os, w' = Go.Sort.grow (W.drewN q) os := by
  go_enter Tryz.func210, Tryz.ntmps210
  go_wp2
  go_ret
  exact ⟨rfl, 0, #[_], by rw [Go.Sort.alloc_eq_grow]; rfl⟩
set_option maxHeartbeats 3200000 in
theorem byRest (x0 x1 x2 y0 y1 y2 : Int) (B : Nat) (W : World) (hB : W.cell? ⟨B, 0, none⟩ = some (.func (.func 210) #[] #[])) :
    Calls Tryz.prog 234 #[.agg #[.int .i64 x0, .int .i64 x1, .int .i64 x2], .agg #[.int .i64 y0, .int .i64 y1, .int .i64 y2], .pointer (some ⟨B, 0, none⟩)] W fun e w' => e = .returned (.int .i64 (Lib.compareInt y2 x2)) ∧ ∃ q os, w' = Go.Sort.grow (W.drewN q) os := by
  have mixed := stMixed
  have hb := World.block_lt_of_cell? _ _ hB
  have HB := shide hB
  have Hb := shide hb
  clear hB hb
  go_enter Tryz.func234, Tryz.ntmps234
  go_wp2
  have e0 : ∀ j v, ((W.alloc (.cells #[.int .i64 x0, .int .i64 x1, .int .i64 x2] 258)).alloc (.cells #[.int .i64 y0, .int .i64 y1, .int .i64 y2] 258)).cell? ⟨W.heap.size, j, none⟩ = some v → ∀ n os, (Go.Sort.grow ((((W.alloc (.cells #[.int .i64 x0, .int .i64 x1, .int .i64 x2] 258)).alloc (.cells #[.int .i64 y0, .int .i64 y1, .int .i64 y2] 258))).drewN n) os).cell? ⟨W.heap.size, j, none⟩ = some v := fun j v h n os => cell_grown (by simp; omega) h n os
  have e1 : ∀ j v, ((W.alloc (.cells #[.int .i64 x0, .int .i64 x1, .int .i64 x2] 258)).alloc (.cells #[.int .i64 y0, .int .i64 y1, .int .i64 y2] 258)).cell? ⟨W.heap.size + 1, j, none⟩ = some v → ∀ n os, (Go.Sort.grow ((((W.alloc (.cells #[.int .i64 x0, .int .i64 x1, .int .i64 x2] 258)).alloc (.cells #[.int .i64 y0, .int .i64 y1, .int .i64 y2] 258))).drewN n) os).cell? ⟨W.heap.size + 1, j, none⟩ = some v := fun j v h n os => cell_grown (by simp) h n os
  have a0 := e0 0 (.int .i64 x0) (by simp)
  have a1 := e0 1 (.int .i64 x1) (by simp)
  have a2 := e0 2 (.int .i64 x2) (by simp)
  have b0 := e1 0 (.int .i64 y0) (by simp)
  have b1 := e1 1 (.int .i64 y1) (by simp)
  have b2 := e1 2 (.int .i64 y2) (by simp)
  have c0 : ∀ n os, (Go.Sort.grow ((((W.alloc (.cells #[.int .i64 x0, .int .i64 x1, .int .i64 x2] 258)).alloc (.cells #[.int .i64 y0, .int .i64 y1, .int .i64 y2] 258))).drewN n) os).cell? ⟨B, 0, none⟩ = some (.func (.func 210) #[] #[]) := fun n os => cell_grown (by have := Hb.out; simp; omega) ((((Below.refl _ W).alloc (Nat.le_refl _) _).alloc (by simp) _).cell (p := ⟨B, 0, none⟩) Hb.out |>.trans HB.out) n os
  have EQ : Hid (((W.alloc (.cells #[.int .i64 x0, .int .i64 x1, .int .i64 x2] 258)).alloc (.cells #[.int .i64 y0, .int .i64 y1, .int .i64 y2] 258)) = Go.Sort.grow W (#[.cells #[.int .i64 x0, .int .i64 x1, .int .i64 x2] 258] ++ #[.cells #[.int .i64 y0, .int .i64 y1, .int .i64 y2] 258])) := by
    show _ = _
    rw [Go.Sort.alloc_eq_grow, Go.Sort.alloc_eq_grow, Go.Sort.grow_grow]
  clear e0 e1 HB
  generalize ((W.alloc (.cells #[.int .i64 x0, .int .i64 x1, .int .i64 x2] 258)).alloc (.cells #[.int .i64 y0, .int .i64 y1, .int .i64 y2] 258)) = W2 at *
  go_quiet_grown (first | (go_at_call 210; refine Calls.grown_of (quotaRest _ _ _ _)) | (go_at_call 222; refine Calls.grown_of (cmpIntG _ _ _)))
  go_wp2
  go_ret
  exact ⟨rfl, nq, _, by rw [EQ.out]; show Go.Sort.grow (Go.Sort.grow (W.drewN nq) _) osq = _; rw [Go.Sort.grow_grow]⟩
set_option maxHeartbeats 1600000 in
/-- the whole: the row sorted; all else as it was, but for new blocks -/
theorem greatestFirst_any (f : Nat → Int × Int × Int) (blk cap : Nat) (d0 : Array Nat) (w : World) (hH : Go.Sort.HoldsK (enc3 f) 3 w blk 0 d0) (hblk : blk < w.heap.size) (hsz : d0.size ≤ 1048576) (ha : AscP id 0 d0.size d0) :
    Calls Tryz.prog 209 #[.slice (some ⟨blk, 0, none⟩) d0.size cap, .func (.func 210) #[] #[]] w fun e w' => e = .returned (.tuple #[]) ∧ ∃ d', (PermIn 0 d0.size d0 d' ∧ SortedIn (stT (ltOf (cfR f)) id) 0 d0.size d') ∧ Go.Sort.HoldsK (enc3 f) 3 w' blk 0 d' ∧ OutR blk (blk + 1) w w' := by
  have hb0 : Below w.heap.size w (w.alloc (.cells #[.func (.func 210) #[] #[]] 260)) := (Below.refl _ _).alloc (Nat.le_refl _) _
  have hH1 : Go.Sort.HoldsK (enc3 f) 3 (w.alloc (.cells #[.func (.func 210) #[] #[]] 260)) blk 0 d0 := fun j hj => ⟨(hb0.cell (p := ⟨blk, 0 + j, none⟩) hblk).trans (hH j hj).1, (World.frozen?_of_block (w := w) (a := ⟨blk, 0 + j, none⟩) (hb0.block blk hblk)).trans (hH j hj).2⟩
  have K : StK Tryz.prog f 234 #[.pointer (some ⟨w.heap.size, 0, none⟩)] (cfR f) (w.alloc (.cells #[.func (.func 210) #[] #[]] 260)) blk 0 d0 := by
    refine ⟨⟨fun _ => rfl, enc3_one f, hH1, by simp; omega⟩, fun m os dk hs x y => ?_, enters_of Tryz.func234 (by kernel_rfl) rfl, hsz⟩
    refine (byRest _ _ _ _ _ _ w.heap.size _ ?_)
    refine ((SWK.outR (⟨m, os, rfl⟩ : SWK (enc3 f) 3 _ blk 0 dk _)).cell (p := ⟨w.heap.size, 0, none⟩) (by simp) (by show w.heap.size < blk ∨ blk + 1 ≤ w.heap.size; omega)).trans ?_
    simp
  have HX := shide (sortStable_any K (cfR_swo f) id cap _ (SWK.start hH1) ha)
  have HF : Hid (∀ d' W, SWK (enc3 f) 3 (w.alloc (.cells #[.func (.func 210) #[] #[]] 260)) blk 0 d' W → d'.size = d0.size → Go.Sort.HoldsK (enc3 f) 3 W blk 0 d' ∧ OutR blk (blk + 1) w W) := fun d' W h hs => by
    refine ⟨h.holds (by simp; omega) hH1 hs, ?_⟩
    have h1 := SWK.outR h
    exact ⟨h1.os, h1.tape, h1.output, by have := h1.size; simp at this; omega, fun j hj hr => (h1.block j (by simp; omega) hr).trans (hb0.block j hj)⟩
  clear hH hH1 hb0 K ha
  go_enter Tryz.func209, Tryz.ntmps209
  go_wp2_with fail
  refine HX.out.mono ?_
  rintro e w1 ⟨rfl, d1, h2, h3⟩
  have HE := HF.out d1 w1 h3 h2.1.1
  have H2 := shide h2
  have H3 := shide HE
  clear HX HF h2 h3 HE
  go_wp2
  go_end0
  exact ⟨rfl, d1, H2.out, H3.out⟩
end Go.Proofs.YtdnodaoeflbfkaaGreat
/- impl.quotas. -/
namespace Go.Proofs.YtdnodaoeflbfkaaGreat
open Go.RowKit Go.BigFrame
set_option linter.unusedVariables false
/-- rows of three numbers, cell by cell -/
def rowsQ (F : Nat → Int × Int × Int) : List Nat → List Value
  | [] => []
  | p :: r => enc3 F p ++ rowsQ F r
theorem rowsQ_snoc (F : Nat → Int × Int × Int) (p : Nat) : ∀ l, rowsQ F (l ++ [p]) = rowsQ F l ++ enc3 F p
  | [] => by show enc3 F p ++ [] = _; rw [List.append_nil]; rfl
  | q :: l => by show enc3 F q ++ rowsQ F (l ++ [p]) = enc3 F q ++ rowsQ F l ++ _; rw [rowsQ_snoc F p l, List.append_assoc]
theorem rowsQ_get (F : Nat → Int × Int × Int) : ∀ (l : List Nat) (j : Nat), j < l.length * 3 → (rowsQ F l)[j]? = some ((enc3 F (l.getD (j / 3) 0))[j % 3]!)
  | [], j, h => by simp at h
  | p :: l, j, h => by
    show (enc3 F p ++ rowsQ F l)[j]? = _
    by_cases hj : j < 3
    · rw [List.getElem?_append_left (by exact hj), show j / 3 = 0 by omega, show j % 3 = j by omega]
      have : j = 0 ∨ j = 1 ∨ j = 2 := by omega
      rcases this with rfl | rfl | rfl <;> rfl
    · rw [List.getElem?_append_right (by show 3 ≤ j; omega)]
      have h1 := rowsQ_get F l (j - 3) (by rw [List.length_cons] at h; omega)
      show (rowsQ F l)[j - 3]? = _
      rw [h1, show j / 3 = (j - 3) / 3 + 1 by omega, show j % 3 = (j - 3) % 3 by omega]
      rfl
def QR (w : World) (base : Nat) (v : Value) (F : Nat → Int × Int × Int) (l : List Nat) (n : Nat) : Prop := w.ownsRow base 258 3 v n (rowsQ F l) ∧ n = l.length ∧ ∃ g, v.ownBlock = some g ∧ base ≤ g ∧ g < w.heap.size
theorem QR.below {w w' : World} {base : Nat} {v : Value} {F : Nat → Int × Int × Int} {l : List Nat} {n : Nat} (h : QR w base v F l n) (hb : Below w.heap.size w w') : QR w' base v F l n := by
  obtain ⟨h1, hn, g, h2, h3, h4⟩ := h
  refine ⟨uowns_frame h1 (fun x hx => ?_), hn, g, h2, h3, by have := hb.size; omega⟩
  unfold blkOf at hx
  rw [h2] at hx
  have : x = g := by simpa using hx
  subst this
  exact hb.block x h4
theorem QR.holds {w : World} {base g cap n : Nat} {F : Nat → Int × Int × Int} {l : List Nat} (h : QR w base (.slice (some ⟨g, 0, none⟩) n cap) F l n) : Go.Sort.HoldsK (enc3 F) 3 w g 0 l.toArray := by
  obtain ⟨h1, rfl, -⟩ := h
  intro j hj
  rw [Go.Sort.size_flatK] at hj
  have hj' : j < l.length * 3 := by simpa using hj
  have hc := h1.cellAt j hj'
  rw [rowsQ_get F l j hj'] at hc
  rw [Nat.zero_add, Go.Sort.get_flatK _ _ _ _ hj]
  refine ⟨?_, h1.frozenAt j⟩
  rw [hc]
  congr 4
  have hq : j / 3 < l.length := by omega
  rw [getElem!_pos l.toArray (j / 3) (by simpa using hq), List.getD_eq_getElem?_getD, List.getElem?_eq_getElem hq]
  simp
/-- rows of three numbers in memory, by their place -/
def R3 (w : World) (g n : Nat) (F : Nat → Int × Int × Int) : Prop := ∀ j, j < n → (w.cell? ⟨g, j * 3, none⟩ = some (.int .i64 (F j).1) ∧ w.cell? ⟨g, j * 3 + 1, none⟩ = some (.int .i64 (F j).2.1) ∧ w.cell? ⟨g, j * 3 + 2, none⟩ = some (.int .i64 (F j).2.2)) ∧ w.frozen? ⟨g, j * 3 + 1, none⟩ = false
theorem R3.of {F : Nat → Int × Int × Int} {w : World} {g : Nat} {d : Array Nat} (h : Go.Sort.HoldsK (enc3 F) 3 w g 0 d) : R3 w g d.size (fun j => F d[j]!) := fun j hj => by
  obtain ⟨h1, h2⟩ := holds3 h j hj
  rw [Nat.zero_add] at h1 h2
  exact ⟨h1, h2.2.1⟩
theorem R3.congr {F G : Nat → Int × Int × Int} {w : World} {g n : Nat} (h : R3 w g n F) (he : ∀ j, j < n → G j = F j) : R3 w g n G := fun j hj => by rw [he j hj]; exact h j hj
theorem R3.below {F : Nat → Int × Int × Int} {w w' : World} {g n B : Nat} (h : R3 w g n F) (hb : Below B w w') (hg : g < B) : R3 w' g n F := fun j hj => by
  obtain ⟨⟨a, b, c⟩, d⟩ := h j hj
  exact ⟨⟨(hb.cell (p := ⟨g, j * 3, none⟩) hg).trans a, (hb.cell (p := ⟨g, j * 3 + 1, none⟩) hg).trans b, (hb.cell (p := ⟨g, j * 3 + 2, none⟩) hg).trans c⟩, (World.frozen?_of_block (w := w) (a := ⟨g, j * 3 + 1, none⟩) (hb.block g hg)).trans d⟩
theorem addr_ne {g a b : Nat} (h : a ≠ b) : (⟨g, a, none⟩ : Addr) ≠ ⟨g, b, none⟩ := fun e => h (by injection e)
/-- one row's second number is another one -/
def upd3 (F : Nat → Int × Int × Int) (x : Nat) (z : Int) (j : Nat) : Int × Int × Int := if j = x then ((F x).1, z, (F x).2.2) else F j
theorem upd3_self (F : Nat → Int × Int × Int) (x : Nat) (z : Int) : upd3 F x z x = ((F x).1, z, (F x).2.2) := if_pos rfl
theorem upd3_ne (F : Nat → Int × Int × Int) (x : Nat) (z : Int) {j : Nat} (h : j ≠ x) : upd3 F x z j = F j := if_neg h
theorem R3.put {F : Nat → Int × Int × Int} {w : World} {g n x : Nat} (h : R3 w g n F) (hx : x < n) (z : Int) : R3 (w.setCell ⟨g, x * 3 + 1, none⟩ (.int .i64 z)) g n (upd3 F x z) := fun j hj => by
  obtain ⟨⟨a, b, c⟩, d⟩ := h j hj
  refine ⟨⟨?_, ?_, ?_⟩, by rw [World.frozen?_setCell]; exact d⟩
  · rw [World.cell?_setCell_other _ _ _ _ (addr_ne (by omega)), a]
    by_cases e : j = x
    · subst e; rw [upd3_self]
    · rw [upd3_ne _ _ _ e]
  · by_cases e : j = x
    · subst e; rw [upd3_self, World.cell?_setCell_same' _ _ _ (by rw [b]; rfl)]
    · rw [upd3_ne _ _ _ e, World.cell?_setCell_other _ _ _ _ (addr_ne (by omega)), b]
  · rw [World.cell?_setCell_other _ _ _ _ (addr_ne (by omega)), c]
    by_cases e : j = x
    · subst e; rw [upd3_self]
    · rw [upd3_ne _ _ _ e]
theorem Tryz.infoDQuota : (Tryz.prog.info? 258).map (fun i => (i.zero, i.size, i.bytes)) = some (some (.agg #[.int .i64 0, .int .i64 0, .int .i64 0]), 3, 24) := by kernel_rfl
theorem QR.lit (w : World) (base : Nat) (F : Nat → Int × Int × Int) (hb : base ≤ w.heap.size) : QR (w.alloc (.cells #[] 258)) base (.slice (some ⟨w.heap.size, 0, none⟩) 0 0) F [] 0 :=
  ⟨World.ownsRow_lit w #[] 0 hb (by decide) rfl, rfl, w.heap.size, rfl, hb, by simp⟩
set_option maxRecDepth 20000 in
set_option maxHeartbeats 6400000 in
theorem quotas_any (m : Int) (k : Nat) (c1 : UD) (v1 vO : Value) (lo hi base : Nat) (O : Nat → Bool) (w : World) (ht1 : tyS 1 k c1 1) (hx1 : uS w lo hi 1 k c1 v1) (hO : IR w base vO (natI (opensL k O))) (h64 : k ≤ 64) (hm : 0 < m ∧ m ≤ 10000) (hw : ∀ i, i < k → 0 ≤ gI (intL c1) i ∧ gI (intL c1) i ≤ 1000) (hs : 0 < sumTo (onO O (gI (intL c1))) k) :
    Calls Tryz.prog 159 #[.int .i64 m, v1, vO] w fun e w' => ∃ (g cap : Nat) (d : Array Nat), e = .returned (.slice (some ⟨g, 0, none⟩) d.size cap) ∧ (w.heap.size ≤ g ∧ g < w'.heap.size) ∧ d.toList.Perm (opensL k O) ∧ R3 w' g d.size (fun j => ((d[j]! : Int), wantsF k m (sumTo (onO O (gI (intL c1))) k) (gI (intL c1)) O d[j]!, rem m (sumTo (onO O (gI (intL c1))) k) (gI (intL c1)) d[j]!)) ∧ Below w.heap.size w w' := by
  obtain ⟨gO, capO, rfl, -, -⟩ := hO.shape
  obtain ⟨a1, p1, rfl, hy1⟩ := hx1
  have H1 : Hid (uS w lo hi 1 k c1 (.slice a1 k p1)) := ⟨_, _, rfl, hy1⟩
  have T1 := uhide ht1
  obtain ⟨i0, hi0, hz0, hz1, hz2⟩ := infoD Tryz.infoDQuota
  have hln : (natI (opensL k O)).length = (opensL k O).length := natI_len _
  have hle := opensL_le k O
  obtain ⟨ps, hps⟩ : ∃ ps, opensL k O = ps := ⟨_, rfl⟩
  have HPM : Hid (∀ j (h : j < ps.length), ps[j] < k ∧ O ps[j] = true) := fun j h => by
    have : ps[j] ∈ opensL k O := by rw [hps]; exact List.getElem_mem h
    exact mem_opensL.1 this
  have HCO : Hid (∀ wx, Below w.heap.size w wx → ∀ j (h : j < ps.length), wx.cell? ⟨gO, j, none⟩ = some (.int .i64 (ps[j] : Nat))) := fun wx hb j h => by
    rw [hps] at hO
    have := ((hO.below hb).1).cellAt j (by rw [natI_len, Nat.mul_one]; exact h)
    rw [this]
    unfold natI
    simp [h]
  rw [hln, hps]
  rw [hps] at hle
  generalize hS : sumTo (onO O (gI (intL c1))) k = S at *
  have HSUM : Hid (sumL ps (gI (intL c1)) = S) := by show _ = _; rw [← hps, sumL_opens, hS]
  have HWB := uhide hw
  have HSB : Hid (∀ q, 0 ≤ sumL (ps.take q) (gI (intL c1)) ∧ sumL (ps.take q) (gI (intL c1)) ≤ 64000) := fun q => by
    have h1 := sumL_bd (f := gI (intL c1)) (a := 1000) (ps.take q) (fun p hp => HWB.out p (by
      obtain ⟨j, hj, e⟩ := List.mem_iff_getElem.1 (List.mem_of_mem_take hp)
      rw [← e]; exact (HPM.out j hj).1))
    have h2 : (ps.take q).length ≤ 64 := by rw [List.length_take]; omega
    omega
  have hSB : S ≤ 64000 := by
    have := (HSB.out ps.length).2
    rw [List.take_length, HSUM.out] at this
    exact this
  have HSTK : Hid (∀ (f : Nat → Int) q (h : q < ps.length), sumL (ps.take (q + 1)) f = sumL (ps.take q) f + f ps[q]) := fun f q h => sumL_take f ps q h
  obtain ⟨F, hF⟩ : ∃ F : Nat → Int × Int × Int, ∀ p, F p = ((p : Int), quo m S (gI (intL c1)) p, rem m S (gI (intL c1)) p) := ⟨_, fun p => rfl⟩
  have HF := uhide hF
  have HQB : Hid (∀ p, p < k → _) := fun p hp => quo_bd (m := m) (s := S) (w := gI (intL c1)) (i := p) (by omega) hs (hw p hp).1
  have HPS := uhide hps
  have HSE := uhide hS
  clear hy1 ht1 hO hw hln hF hps hS
  go_enter Tryz.func159, Tryz.ntmps159
  go_wp2
  go_loopw [7, 18] (fun s i wr => ∃ (q : Nat), q ≤ ps.length ∧ i = .int .i64 q ∧ s = .int .i64 (sumL (ps.take q) (gI (intL c1))) ∧ wr = w) (fun _ i _ => ps.length - (intOf i).toNat)
  case atStart => exact ⟨0, Nat.zero_le _, rfl, rfl, rfl⟩
  case round =>
    obtain ⟨q, hq, rfl, rfl, rfl⟩ := hrel
    have hsb := HSB.out q
    by_cases hlt : q < ps.length
    · have x0 := HCO.out wr (Below.refl _ _) q hlt
      have hp := (HPM.out q hlt).1
      have HN := uhide (HSTK.out (gI (intL c1)) q hlt)
      obtain ⟨b1, off1, rfl, hb1, -⟩ := H1.out.cells (by omega)
      generalize ps[q] = p at *
      have q1 := cell_int T1.out H1.out p hp
      have hwp := HWB.out p hp
      generalize sumL (ps.take q) (gI (intL c1)) = SQ at *
      generalize gI (intL c1) p = X at *
      clear H1 T1 HPM HCO HSUM HWB HSB HSTK HF HQB HPS HSE
      go_wp2
      go_roundw
      case rel => exact ⟨q + 1, by omega, by go_num, by rw [HN.out], trivial⟩
      case measure => simp [intOf]; omega
    · have e : q = ps.length := by omega
      subst e
      rw [List.take_length, HSUM.out]
      have Q0 : Hid (QR (wr.alloc (.cells #[] 258)) wr.heap.size (.slice (some ⟨wr.heap.size, 0, none⟩) 0 0) F (ps.take 0) 0) := QR.lit wr wr.heap.size F (Nat.le_refl _)
      have B0 : Hid (Below wr.heap.size wr (wr.alloc (.cells #[] 258))) := (Below.refl _ _).alloc (Nat.le_refl _) _
      clear HSB hsb HSUM
      obtain ⟨w, rfl⟩ : ∃ w, w = wr := ⟨_, rfl⟩
      go_wp2
      go_loopw [10, 11, 33] (fun v sp i wr => ∃ (q g cap : Nat), q ≤ ps.length ∧ i = .int .i64 q ∧ v = .slice (some ⟨g, 0, none⟩) q cap ∧ sp = .int .i64 (m - sumL (ps.take q) (quo m S (gI (intL c1)))) ∧ Hid (QR wr w.heap.size (.slice (some ⟨g, 0, none⟩) q cap) F (ps.take q) q) ∧ Hid (Below w.heap.size w wr)) (fun _ _ i _ => ps.length - (intOf i).toNat)
      case atStart => exact ⟨0, w.heap.size, 0, Nat.zero_le _, rfl, rfl, by show _ = Value.int .i64 (m - 0); rw [Int.sub_zero], Q0, B0⟩
      case round =>
        clear Q0 B0
        obtain ⟨q, g, cap, hq, rfl, rfl, rfl, V, HB⟩ := hrel
        have HQS : Hid (∀ q, 0 ≤ sumL (ps.take q) (quo m S (gI (intL c1))) ∧ sumL (ps.take q) (quo m S (gI (intL c1))) ≤ 640000000) := fun q => by
          have h1 := sumL_bd (f := quo m S (gI (intL c1))) (a := 10000000) (ps.take q) (fun p hp => by
            have hpk : p < k := by
              obtain ⟨j, hj, e⟩ := List.mem_iff_getElem.1 (List.mem_of_mem_take hp)
              rw [← e]; exact (HPM.out j hj).1
            obtain ⟨z1, z2, -⟩ := HQB.out p hpk
            have z3 := prod_bd (a := m) (b := gI (intL c1) p) (m := 10000) (n := 1000) (by omega) (by omega) (HWB.out p hpk).1 (HWB.out p hpk).2
            omega)
          have h2 : (ps.take q).length ≤ 64 := by rw [List.length_take]; omega
          omega
        by_cases hlt : q < ps.length
        · have x0 := HCO.out wr HB.out q hlt
          have hp := (HPM.out q hlt).1
          have HN := uhide (HSTK.out (quo m S (gI (intL c1))) q hlt)
          have HTK : Hid (ps.take (q + 1) = ps.take q ++ [ps[q]]) := by
            show _ = _
            rw [List.take_add_one, List.getElem?_eq_getElem hlt]; rfl
          obtain ⟨b1, off1, rfl, hb1, -⟩ := (H1.out.below HB.out).cells (by omega)
          have hqs := HQS.out q
          have hqs2 := HQS.out (q + 1)
          rw [HN.out] at hqs2
          generalize ps[q] = p at *
          have q1 := cell_int T1.out (H1.out.below HB.out) p hp
          have hwp := HWB.out p hp
          obtain ⟨z1, z2, z3, z4, z5, z6⟩ := HQB.out p hp
          have zz := prod_bd (a := m) (b := gI (intL c1) p) (m := 10000) (n := 1000) (by omega) (by omega) hwp.1 hwp.2
          have HFp := uhide (HF.out p)
          generalize sumL (ps.take q) (quo m S (gI (intL c1))) = SQ at *
          generalize quo m S (gI (intL c1)) p = QQ at *
          generalize rem m S (gI (intL c1)) p = RR at *
          generalize gI (intL c1) p = X at *
          clear H1 T1 HPM HCO HWB HSTK HF HQB HPS HSE HQS
          have hws : w.heap.size ≤ wr.heap.size := HB.out.size
          have VO : Hid (wr.ownsRow w.heap.size 258 3 (.slice (some ⟨g, 0, none⟩) q cap) q (rowsQ F (ps.take q))) := V.out.1
          have hs0 : ¬ S = 0 := by omega
          have hwq : IntKind.i64.wrap QQ = QQ := by rw [IntKind.wrap_i64]; omega
          have zb : (S == 0) = false := by rw [beq_eq_false_iff_ne]; exact hs0
          go_wp2
          go_region_law (refine step_append_lies _ rfl (.tmp 43) (.tmp 52) 203 rfl w.heap.size 258 i0 _ 3 24 Tryz.underlying203 hi0 hz0 hz1 hz2 rfl (by decide) (.slice (some ⟨g, 0, none⟩) q cap) q (rowsQ F (ps.take q)) (by simp [Act.eval]) (VO.out.alloc _).drew ⟨wr.heap.size, 0, none⟩ 1 1 [.int .i64 p, .int .i64 QQ, .int .i64 RR] (by simp [Act.eval]) rfl (fun j u hj => cells_new wr [.int .i64 p, .int .i64 QQ, .int .i64 RR] _ j u hj) (fun x hx => by simp at hx; rcases hx with rfl | rfl | rfl <;> rfl) (by decide) (by unfold maxLen; omega) (by omega) (by simp; omega) _ rfl ?_; intro g' cap' w3 hown' hgrow3 hat3 hlt3)
          all_goals (
            have V3 : Hid (QR w3 w.heap.size (.slice (some ⟨g', 0, none⟩) (q + 1) cap') F (ps.take (q + 1)) (q + 1)) := by
              refine ⟨?_, by rw [List.length_take]; omega, g', rfl, ?_, hlt3⟩
              · rw [HTK.out, rowsQ_snoc]
                unfold enc3
                rw [HFp.out]
                exact hown'
              · exact (uowns_blk hown' rfl).1
            have HB3 : Hid (Below w.heap.size w w3) := Below.grown ((HB.out.alloc hws _).drew) hgrow3 (by simp; omega) (fun j hj => by
              obtain ⟨-, -, g9, e9, h9, -⟩ := V.out
              rw [e9] at hj; cases hj; exact h9)
            clear hown' hgrow3 hat3 hlt3 V HB VO HTK HFp
            go_wp2
            go_roundw
            case rel => exact ⟨q + 1, g', cap', by omega, by go_num, rfl, by rw [HN.out]; go_num, V3, HB3⟩
            case measure => simp [intOf]; omega)
        · have e : q = ps.length := by omega
          subst e
          rw [List.take_length]
          have hbd := left_bd (m := m) (s := S) (w := gI (intL c1)) (O := O) (L := k) hs HSE.out.symm
          obtain ⟨t, ht⟩ : ∃ t, leftT m S (gI (intL c1)) O k = t := ⟨_, rfl⟩
          have HT : Hid (leftT m S (gI (intL c1)) O k = t) := ht
          have hsq : sumL ps (quo m S (gI (intL c1))) = sumTo (onO O (quo m S (gI (intL c1)))) k := by rw [← HPS.out, sumL_opens]
          have htz : m - sumL ps (quo m S (gI (intL c1))) = (t : Int) := by
            rw [hsq, ← ht]; unfold leftT; omega
          have htl : t ≤ ps.length := by
            have h1 := opensL_len O k
            rw [HPS.out] at h1
            rw [← hsq, htz] at hbd
            omega
          rw [htz]
          have hqb : ∀ j, j < ps.length → 0 ≤ quo m S (gI (intL c1)) (ps.getD j 0) := fun j hj => by
            rw [List.getD_eq_getElem?_getD, List.getElem?_eq_getElem hj]
            exact (HQB.out _ (HPM.out j hj).1).1
          have hv2 := V.out
          rw [List.take_length] at hv2
          obtain ⟨-, -, g9, e9, h9, h8⟩ := V.out
          have hgg : g9 = g := by cases e9; rfl
          subst hgg
          have HX := greatestFirst_any F g9 cap ps.toArray wr hv2.holds h8 (by simp; omega) (asc_arr (by rw [← HPS.out]; exact opensL_asc O k))
          rw [show ps.toArray.size = ps.length by simp] at HX
          replace HX := uhide HX
          have HSV : Hid (∀ d1 : Array Nat, Go.Sort.PermIn 0 ps.length ps.toArray d1 → Go.Sort.SortedIn (stT (ltOf (cfR F)) id) 0 ps.length d1 → d1.size = ps.length ∧ d1.toList.Perm ps ∧ ∀ j, j < ps.length → (d1[j]! < k ∧ wantsF k m S (gI (intL c1)) O d1[j]! = quo m S (gI (intL c1)) d1[j]! + (if j < t then 1 else 0))) := fun d1 h1 h2 => by
            have hsz : d1.size = ps.length := h1.1
            have hpm : d1.toList.Perm (opensL k O) := by rw [HPS.out]; exact perm_whole (d := ps.toArray) (by simpa using h1)
            refine ⟨hsz, by rw [← HPS.out]; exact hpm, fun j hj => ?_⟩
            have hin : d1[j]! ∈ opensL k O := hpm.mem_iff.1 (by rw [getElem!_pos d1 j (by omega)]; simp)
            obtain ⟨hk, ho⟩ := mem_opensL.1 hin
            refine ⟨hk, ?_⟩
            obtain ⟨hP, hn⟩ := served (k := k) (t := t) (O := O) (r := rem m S (gI (intL c1))) (lt := ltOf (cfR F)) (d' := d1) (fun a b => by rw [cfR_lt, HF.out, HF.out]) (by rw [HPS.out]; exact h1) (by rw [HPS.out]; exact h2) (by rw [HPS.out]; exact htl)
            have hseg := segOf_eq hP hn
            unfold wantsF
            rw [HT.out, hseg]
            show onO O _ _ + _ = _
            unfold onO
            rw [if_pos ho]
            congr 1
            have hnd : d1.toList.Nodup := hpm.nodup_iff.2 (opensL_nodup k O)
            have hit := in_take (t := t) hnd (j := j) (by omega)
            by_cases hjt : j < t
            · rw [if_pos hjt, if_pos (by rw [decide_eq_true_eq]; exact hit.2 hjt)]
            · rw [if_neg hjt, if_neg (by rw [decide_eq_true_eq]; exact fun h => hjt (hit.1 h))]
          have HBB : Hid (∀ wx, OutR g9 (g9 + 1) wr wx → Below w.heap.size w wx) := fun wx h => by
            have hws := HB.out.size
            exact HB.out.trans (h.below h9 hws)
          have HQ2 : Hid (∀ p, p < k → 0 ≤ quo m S (gI (intL c1)) p ∧ quo m S (gI (intL c1)) p ≤ 10000000) := fun p hp => by
            obtain ⟨z1, z2, -⟩ := HQB.out p hp
            have zz := prod_bd (a := m) (b := gI (intL c1) p) (m := 10000) (n := 1000) (by omega) (by omega) (HWB.out p hp).1 (HWB.out p hp).2
            omega
          clear hv2 V HB H1 T1 HPM HCO HWB HSTK HQB HPS HSE HQS HT hsq htz hqb e9 hbd ht
          go_wp2_with fail
          refine HX.out.mono ?_
          rintro e w4 ⟨rfl, d1, ⟨h1, h2⟩, h3, h4⟩
          obtain ⟨hsz, hpm, hwt⟩ := HSV.out d1 h1 h2
          have HPM1 := uhide hpm
          have HWT := uhide hwt
          have HB4 := uhide (HBB.out w4 h4)
          have hg4 : g9 < w4.heap.size := by have := h4.size; omega
          have R4 : Hid (R3 w4 g9 ps.length (fun j => ((d1[j]! : Int), quo m S (gI (intL c1)) d1[j]! + (if j < 0 then 1 else 0), rem m S (gI (intL c1)) d1[j]!))) := by
            have := R3.of h3
            rw [hsz] at this
            exact this.congr (fun j hj => by rw [HF.out, if_neg (by omega), Int.add_zero])
          clear h1 h2 h3 h4 hpm hwt HX HSV HBB HF
          go_wp2
          go_loopw [63] (fun i wx => ∃ x : Nat, x ≤ t ∧ i = .int .i64 x ∧ Hid (R3 wx g9 ps.length (fun j => ((d1[j]! : Int), quo m S (gI (intL c1)) d1[j]! + (if j < x then 1 else 0), rem m S (gI (intL c1)) d1[j]!))) ∧ Hid (Below w.heap.size w wx) ∧ g9 < wx.heap.size) (fun i _ => t - (intOf i).toNat)
          case atStart => exact ⟨0, Nat.zero_le _, rfl, R4, HB4, hg4⟩
          case round =>
            clear R4 HB4 hg4
            obtain ⟨w5, rfl⟩ : ∃ w5, w5 = wr := ⟨_, rfl⟩
            obtain ⟨x, hx, rfl, R5, HB5, hg5⟩ := hrel
            by_cases hxt : x < t
            · obtain ⟨⟨i0, i1, i2⟩, f1⟩ := R5.out x (by omega)
              have hxl : x < ps.length := by omega
              have hb := HQ2.out _ (HWT.out x (by omega)).1
              have HP : Hid (∀ z, z = quo m S (gI (intL c1)) d1[x]! + 1 → R3 (w5.setCell ⟨g9, x * 3 + 1, none⟩ (.int .i64 z)) g9 ps.length (fun j => ((d1[j]! : Int), quo m S (gI (intL c1)) d1[j]! + (if j < x + 1 then 1 else 0), rem m S (gI (intL c1)) d1[j]!))) := fun z hz => (R5.out.put (by omega) z).congr (fun j hj => by
                by_cases e : j = x
                · subst e; rw [upd3_self, hz, if_pos (by omega)]
                · rw [upd3_ne _ _ _ e]
                  by_cases h : j < x
                  · rw [if_pos h, if_pos (by omega)]
                  · rw [if_neg h, if_neg (by omega)])
              have HB6 : Hid (∀ z, Below w.heap.size w (w5.setCell ⟨g9, x * 3 + 1, none⟩ z)) := fun z => HB5.out.setCell h9 z
              simp only at i0 i1 i2
              rw [if_neg (by omega), Int.add_zero] at i1
              clear HPM1 HWT HQ2 R5 HB5
              generalize quo m S (gI (intL c1)) d1[x]! = QQ at *
              go_wp2
              go_roundw
              case rel => exact ⟨x + 1, by omega, by go_num, HP.out _ rfl, HB6.out _, by simpa using hg5⟩
              case measure => simp [intOf]; omega
            · have e : x = t := by omega
              subst e
              go_wp2
              go_ret
              refine ⟨g9, cap, d1, by rw [hsz]; rfl, ⟨h9, hg5⟩, HPM1.out, ?_, HB5.out⟩
              rw [hsz]
              exact R5.out.congr (fun j hj => by rw [(HWT.out j hj).2])
end Go.Proofs.YtdnodaoeflbfkaaGreat
/- impl.handOut. -/
namespace Go.Proofs.YtdnodaoeflbfkaaGreat
open Go.RowKit Go.BigFrame
set_option linter.unusedVariables false
/-- what one gets of what it would -/
def minG (C out WT : Nat → Int) (p : Nat) : Int := if C p - out p < WT p then C p - out p else WT p
open Classical in
/-- the shares when those of a list have theirs -/
noncomputable def shareL (l : List Nat) (out G : Nat → Int) (p : Nat) : Int := if p ∈ l then out p + G p else out p
theorem shareL_in {l : List Nat} {out G : Nat → Int} {p : Nat} (h : p ∈ l) : shareL l out G p = out p + G p := if_pos h
theorem shareL_not {l : List Nat} {out G : Nat → Int} {p : Nat} (h : ¬ p ∈ l) : shareL l out G p = out p := if_neg h
theorem take_grow (l : List Nat) (q : Nat) (h : q < l.length) (p : Nat) : p ∈ l.take (q + 1) ↔ p ∈ l.take q ∨ p = l[q] := by
  rw [List.take_add_one, List.getElem?_eq_getElem h, List.mem_append]
  simp
theorem OutR.then_below {lo hi : Nat} {a b c : World} (h : OutR lo hi a b) (hb : Below b.heap.size b c) : OutR lo hi a c :=
  ⟨hb.os.trans h.os, hb.tape.trans h.tape, hb.output.trans h.output, Nat.le_trans h.size hb.size, fun k hk hr => (hb.block k (Nat.lt_of_lt_of_le hk h.size)).trans (h.block k hk hr)⟩
theorem OutR.at {b : Nat} {a w : World} (h : OutR b (b + 1) a w) (x : Nat) (v : Value) : OutR b (b + 1) a (w.setCell ⟨b, x, none⟩ v) :=
  ⟨h.os, h.tape, h.output, by simpa using h.size, fun k hk hr => by
    have hne : b ≠ k := by omega
    rw [← h.block k hk hr]
    simp [World.setCell, Array.getElem?_modify, hne]⟩
set_option maxRecDepth 20000 in
set_option maxHeartbeats 6400000 in
theorem handOut_any (k : Nat) (c2 : UD) (v2 : Value) (lo g cap bS : Nat) (d : Array Nat) (WT R out : Nat → Int) (w : World) (ht2 : tyS 1 k c2 1) (hx2 : uS w lo bS 1 k c2 v2) (hr : w.rowIs bS 3 k (fun j => .int .i64 (out j))) (h3 : R3 w g d.size (fun j => ((d[j]! : Int), WT d[j]!, R d[j]!))) (hg : g < w.heap.size) (hgb : g ≠ bS)
    (hd : ∀ j, j < d.size → d[j]! < k) (hnd : d.toList.Nodup) (h64 : d.size ≤ 64) (hb : ∀ p, p < k → (0 ≤ WT p ∧ WT p ≤ 10000) ∧ 0 ≤ out p ∧ out p ≤ gI (intL c2) p ∧ gI (intL c2) p ≤ 10000) :
    Calls Tryz.prog 158 #[.slice (some ⟨g, 0, none⟩) d.size cap, v2, .slice (some ⟨bS, 0, none⟩) k k] w fun e w' => e = .returned (.int .i64 (sumL d.toList (fun p => WT p - minG (gI (intL c2)) out WT p))) ∧ w'.rowIs bS 3 k (fun p => .int .i64 (shareL d.toList out (minG (gI (intL c2)) out WT) p)) ∧ OutR bS (bS + 1) w w' := by
  obtain ⟨a2, p2, rfl, hy2⟩ := hx2
  have H2 : Hid (uS w lo bS 1 k c2 (.slice a2 k p2)) := ⟨_, _, rfl, hy2⟩
  have T2 := uhide ht2
  have HD := uhide hd
  have HB := uhide hb
  have HSB : Hid (∀ q, 0 ≤ sumL (d.toList.take q) (fun p => WT p - minG (gI (intL c2)) out WT p) ∧ sumL (d.toList.take q) (fun p => WT p - minG (gI (intL c2)) out WT p) ≤ 640000) := fun q => by
    have h1 := sumL_bd (f := fun p => WT p - minG (gI (intL c2)) out WT p) (a := 10000) (d.toList.take q) (fun p hp => by
      obtain ⟨j, hj, hjd, e⟩ := mem_take.1 hp
      have := hb p (by rw [← e]; exact hd j hjd)
      show 0 ≤ WT p - minG (gI (intL c2)) out WT p ∧ WT p - minG (gI (intL c2)) out WT p ≤ 10000
      unfold minG
      split <;> omega)
    have h2 : (d.toList.take q).length ≤ 64 := by rw [List.length_take, Array.length_toList]; omega
    omega
  have HST : Hid (∀ q (h : q < d.size), sumL (d.toList.take (q + 1)) (fun p => WT p - minG (gI (intL c2)) out WT p) = sumL (d.toList.take q) (fun p => WT p - minG (gI (intL c2)) out WT p) + (WT d[q]! - minG (gI (intL c2)) out WT d[q]!)) := fun q h => by
    rw [sumL_take _ _ q (by rw [Array.length_toList]; exact h), getElem!_pos d q h]; simp
  have HNI : Hid (∀ q, q < d.size → ¬ d[q]! ∈ d.toList.take q) := fun q h hm => by
    have := (in_take hnd h).1 hm
    omega
  have HTG : Hid (∀ q, q < d.size → ∀ p, p ∈ d.toList.take (q + 1) ↔ p ∈ d.toList.take q ∨ p = d[q]!) := fun q h p => by
    rw [take_grow _ q (by rw [Array.length_toList]; exact h), getElem!_pos d q h]; simp
  have R0 : Hid (w.rowIs bS 3 k (fun p => .int .i64 (shareL (d.toList.take 0) out (minG (gI (intL c2)) out WT) p))) := hr.congr (fun p _ => by rw [shareL_not (by simp)])
  have HBL := uhide hr.lt
  have H3 := uhide h3
  clear hy2 ht2 hd hb hr h3 hnd
  go_enter Tryz.func158, Tryz.ntmps158
  go_wp2
  go_loopw [7, 13] (fun s i wr => ∃ q : Nat, q ≤ d.size ∧ i = .int .i64 q ∧ s = .int .i64 (sumL (d.toList.take q) (fun p => WT p - minG (gI (intL c2)) out WT p)) ∧ Hid (wr.rowIs bS 3 k (fun p => .int .i64 (shareL (d.toList.take q) out (minG (gI (intL c2)) out WT) p))) ∧ Hid (OutR bS (bS + 1) w wr)) (fun _ i _ => d.size - (intOf i).toNat)
  case atStart => exact ⟨0, Nat.zero_le _, rfl, rfl, R0, ⟨rfl, rfl, rfl, Nat.le_refl _, fun _ _ _ => rfl⟩⟩
  case round =>
    clear R0
    obtain ⟨q, hq, rfl, rfl, RW, HO⟩ := hrel
    by_cases hlt : q < d.size
    · have hdk := HD.out q hlt
      obtain ⟨b2, off2, rfl, hb2, -⟩ := (H2.out.out HO.out (.inl (Nat.le_refl _))).cells (by omega)
      have q2 := cell_int T2.out (H2.out.out HO.out (.inl (Nat.le_refl _))) d[q]! hdk
      have hb2s : b2 < bS := by
        obtain ⟨a9, p9, e9, -, h9⟩ := H2.out
        obtain ⟨b', o', e', -, hlt', -⟩ := h9 (by omega)
        cases e9; cases e'; exact hlt'
      have hne2 : b2 ≠ bS := by omega
      have R3q : Hid (R3 wr g d.size (fun j => ((d[j]! : Int), WT d[j]!, R d[j]!))) := fun j hj => by
        obtain ⟨⟨y0, y1, y2⟩, y3⟩ := H3.out j hj
        have hr' : g < bS ∨ bS + 1 ≤ g := by omega
        exact ⟨⟨(HO.out.cell (p := ⟨g, j * 3, none⟩) hg hr').trans y0, (HO.out.cell (p := ⟨g, j * 3 + 1, none⟩) hg hr').trans y1, (HO.out.cell (p := ⟨g, j * 3 + 2, none⟩) hg hr').trans y2⟩, (World.frozen?_of_block (w := w) (a := ⟨g, j * 3 + 1, none⟩) (HO.out.block g hg hr')).trans y3⟩
      obtain ⟨⟨x0, x1, x2⟩, -⟩ := R3q.out q hlt
      simp only at x0 x1 x2
      have xo := RW.out.cell hdk
      have fo := RW.out.frozen d[q]!
      rw [shareL_not (HNI.out q hlt)] at xo
      have hsb := HSB.out q
      have hsb2 := HSB.out (q + 1)
      rw [HST.out q hlt] at hsb2
      have HS := uhide (HST.out q hlt)
      have hbb := HB.out d[q]! hdk
      have HMG : Hid (minG (gI (intL c2)) out WT d[q]! = if gI (intL c2) d[q]! - out d[q]! < WT d[q]! then gI (intL c2) d[q]! - out d[q]! else WT d[q]!) := rfl
      have HRW : Hid (∀ (wx : World) z, wx.rowIs bS 3 k (fun p => .int .i64 (shareL (d.toList.take q) out (minG (gI (intL c2)) out WT) p)) → z = out d[q]! + minG (gI (intL c2)) out WT d[q]! → World.rowIs (wx.setCell ⟨bS, d[q]!, none⟩ (.int .i64 z)) bS 3 k (fun p => .int .i64 (shareL (d.toList.take (q + 1)) out (minG (gI (intL c2)) out WT) p))) := fun wx z h hz => (h.set d[q]! (.int .i64 z)).congr (fun p _ => by
        by_cases e : p = d[q]!
        · subst e
          rw [if_pos rfl, shareL_in ((HTG.out q hlt _).2 (.inr rfl)), hz]
        · rw [if_neg e]
          by_cases hm : p ∈ d.toList.take q
          · rw [shareL_in hm, shareL_in ((HTG.out q hlt _).2 (.inl hm))]
          · rw [shareL_not hm, shareL_not (fun h => ((HTG.out q hlt _).1 h).elim hm e)])
      have hbl : bS < wr.heap.size := RW.out.lt
      have hgl : g < wr.heap.size := by have := HO.out.size; omega
      generalize sumL (d.toList.take q) (fun p => WT p - minG (gI (intL c2)) out WT p) = SQ at *
      generalize minG (gI (intL c2)) out WT d[q]! = G at *
      generalize R d[q]! = RR at *
      generalize WT d[q]! = WW at *
      generalize out d[q]! = OO at *
      generalize gI (intL c2) d[q]! = CC at *
      generalize d[q]! = p at *
      clear H2 T2 HD HB HSB HST HNI HTG H3 R3q
      have hG : G = min WW (CC - OO) := by rw [HMG.out]; split <;> omega
      subst hG
      clear HMG
      go_wp2
      go_quiet (fail)
      go_wp2
      have HB2 : Hid (∀ j, Below wr.heap.size wr ((wr.alloc (.cells #[.int .i64 p, .int .i64 WW, .int .i64 RR] 258)).drewN j)) := fun j => below_drewN ((Below.refl _ _).alloc (Nat.le_refl _) _) j
      go_roundw
      case rel => exact ⟨q + 1, by omega, by go_num, by rw [HS.out], HRW.out _ _ (rowIs_below RW.out (HB2.out _)) rfl, (HO.out.then_below (HB2.out _)).at _ _⟩
      case measure => simp [intOf]; omega
    · have e : q = d.size := by omega
      subst e
      rw [show d.toList.take d.size = d.toList from by rw [← Array.length_toList, List.take_length]] at RW ⊢
      go_wp2
      go_ret
      exact ⟨rfl, RW.out, HO.out⟩
end Go.Proofs.YtdnodaoeflbfkaaGreat
/- impl.Divide. -/
namespace Go.Proofs.YtdnodaoeflbfkaaGreat
open Go.RowKit Go.BigFrame
set_option linter.unusedVariables false
theorem open_none {L : Nat} {w c out : Nat → Int} : (opensL L (openF L w c out)).length = 0 ↔ ¬ 0 < openS L w c out := by
  have e : openS L w c out = sumL (opensL L (openF L w c out)) w := (sumL_opens _ _ _).symm
  have hp : ∀ p ∈ opensL L (openF L w c out), 0 < w p := fun p hp => by
    have := (mem_opensL.1 hp).2
    unfold openF at this
    rw [decide_eq_true_eq] at this
    exact this.2.1
  rw [e]
  generalize opensL L (openF L w c out) = l at *
  cases l with
  | nil => simp [sumL]
  | cons p r =>
    have h1 := hp p (by simp)
    have h2 : 0 ≤ sumL r w := by
      clear e
      have : ∀ q ∈ r, 0 < w q := fun q hq => hp q (by simp [hq])
      clear hp
      induction r with
      | nil => exact Int.le_refl _
      | cons q r ih =>
        have h3 := this q (by simp)
        have h4 := ih (fun x hx => this x (by simp [hx]))
        show 0 ≤ w q + sumL r w
        omega
    constructor
    · intro h; cases h
    · intro h; exact (h (by show 0 < w p + sumL r w; omega)).elim
/-- what a round of the program's does is what a round does -/
theorem round_eq {L : Nat} {n : Int} {w c out : Nat → Int} (hn : 0 < n) (hw : ∀ i, 0 ≤ w i) (ho : ∀ i, i < L → 0 ≤ out i ∧ out i ≤ c i) (hs : 0 < openS L w c out) {l : List Nat} (hl : l.Perm (opensL L (openF L w c out))) :
    sumL l (fun p => wantsF L n (openS L w c out) w (openF L w c out) p - minG c out (wantsF L n (openS L w c out) w (openF L w c out)) p) = n - sumTo (getsF L n w c out) L ∧
    ∀ i, i < L → shareL l out (minG c out (wantsF L n (openS L w c out) w (openF L w c out))) i = out i + getsF L n w c out i := by
  have hG : ∀ i, minG c out (wantsF L n (openS L w c out) w (openF L w c out)) i = getsF L n w c out i := fun i => rfl
  have h0 : ∀ i, i < L → openF L w c out i = false → getsF L n w c out i = 0 ∧ wantsF L n (openS L w c out) w (openF L w c out) i = 0 := fun i hi hf => by
    have h1 := (wants_bd (L := L) (m := n) (O := openF L w c out) (w := w) (by omega) hw hs rfl i).2.2 hf
    refine ⟨?_, h1⟩
    unfold getsF
    rw [h1]
    have := ho i hi
    rw [if_neg (by omega)]
  refine ⟨?_, fun i hi => ?_⟩
  · rw [sumL_perm hl, sumL_opens]
    have e1 : sumTo (onO (openF L w c out) (fun p => wantsF L n (openS L w c out) w (openF L w c out) p - minG c out (wantsF L n (openS L w c out) w (openF L w c out)) p)) L = sumTo (fun p => wantsF L n (openS L w c out) w (openF L w c out) p - getsF L n w c out p) L := sumTo_congr L (fun i hi => by
      unfold onO
      cases hf : openF L w c out i
      · rw [if_neg (by decide)]
        obtain ⟨h1, h2⟩ := h0 i hi hf
        rw [h1, h2]; rfl
      · rw [if_pos rfl]; rfl)
    rw [e1]
    have h2 := sumTo_add (fun p => wantsF L n (openS L w c out) w (openF L w c out) p - getsF L n w c out p) (getsF L n w c out) L
    have h3 := wants_sum (m := n) (w := w) (O := openF L w c out) (L := L) (s := openS L w c out) hs rfl
    have h4 : sumTo (fun i => (wantsF L n (openS L w c out) w (openF L w c out) i - getsF L n w c out i) + getsF L n w c out i) L = sumTo (wantsF L n (openS L w c out) w (openF L w c out)) L := sumTo_congr L (fun i _ => by omega)
    rw [h4, h3] at h2
    omega
  · by_cases hm : i ∈ l
    · rw [shareL_in hm]; rfl
    · rw [shareL_not hm]
      have hf : openF L w c out i = false := by
        cases hf : openF L w c out i
        · rfl
        · exact (hm (hl.mem_iff.2 (mem_opensL.2 ⟨hi, hf⟩))).elim
      rw [(h0 i hi hf).1]; omega
theorem rowIs_oS {w : World} {base b n : Nat} {t : TypeId} {f : Nat → Int} (h : w.rowIs b t n (fun j => .int .i64 (f j))) (hn : n ≤ maxLen) (hb : base ≤ b) : oS w 1 n (ofInts (ofFn n f)) (.slice (some ⟨b, 0, none⟩) n n) [b] ∧ own2 [b] base w.heap.size := by
  have hlt := h.lt
  obtain ⟨c, h1, h2, h3⟩ := h
  refine ⟨⟨by decide, t, (ofFn n f).map (Value.int .i64), [], ⟨by rw [List.length_map, ofFn_len, Nat.mul_one], .inr ⟨b, n, c, rfl, Nat.zero_le _, h1, Nat.le_refl _, hn, by rw [h2, Nat.mul_one], ?_⟩⟩, ofInts_own _, rfl⟩, by simp, fun s hs => by simp at hs; omega⟩
  apply List.ext_getElem?
  intro j
  rw [Nat.mul_one, List.getElem?_take]
  by_cases hj : j < n
  · rw [if_pos hj, Array.getElem?_toList, h3 j hj, List.getElem?_map, List.getElem?_eq_getElem (by rw [ofFn_len]; exact hj), ofFn_get]
    rfl
  · rw [if_neg hj, List.getElem?_eq_none (by rw [List.length_map, ofFn_len]; omega)]
theorem lit_oS (w : World) (t : TypeId) : oS (w.alloc (.cells #[] t)) 1 0 (ofInts []) (.slice (some ⟨w.heap.size, 0, none⟩) 0 0) [w.heap.size] ∧ own2 [w.heap.size] w.heap.size (w.alloc (.cells #[] t)).heap.size :=
  ⟨⟨by decide, t, [], [], World.ownsRow_lit w #[] 0 (Nat.zero_le _) (by decide) rfl, ⟨rfl, rfl⟩, rfl⟩, by simp, fun s hs => by simp at hs; subst hs; simp⟩
set_option maxRecDepth 20000 in
set_option maxHeartbeats 6400000 in
theorem iDivide_any (n : Int) (k1 k2 : Nat) (c1 c2 : UD) (v1 v2 : Value) (lo hi lo' hi' : Nat) (w : World) (hn0 : inK .i64 n) (ht1 : tyS 1 k1 c1 1) (ht2 : tyS 1 k2 c2 1) (hx1 : uS w lo hi 1 k1 c1 v1) (hx2 : uS w lo' hi' 1 k2 c2 v2) (z : List Int) (hz : (¬ rightP n (intL c1) (intL c2) → z = []) ∧ (rightP n (intL c1) (intL c2) → z = divL n (intL c1) (intL c2))) :
    Calls Tryz.prog 78 #[.int .i64 n, v1, v2] w fun e w' => ∃ c S, e = .returned c ∧ oS w' 1 z.length (ofInts z) c S ∧ own2 S w.heap.size w'.heap.size ∧ Below w.heap.size w w' := by
  obtain ⟨r, hr⟩ := bool_iff (rightP n (intL c1) (intL c2))
  have HR := uhide (divisionOk_any n k1 k2 c1 c2 v1 v2 lo hi lo' hi' w r ht1 ht2 hx1 hx2 hr)
  have hl1 := intL_len ht1
  have hl2 := intL_len ht2
  clear hn0
  have HA : Hid (∀ o, Below w.heap.size w (w.alloc o)) := fun o => (Below.refl _ _).alloc (Nat.le_refl _) _
  cases r
  · have hz1 := hz.1 (fun h => by have := hr.2 h; cases this)
    subst hz1
    obtain ⟨a1, p1, rfl, hy1⟩ := hx1
    obtain ⟨a2, p2, rfl, hy2⟩ := hx2
    clear hy1 hy2 ht1 ht2 hl1 hl2 hr hz
    go_enter Tryz.func78, Tryz.ntmps78
    go_wp2_with fail
    refine HR.out.mono ?_
    rintro e w1 ⟨rfl, rfl⟩
    go_wp2
    go_ret
    first
      | exact ⟨_, _, rfl, (lit_oS _ _).1, (lit_oS _ _).2, HA.out _⟩
      | exact ⟨_, rfl, _, (lit_oS _ _).1, (lit_oS _ _).2, HA.out _⟩
  have hrp := hr.1 rfl
  have hz1 := hz.2 hrp
  unfold divL at hz1
  rw [hl1] at hz1
  unfold rightP at hrp
  rw [hl1, hl2] at hrp
  obtain ⟨⟨hn, h64, hk⟩, hg⟩ := hrp
  have HG : Hid (∀ i, i < k1 → goodAt (intL c1) (intL c2) i) := hg
  subst hk
  have HZ := uhide hz1
  have HWN : Hid (∀ i, 0 ≤ gI (intL c1) i) := gI_nn (fun i hi => (HG.out i (by rw [hl1] at hi; exact hi)).1.1)
  have HC : Hid (∀ i, i < k1 → 0 ≤ (gI (intL c2)) i ∧ (gI (intL c2)) i ≤ 10000) := fun i hi => (HG.out i hi).2
  have HWB : Hid (∀ i, i < k1 → 0 ≤ (gI (intL c1)) i ∧ (gI (intL c1)) i ≤ 1000) := fun i hi => (HG.out i hi).1
  have hx2c := hx2.clip
  obtain ⟨a1, p1, rfl, hy1⟩ := hx1
  obtain ⟨a2, p2, rfl, hy2⟩ := hx2
  have H1 : Hid (uS w lo hi 1 k1 c1 (.slice a1 k1 p1)) := ⟨_, _, rfl, hy1⟩
  have H2 : Hid (uS w lo' w.heap.size 1 k1 c2 (.slice a2 k1 p2)) := hx2c
  have T1 := uhide ht1
  have T2 := uhide ht2
  generalize hRES : divF k1 (gI (intL c1)) (gI (intL c2)) n.toNat n (fun _ => 0) = RES at HZ
  have HD : Hid (divF k1 (gI (intL c1)) (gI (intL c2)) n.toNat n (fun _ => 0) = RES) := hRES
  have HO0 : Hid (∀ i, i < k1 → 0 ≤ (fun _ => 0 : Nat → Int) i ∧ (fun _ => 0 : Nat → Int) i ≤ (gI (intL c2)) i) := fun i hi => ⟨Int.le_refl _, (HC.out i hi).1⟩
  have R0 : Hid (World.rowIs (w.alloc (.cells (madeCells #[.int .i64 0] k1) 3)) w.heap.size 3 k1 (fun j => .int .i64 ((fun _ => 0 : Nat → Int) j))) := World.rowIs_made w (.int .i64 0) k1 3
  have HB0 : Hid (Below w.heap.size w (w.alloc (.cells (madeCells #[.int .i64 0] k1) 3))) := (Below.refl _ _).alloc (Nat.le_refl _) _
  have hmk := run_make_row' (P := Tryz.prog) 28 3 (.int .i64 0) 8 Tryz.underlying28 Tryz.infoDInt rfl .i64 .i64 k1 (by omega) (by omega)
  clear hz hz1 hr hg hl1 hl2 hy1 hy2 ht1 ht2 hRES hx2c HG
  go_enter Tryz.func78, Tryz.ntmps78
  go_wp2_with fail
  refine HR.out.mono ?_
  rintro e w1 ⟨rfl, rfl⟩
  clear HR
  go_wp2
  clear hmk
  obtain ⟨w, rfl⟩ : ∃ w, w = w1 := ⟨_, rfl⟩
  go_loopw [8] (fun nn w2 => ∃ (f : Nat) (m : Int) (out : Nat → Int), nn = .int .i64 m ∧ 0 ≤ m ∧ m ≤ 10000 ∧ m.toNat ≤ f ∧ Hid (divF k1 (gI (intL c1)) (gI (intL c2)) f m out = RES) ∧ Hid (∀ i, i < k1 → 0 ≤ out i ∧ out i ≤ (gI (intL c2)) i) ∧ Hid (w2.rowIs w.heap.size 3 k1 (fun j => .int .i64 (out j))) ∧ Hid (Below w.heap.size w w2)) (fun nn _ => (intOf nn).toNat)
  case atStart => exact ⟨n.toNat, n, fun _ => 0, rfl, hn.1, hn.2, Nat.le_refl _, HD, HO0, R0, HB0⟩
  case round =>
    clear R0 HB0 HD HO0
    obtain ⟨w2, rfl⟩ : ∃ w2, w2 = wr := ⟨_, rfl⟩
    obtain ⟨f, m, out, rfl, hm0, hm1, hf, HD, HO, R2, HB2⟩ := hrel
    by_cases hmp : 0 < m
    · have HX := uhide (openPlaces_any k1 c1 c2 (.slice a1 k1 p1) (.slice a2 k1 p2) lo hi lo' w.heap.size w.heap.size out w2 T1.out T2.out (H1.out.below HB2.out) (H2.out.below HB2.out) h64 R2.out)
      go_wp2_with fail
      refine HX.out.mono ?_
      rintro e w3 ⟨vO, rfl, hI, hb3⟩
      have HB3 : Hid (Below w.heap.size w w3) := HB2.out.trans (hb3.mono HB2.out.size)
      have R3 := uhide (rowIs_below R2.out hb3)
      have hws3 : w.heap.size < w3.heap.size := R3.out.lt
      have hw23 : w.heap.size < w2.heap.size := R2.out.lt
      obtain ⟨gO, capO, rfl, hgO, hgO2⟩ := hI.shape
      rw [natI_len] at *
      have HN := uhide (open_none (L := k1) (w := gI (intL c1)) (c := gI (intL c2)) (out := out))
      have hol := opensL_le k1 (openF k1 (gI (intL c1)) (gI (intL c2)) out)
      have HIR := uhide hI
      clear hI hb3 HX R2
      by_cases hs : 0 < openS k1 (gI (intL c1)) (gI (intL c2)) out
      rotate_left
      · have hlen := HN.out.2 hs
        have hres : RES = out := by rw [← HD.out]; exact divF_end (fun h => hs h.2)
        subst hres
        rw [hlen] at *
        clear HN HIR HO HD HWN HC HWB H1 H2 T1 T2 HB2
        go_wp2
        go_ret
        first
          | exact ⟨_, _, rfl, by rw [HZ.out, ofFn_len]; exact (rowIs_oS (base := w.heap.size) R3.out (by unfold maxLen; omega) (Nat.le_refl _)).1, (rowIs_oS (base := w.heap.size) R3.out (by unfold maxLen; omega) (Nat.le_refl _)).2, HB3.out⟩
          | exact ⟨_, rfl, _, by rw [HZ.out, ofFn_len]; exact (rowIs_oS (base := w.heap.size) R3.out (by unfold maxLen; omega) (Nat.le_refl _)).1, (rowIs_oS (base := w.heap.size) R3.out (by unfold maxLen; omega) (Nat.le_refl _)).2, HB3.out⟩
      have hlp : 0 < (opensL k1 (openF k1 (gI (intL c1)) (gI (intL c2)) out)).length := by
        refine Nat.pos_of_ne_zero (fun h => HN.out.1 h hs)
      have HQ := uhide (quotas_any m k1 c1 (.slice a1 k1 p1) (.slice (some ⟨gO, 0, none⟩) (opensL k1 (openF k1 (gI (intL c1)) (gI (intL c2)) out)).length capO) lo hi w2.heap.size (openF k1 (gI (intL c1)) (gI (intL c2)) out) w3 T1.out (H1.out.below HB3.out) HIR.out h64 ⟨hmp, hm1⟩ HWB.out hs)
      have HRE : Hid (∀ l : List Nat, l.Perm (opensL k1 (openF k1 (gI (intL c1)) (gI (intL c2)) out)) → _) := fun l hl => round_eq (n := m) hmp HWN.out HO.out hs hl
      have HGA := uhide (gets_all (L := k1) (n := m) (w := gI (intL c1)) (c := gI (intL c2)) (out := out) hmp HWN.out HO.out hs)
      have HWT : Hid (∀ p, p < k1 → (0 ≤ wantsF k1 m (openS k1 (gI (intL c1)) (gI (intL c2)) out) (gI (intL c1)) (openF k1 (gI (intL c1)) (gI (intL c2)) out) p ∧ wantsF k1 m (openS k1 (gI (intL c1)) (gI (intL c2)) out) (gI (intL c1)) (openF k1 (gI (intL c1)) (gI (intL c2)) out) p ≤ 10000) ∧ 0 ≤ out p ∧ out p ≤ gI (intL c2) p ∧ gI (intL c2) p ≤ 10000) := fun p hp => by
        have h1 := wants_bd (L := k1) (m := m) (O := openF k1 (gI (intL c1)) (gI (intL c2)) out) (w := gI (intL c1)) (by omega) HWN.out hs rfl p
        have h2 := HO.out p hp
        have h3 := HC.out p hp
        have h4 := h1.2.1 hp
        have h5 : wantsF k1 m (openS k1 (gI (intL c1)) (gI (intL c2)) out) (gI (intL c1)) (openF k1 (gI (intL c1)) (gI (intL c2)) out) p ≤ m := h4
        have h6 : 0 ≤ wantsF k1 m (openS k1 (gI (intL c1)) (gI (intL c2)) out) (gI (intL c1)) (openF k1 (gI (intL c1)) (gI (intL c2)) out) p := h1.1
        omega
      have HD2 : Hid (∃ f', f = f' + 1 ∧ divF k1 (gI (intL c1)) (gI (intL c2)) f' (m - sumTo (getsF k1 m (gI (intL c1)) (gI (intL c2)) out) k1) (fun i => out i + getsF k1 m (gI (intL c1)) (gI (intL c2)) out i) = RES) := by
        cases f with
        | zero => omega
        | succ f' => exact ⟨f', rfl, by rw [← HD.out]; exact (divF_go ⟨hmp, hs⟩).symm⟩
      have HMO : Hid (∀ p, p ∈ opensL k1 (openF k1 (gI (intL c1)) (gI (intL c2)) out) → p < k1) := fun p hp => (mem_opensL.1 hp).1
      have HND : Hid (∀ l : List Nat, l.Perm (opensL k1 (openF k1 (gI (intL c1)) (gI (intL c2)) out)) → l.Nodup) := fun l hl => hl.nodup_iff.2 (opensL_nodup _ _)
      have zl : (((opensL k1 (openF k1 (gI (intL c1)) (gI (intL c2)) out)).length : Int) == 0) = false := by rw [beq_eq_false_iff_ne]; omega
      clear HN HIR HD HWN HC HWB
      generalize hLN : (opensL k1 (openF k1 (gI (intL c1)) (gI (intL c2)) out)).length = LN at *
      have HLN := uhide hLN
      clear hLN
      go_wp2_with fail
      refine HQ.out.mono ?_
      rintro e w4 ⟨gR, capR, d, rfl, ⟨hg1, hg2⟩, hpm, hR3, hb4⟩
      have HB4 : Hid (Below w.heap.size w w4) := HB3.out.trans (hb4.mono HB3.out.size)
      have R4 := uhide (rowIs_below R3.out hb4)
      have hdk : ∀ j, j < d.size → d[j]! < k1 := fun j hj => HMO.out _ (hpm.mem_iff.1 (by rw [getElem!_pos d j hj]; simp))
      have hds : d.size ≤ 64 := by
        have := hpm.length_eq
        rw [Array.length_toList, HLN.out] at this
        omega
      have HH := uhide (handOut_any k1 c2 (.slice a2 k1 p2) lo' gR capR w.heap.size d (wantsF k1 m (openS k1 (gI (intL c1)) (gI (intL c2)) out) (gI (intL c1)) (openF k1 (gI (intL c1)) (gI (intL c2)) out)) (rem m (openS k1 (gI (intL c1)) (gI (intL c2)) out) (gI (intL c1))) out w4 T2.out (H2.out.below HB4.out) R4.out hR3 hg2 (by omega) hdk (HND.out _ hpm) hds HWT.out)
      obtain ⟨hsum, hsh⟩ := HRE.out _ hpm
      rw [hsum] at HH
      have HSH := uhide hsh
      obtain ⟨f', rfl, hd2⟩ := HD2.out
      obtain ⟨hga, hgb, hgc⟩ := HGA.out
      have HGB := uhide hga
      have HD3 := uhide hd2
      clear hsum hsh hd2 hga HD2 HGA HQ HRE hpm hR3 hb4 hdk HWT HMO HND R3 HB3 HLN H1 T1 H2 T2
      generalize getsF k1 m (gI (intL c1)) (gI (intL c2)) out = G at *
      generalize sumTo G k1 = SG at *
      go_wp2_with fail
      refine HH.out.mono ?_
      rintro e w5 ⟨rfl, hr5, ho5⟩
      have R5 : Hid (w5.rowIs w.heap.size 3 k1 (fun j => .int .i64 ((fun i => out i + G i) j))) := hr5.congr (fun j hj => by rw [HSH.out j hj])
      have HB5 : Hid (Below w.heap.size w w5) := HB4.out.trans (ho5.below (Nat.le_refl _) (by have := HB4.out.size; exact this))
      have HO5 : Hid (∀ i, i < k1 → 0 ≤ (fun i => out i + G i) i ∧ (fun i => out i + G i) i ≤ (gI (intL c2)) i) := fun i hi => by
        have h1 := HGB.out i hi
        have h2 := HO.out i hi
        show 0 ≤ out i + G i ∧ out i + G i ≤ _
        omega
      clear hr5 ho5 HSH HH HGB HO R4 HB4
      go_wp2
      go_roundw
      case rel => exact ⟨f', m - SG, _, by go_num, by omega, by omega, by omega, HD3, HO5, R5, HB5⟩
      case measure => simp [intOf]; omega
    · have hm : m = 0 := by omega
      subst hm
      have hres : RES = out := by rw [← HD.out]; exact divF_end (fun h => hmp h.1)
      subst hres
      clear HO HD HWN HC HWB H1 H2 T1 T2
      go_wp2
      go_ret
      first
        | exact ⟨_, _, rfl, by rw [HZ.out, ofFn_len]; exact (rowIs_oS (base := w.heap.size) R2.out (by unfold maxLen; omega) (Nat.le_refl _)).1, (rowIs_oS (base := w.heap.size) R2.out (by unfold maxLen; omega) (Nat.le_refl _)).2, HB2.out⟩
        | exact ⟨_, rfl, _, by rw [HZ.out, ofFn_len]; exact (rowIs_oS (base := w.heap.size) R2.out (by unfold maxLen; omega) (Nat.le_refl _)).1, (rowIs_oS (base := w.heap.size) R2.out (by unfold maxLen; omega) (Nat.le_refl _)).2, HB2.out⟩
end Go.Proofs.YtdnodaoeflbfkaaGreat
/- Shares, by the program. -/
namespace Go.Proofs.YtdnodaoeflbfkaaGreat
open Go.RowKit Go.BigFrame
set_option linter.unusedVariables false

def wsK (W : WaD) (l : List IsD) (k : Nat) : List Value := ((wsOf W l).take k).map (Value.int .i64) ++ List.replicate (l.length - k) (.int .i64 0)
theorem wsK_len (W : WaD) {l : List IsD} {k : Nat} (hk : k ≤ l.length) : (((wsOf W l).take k).map (Value.int .i64)).length = k := by rw [List.length_map, List.length_take, wsOf_len]; omega
theorem wsK_cons (W : WaD) {l : List IsD} {k : Nat} (hk : k < l.length) : wsK W l k = ((wsOf W l).take k).map (Value.int .i64) ++ .int .i64 0 :: List.replicate (l.length - (k + 1)) (.int .i64 0) := by
  unfold wsK
  rw [show l.length - k = (l.length - (k + 1)) + 1 by omega, List.replicate_succ]
theorem wsK_get (W : WaD) {l : List IsD} {k : Nat} (hk : k < l.length) : (wsK W l k)[k]? = some (.int .i64 0) := by
  have := wsK_len W (Nat.le_of_lt hk)
  rw [wsK_cons W hk, List.getElem?_append_right (by omega), this, Nat.sub_self]; rfl
theorem wsK_set (W : WaD) {l : List IsD} {k : Nat} (hk : k < l.length) : (wsK W l k).set k (.int .i64 (wOf W (l[k]'hk))) = wsK W l (k + 1) := by
  have h := wsK_len W (Nat.le_of_lt hk)
  rw [wsK_cons W hk, List.set_append_right _ _ (by omega), h, Nat.sub_self]
  unfold wsK
  rw [ws_succ hk, List.append_assoc]; rfl
theorem wsK_same (W : WaD) {l : List IsD} {k : Nat} (hk : k < l.length) (h : wOf W (l[k]'hk) = 0) : wsK W l k = wsK W l (k + 1) := by
  rw [← wsK_set W hk, h]
  have := wsK_get W hk
  obtain ⟨h1, h2⟩ := List.getElem?_eq_some_iff.1 this
  exact (by rw [← h2]; exact (List.set_getElem_self h1).symm)
theorem wsK_all (W : WaD) (l : List IsD) : wsK W l l.length = (wsOf W l).map (Value.int .i64) := by unfold wsK; rw [ws_all, Nat.sub_self]; simp
set_option maxRecDepth 20000 in
set_option maxHeartbeats 3200000 in
theorem iShares_any (W : WaD) (l : List IsD) (k2 : Nat) (c2 : UD) (xs : List Value) (lv v2 : Value) (lo hi : Nat) (w : World) (hq : okWa W) (hql : ∀ I ∈ l, okIs1 I) (hll : l.length ≤ maxLen) (ht2 : tyS 1 k2 c2 1) (hx : waH w W xs) (hl : isS w lv l) (hx2 : uS w lo hi 1 k2 c2 v2) :
    Calls Tryz.prog 16 #[.agg xs.toArray, lv, v2] w fun e w' => ∃ c S, e = .returned c ∧ oS w' 1 (shrL W l (intL c2)).length (ofInts (shrL W l (intL c2))) c S ∧ own2 S w.heap.size w'.heap.size ∧ Below w.heap.size w w' := by
  have hk2 := intL_len ht2
  obtain ⟨i0, hi0, hz0, hz1, hz2⟩ := infoD Tryz.infoDInt
  have HC0 : Hid (∀ wx, Below w.heap.size w wx → Calls Tryz.prog 73 #[.agg xs.toArray] wx fun e w' => e = .returned (.bool (wanB W)) ∧ Below wx.heap.size wx w') := fun wx hb => iWantOk_any W xs wx hq (hx.below hb)
  have HC1 : Hid (∀ wx, Below w.heap.size w wx → Calls Tryz.prog 74 #[lv, .int .i64 12, .func (.func 75) #[] #[]] wx fun e w' => e = .returned (.bool (decide (l.length ≤ 12) && l.all islB)) ∧ Below wx.heap.size wx w') := fun wx hb => allOkIs_any l lv 12 wx hll hql (hl.below hb)
  have HC2 : Hid (∀ (I : IsD) (ys : List Value) wx, I ∈ l → isH wx I ys → Below w.heap.size w wx → Calls Tryz.prog 76 #[.agg xs.toArray, .agg ys.toArray] wx fun e w' => e = .returned (.bool (eligB W I)) ∧ Below wx.heap.size wx w') := fun I ys wx hI h hb => iEligible_any W I xs ys wx hq (hql I hI) (hx.below hb) h
  have HC3 : Hid (∀ (s : ByteArray) wx, Below w.heap.size w wx → Calls Tryz.prog 77 #[.agg xs.toArray, .string s] wx fun e w' => e = .returned (.int .i64 (weighI W.2.2.2 s)) ∧ Below wx.heap.size wx w') := fun s wx hb => iWeightOf_any W.1 W.2.1 W.2.2.1 W.2.2.2 s xs wx hq.2.2.2.1 (hx.below hb)
  have HD : Hid (∀ (v1 : Value) wx, Below w.heap.size w wx → wanB W = true → uS wx 0 wx.heap.size 1 l.length (ofInts (wsOf W l)) v1 → Calls Tryz.prog 78 #[.int .i64 W.1, v1, v2] wx fun e w' => ∃ c S, e = .returned c ∧ oS w' 1 (dvdL W.1 (wsOf W l) (intL c2)).length (ofInts (dvdL W.1 (wsOf W l) (intL c2))) c S ∧ own2 S wx.heap.size w'.heap.size ∧ Below wx.heap.size wx w') := fun v1 wx hb hw h1 =>
    iDivide_any W.1 l.length k2 (ofInts (wsOf W l)) c2 v1 v2 0 wx.heap.size lo hi wx hq.1 (ws_ty hw hll) ht2 h1 (hx2.below hb) _ (by rw [intL_of]; exact dvdL_says _ _ _)
  obtain ⟨z, hz⟩ : ∃ z, z = shrL W l (intL c2) := ⟨_, rfl⟩
  have E0 : Hid (wanB W = false → z = []) := fun h => hz.trans (shrL_want h)
  have E1 : Hid ((decide (l.length ≤ 12) && l.all islB) = false → z = []) := fun h => by
    rcases Bool.and_eq_false_iff.1 h with h | h
    · exact hz.trans (shrL_long (of_decide_eq_false h))
    · rw [hz]; unfold shrL shrR; rw [h, Bool.and_false]; rfl
  have E4 : Hid (wanB W = true → (decide (l.length ≤ 12) && l.all islB) = true → z = dvdL W.1 (wsOf W l) (intL c2) ∧ l.length ≤ 12) := fun h1 h2 => by
    rw [Bool.and_eq_true] at h2
    exact ⟨hz.trans (shrL_good h1 (of_decide_eq_true h2.1) h2.2), of_decide_eq_true h2.1⟩
  rw [← hz]
  have HL := hide hl
  unfold maxLen at hll
  obtain ⟨e1, e2, e3, rfl, ⟨a1, p1, rfl, -⟩, ⟨a2, p2, rfl, -⟩, a3, p3, rfl, -⟩ := hx
  obtain ⟨la, lp, rfl, -⟩ := hl
  obtain ⟨va, vp, rfl, -⟩ := hx2
  clear hz hk2 ht2 hq hql
  have OX : Hid (objU (w.alloc (.cells #[.int .i64 W.1, .slice a1 W.2.1.length p1, .slice a2 W.2.2.1.length p2, .slice a3 W.2.2.2.length p3] 35)) w.heap.size 35 [.int .i64 W.1, .slice a1 W.2.1.length p1, .slice a2 W.2.2.1.length p2, .slice a3 W.2.2.2.length p3]) := objU.new _ _ _
  have BX : Hid (Below w.heap.size w (w.alloc (.cells #[.int .i64 W.1, .slice a1 W.2.1.length p1, .slice a2 W.2.2.1.length p2, .slice a3 W.2.2.2.length p3] 35))) := (Below.refl _ _).alloc (Nat.le_refl _) _
  have HWOF : Hid (∀ I : IsD, wOf W I = if eligB W I = true then weighI W.2.2.2 I.1 else 0) := fun I => rfl
  generalize hwan : wanB W = q0 at *
  generalize (decide (l.length ≤ 12) && l.all islB) = q1 at *
  go_enter Tryz.func16, Tryz.ntmps16
  have x0 := OX.out.cell 0 _ rfl
  have x1 := OX.out.cell 1 _ rfl
  have x2 := OX.out.cell 2 _ rfl
  have x3 := OX.out.cell 3 _ rfl
  go_wp2_with fail
  refine (HC0.out _ BX.out).mono ?_
  rintro e w1 ⟨rfl, hb1⟩
  have OX1 := hide (OX.out.below hb1)
  have BX1 : Hid (Below w.heap.size w w1) := BX.out.trans (hb1.mono BX.out.size)
  clear OX BX hb1 x0 x1 x2 x3
  have HOE : Hid (∀ wx : World, w.heap.size ≤ wx.heap.size → oS (wx.alloc (.cells #[] 3)) 1 0 (ofInts []) (.slice (some ⟨wx.heap.size, 0, none⟩) 0 0) [wx.heap.size] ∧ own2 [wx.heap.size] w.heap.size (wx.alloc (.cells #[] 3)).heap.size) := fun wx hs => by
    have := lit_oS wx 3
    exact ⟨this.1, this.2.mono hs (Nat.le_refl _)⟩
  cases q0 with
  | false =>
    have Hn := E0.out rfl
    subst Hn
    clear OX1 E0 E1 E4
    go_wp2
    go_ret
    exact ⟨_, _, rfl, (HOE.out w1 BX1.out.size).1, (HOE.out w1 BX1.out.size).2, BX1.out.alloc BX1.out.size _⟩
  | true =>
    go_wp2_with fail
    refine (HC1.out _ BX1.out).mono ?_
    rintro e w2 ⟨rfl, hb2⟩
    have OX2 := hide (OX1.out.below hb2)
    have BX2 : Hid (Below w.heap.size w w2) := BX1.out.trans (hb2.mono BX1.out.size)
    clear OX1 BX1 hb2
    cases q1 with
    | false =>
      have Hn := E1.out (by first | rfl | trivial)
      subst Hn
      clear OX2 E0 E1 E4
      go_wp2
      go_ret
      exact ⟨_, _, rfl, (HOE.out w2 BX2.out.size).1, (HOE.out w2 BX2.out.size).2, BX2.out.alloc BX2.out.size _⟩
    | true =>
    obtain ⟨hzd, h12⟩ := E4.out (by first | rfl | trivial) (by first | rfl | trivial)
    have Hzd := hide hzd
    clear hzd E0 E1 E4 HOE
    go_wp2_with (at_make; refine wpList_make_full _ rfl _ _ 28 rfl w2.heap.size 3 i0 _ 1 Tryz.underlying28 hi0 hz0 hz1 _ _ _ _ l.length rfl rfl rfl rfl (by rw [hz2]; omega) (by unfold maxLen; omega) (Nat.le_refl _) ?_; intro w3 hown hgrow)
    have R0 : Hid (w3.ownsRow w2.heap.size 3 1 (.slice (some ⟨w2.heap.size, 0, none⟩) l.length l.length) l.length (wsK W l 0)) := by
      have e : (madeCells (Value.int .i64 0).cells (l.length * 1)).toList = wsK W l 0 := by
        rw [show (Value.int .i64 0).cells = #[.int .i64 0] from rfl, toList_madeCells_one, Nat.mul_one]; rfl
      rw [← e]; exact hown
    have B3 : Hid (Below w2.heap.size w2 w3) := Below.grown (Below.refl _ _) hgrow (Nat.le_refl _) (fun k hk => by cases hk)
    clear hown hgrow
    go_loopw [24] (fun i wr => ∃ (k : Nat), k ≤ l.length ∧ i = .int .i64 k ∧ Hid (wr.ownsRow w2.heap.size 3 1 (.slice (some ⟨w2.heap.size, 0, none⟩) l.length l.length) l.length (wsK W l k)) ∧ Hid (Below w2.heap.size w2 wr)) (fun i _ => l.length - (intOf i).toNat)
    case atStart => exact ⟨0, Nat.zero_le _, rfl, R0, B3⟩
    case round =>
      clear R0 B3
      obtain ⟨k, hk, rfl, How, HB⟩ := hrel
      have HW : Hid (Below w.heap.size w wr) := BX2.out.trans (HB.out.mono BX2.out.size)
      have HOX : Hid (∀ wx, Below wr.heap.size wr wx → objU wx w.heap.size 35 [.int .i64 W.1, .slice a1 W.2.1.length p1, .slice a2 W.2.2.1.length p2, .slice a3 W.2.2.2.length p3]) := fun wx hb => OX2.out.below (HB.out.trans (hb.mono HB.out.size))
      by_cases hlt : k < l.length
      · obtain ⟨la', lp', e, hrows⟩ := HL.out.below HW.out
        cases e
        obtain ⟨bb, off, rfl, hat⟩ := hrows (by omega)
        obtain ⟨d1, d2, c0, c1, c2', c3, ⟨b1, r1, rfl, g1⟩, b2, r2, rfl, g2⟩ := hat k hlt
        have HEl : Hid (∀ wx, Below wr.heap.size wr wx → Calls Tryz.prog 76 #[.agg #[.int .i64 W.1, .slice a1 W.2.1.length p1, .slice a2 W.2.2.1.length p2, .slice a3 W.2.2.2.length p3], .agg #[.string (l[k]'hlt).1, .slice b1 (l[k]'hlt).2.1.length r1, .slice b2 (l[k]'hlt).2.2.1.length r2, .int .i64 (l[k]'hlt).2.2.2]] wx fun e w' => e = .returned (.bool (eligB W (l[k]'hlt))) ∧ Below wx.heap.size wx w') := fun wx hb => HC2.out (l[k]'hlt) [.string (l[k]'hlt).1, .slice b1 (l[k]'hlt).2.1.length r1, .slice b2 (l[k]'hlt).2.2.1.length r2, .int .i64 (l[k]'hlt).2.2.2] wx (List.getElem_mem hlt) (isH.below ⟨_, _, rfl, ⟨_, _, rfl, g1⟩, _, _, rfl, g2⟩ hb) (HW.out.trans (hb.mono HW.out.size))
        have HWe : Hid (∀ wx, Below wr.heap.size wr wx → Calls Tryz.prog 77 #[.agg #[.int .i64 W.1, .slice a1 W.2.1.length p1, .slice a2 W.2.2.1.length p2, .slice a3 W.2.2.2.length p3], .string (l[k]'hlt).1] wx fun e w' => e = .returned (.int .i64 (weighI W.2.2.2 (l[k]'hlt).1)) ∧ Below wx.heap.size wx w') := fun wx hb => HC3.out _ wx (HW.out.trans (hb.mono HW.out.size))
        have Hset := hide (wsK_set W hlt)
        have Hsame := hide (wsK_same W hlt)
        have Hget := hide (wsK_get W hlt)
        have HwI := hide (HWOF.out (l[k]'hlt))
        clear hat hrows g1 g2 HL HD HC0 HC1 HC2 HC3 HWOF
        generalize wOf W (l[k]'hlt) = NW at *
        generalize eligB W (l[k]'hlt) = re at *
        generalize weighI W.2.2.2 (l[k]'hlt).1 = wi at *
        generalize (l[k]'hlt).1 = z0 at *
        generalize (l[k]'hlt).2.1.length = z1 at *
        generalize (l[k]'hlt).2.2.1.length = z2 at *
        generalize (l[k]'hlt).2.2.2 = z3 at *
        have BI : Hid (Below wr.heap.size wr (wr.alloc (.cells #[.string z0, .slice b1 z1 r1, .slice b2 z2 r2, .int .i64 z3] 111))) := (Below.refl _ _).alloc (Nat.le_refl _) _
        have OI : Hid (objU (wr.alloc (.cells #[.string z0, .slice b1 z1 r1, .slice b2 z2 r2, .int .i64 z3] 111)) wr.heap.size 111 [.string z0, .slice b1 z1 r1, .slice b2 z2 r2, .int .i64 z3]) := objU.new _ _ _
        have How1 := hide (How.out.alloc (.cells #[.string z0, .slice b1 z1 r1, .slice b2 z2 r2, .int .i64 z3] 111))
        have y0 := (HOX.out _ BI.out).cell 0 _ rfl
        have y1 := (HOX.out _ BI.out).cell 1 _ rfl
        have y2 := (HOX.out _ BI.out).cell 2 _ rfl
        have y3 := (HOX.out _ BI.out).cell 3 _ rfl
        go_wp2_with fail
        refine (HEl.out _ BI.out).mono ?_
        rintro e w4 ⟨rfl, hb4⟩
        have B4 : Hid (Below wr.heap.size wr w4) := BI.out.trans (hb4.mono BI.out.size)
        have How4 := hide (owns_below_any How1.out hb4)
        have OI4 := hide (OI.out.below hb4)
        clear BI OI How1 y0 y1 y2 y3 hb4 c0 c1 c2' c3 HEl
        cases re with
        | false =>
          have HE : Hid (wsK W l k = wsK W l (k + 1)) := Hsame.out (HwI.out.trans rfl)
          clear Hset Hsame Hget HwI HWe OI4
          go_wp2
          go_roundw
          case rel => exact ⟨k + 1, by omega, by go_num, by rw [← HE.out]; exact How4.out, HB.out.trans (B4.out.mono HB.out.size)⟩
          case measure => simp [intOf]; omega
        | true =>
          have y0 := (HOX.out _ B4.out).cell 0 _ rfl
          have y1 := (HOX.out _ B4.out).cell 1 _ rfl
          have y2 := (HOX.out _ B4.out).cell 2 _ rfl
          have y3 := (HOX.out _ B4.out).cell 3 _ rfl
          have o0 := OI4.out.cell 0 _ rfl
          go_wp2_with fail
          refine (HWe.out _ B4.out).mono ?_
          rintro e w5 ⟨rfl, hb5⟩
          have B5 : Hid (Below wr.heap.size wr w5) := B4.out.trans (hb5.mono B4.out.size)
          have How5 := hide (owns_below_any How4.out hb5)
          have HE : Hid ((wsK W l k).set k (.int .i64 wi) = wsK W l (k + 1)) := by
            have := Hset.out; rw [HwI.out] at this; exact this
          have q0 : w5.cell? ⟨w2.heap.size, k, none⟩ = some (.int .i64 0) := (How5.out.cellAt _ (by omega)).trans Hget.out
          have f0 := How5.out.frozenAt k
          clear How4 OI4 B4 y0 y1 y2 y3 o0 hb5 HWe Hset Hsame HwI Hget
          go_wp2
          have s1 := How5.out.stored k (.int .i64 wi)
          go_roundw
          case rel => exact ⟨k + 1, by omega, by go_num, by rw [← HE.out]; exact s1.1, (HB.out.trans (B5.out.mono HB.out.size)).setCell (Nat.le_refl _) _⟩
          case measure => simp [intOf]; omega
      · have e : k = l.length := by omega
        subst e
        have HDv := hide (HD.out (.slice (some ⟨w2.heap.size, 0, none⟩) l.length l.length) wr HW.out (by first | rfl | trivial) (owns_uS (wsOf_len W l) (by rw [← wsK_all W l]; exact How.out)))
        rw [← Hzd.out] at HDv
        have y0 := (HOX.out wr (Below.refl _ _)).cell 0 _ rfl
        clear HL How HD HC0 HC1 HC2 HC3 HOX Hzd
        go_wp2_with fail
        refine HDv.out.mono ?_
        rintro e w4 ⟨c, S, rfl, hc, ho, hb4⟩
        have HB4 : Hid (Below w.heap.size w w4) := HW.out.trans (hb4.mono HW.out.size)
        go_wp2
        go_ret
        exact ⟨_, S, rfl, hc, ho.mono HW.out.size (Nat.le_refl _), HB4.out⟩
end Go.Proofs.YtdnodaoeflbfkaaGreat
/- Who may run it: both sides alike: Shares. -/
namespace Go.Proofs.YtdnodaoeflbfkaaGreat
open Go.RowKit Go.BigFrame
set_option linter.unusedVariables false
theorem shares_both (dA0 : UD) (nA1 : Nat) (csA1 : UD) (nA2 : Nat) (csA2 : UD) (htA0 : tyL dA0 (uE 16)) (htA1 : tyS 4 nA1 csA1 14) (htA2 : tyS 1 nA2 csA2 1) (hsA2 : nA2 ≤ 1048576) (hw : (wt dA0) + (nA1 + wt csA1) ≤ 1048576) :
    ∃ (nR0 : Nat) (csR0 : UD), tyS 1 nR0 csR0 1 ∧ cnt csR0 ≤ 50000000 ∧ (∀ (w : World) (loA0 hiA0 : Nat) (xsA0 : List Value) (loA1 hiA1 : Nat) (cA1 : Value) (loA2 hiA2 : Nat) (cA2 : Value), uH w loA0 hiA0 dA0 xsA0 → uS w loA1 hiA1 4 nA1 csA1 cA1 → uS w loA2 hiA2 1 nA2 csA2 cA2 → Calls Tryz.prog 12 #[.agg xsA0.toArray, cA1, cA2] w fun e w' => ∃ (cR0 : Value), e = .returned (cR0) ∧ uS w' 0 w'.heap.size 1 nR0 csR0 cR0 ∧ Below w.heap.size w w') ∧
    (∀ (w : World) (loA0 hiA0 : Nat) (xsA0 : List Value) (loA1 hiA1 : Nat) (cA1 : Value) (loA2 hiA2 : Nat) (cA2 : Value), uH w loA0 hiA0 dA0 xsA0 → uS w loA1 hiA1 4 nA1 csA1 cA1 → uS w loA2 hiA2 1 nA2 csA2 cA2 → Calls Tryz.prog 16 #[.agg xsA0.toArray, cA1, cA2] w fun e w' => ∃ (cR0 : Value) (SR0 : List Nat), e = .returned (cR0) ∧ oS w' 1 nR0 csR0 cR0 SR0 ∧ own2 SR0 w.heap.size w'.heap.size ∧ Below w.heap.size w w') := by
  obtain ⟨W, hq, hW⟩ := wa_of htA0
  obtain ⟨l, hl, hql, hI⟩ := iss_of htA1
  subst hl
  have hz : (∀ x ∈ shrL W l (intL csA2), inK .i64 x) ∧ (shrL W l (intL csA2)).length ≤ 64 := by
    unfold shrL
    split
    · exact div_small (dvdL_says _ _ _)
    · exact ⟨fun x hx => by (cases hx), by decide⟩
  exact ⟨(shrL W l (intL csA2)).length, ofInts (shrL W l (intL csA2)), ofInts_tyS hz.1 (by unfold maxLen; have := hz.2; omega), by rw [cnt_ofInts]; have := hz.2; omega,
    fun w lo hi xs lo' hi' c lo2 hi2 c2 hx hy h2 => sShares_any W l _ csA2 xs c c2 lo2 hi2 w hq hql htA1.2.2.1 htA2 (hW w lo hi xs hx) (hI w lo' hi' c hy) h2,
    fun w lo hi xs lo' hi' c lo2 hi2 c2 hx hy h2 => iShares_any W l _ csA2 xs c c2 lo2 hi2 w hq hql htA1.2.2.1 htA2 (hW w lo hi xs hx) (hI w lo' hi' c hy) h2⟩
end Go.Proofs.YtdnodaoeflbfkaaGreat
/- Data as cells: the helpers of the laws over Term. -/
namespace Go.Proofs.YtdnodaoeflbfkaaGreat
open Go.RowKit Go.BigFrame
set_option linter.unusedVariables false

set_option maxHeartbeats 800000 in
theorem uszTerm_any {lo hi : Nat} (d : UD) (xs : List Value) (left : Int) (w : World) (ht : tyL d (uE 5)) (hx : uH w lo hi d xs) (h0 : 0 ≤ left) (h1 : left ≤ 1048576) :
    Calls Tryz.prog 134 #[.agg xs.toArray, .int .i64 left] w fun e w' => e = .returned (.int .i64 (leftI left (wt d))) ∧ Below w.heap.size w w' := by
  obtain ⟨z0, z1, n2, c2, rfl, g0, g1, g2⟩ := partsTerm ht
  obtain ⟨_, rfl, ⟨_, rfl, ⟨v2, _, rfl, s2, rfl⟩⟩⟩ := hx
  obtain ⟨a2, p2, rfl, t2⟩ := s2
  obtain ⟨M1, hM1⟩ : ∃ M, M = (n2 + wt c2) := ⟨_, rfl⟩
  have HC1 : Hid (∀ (wx : World) (l : Int), Below w.heap.size w wx → 0 ≤ l → l ≤ 1048576 → Calls Tryz.prog 48 #[.slice a2 n2 p2, .int .i64 l] wx fun e w' => e = .returned (.int .i64 (leftI l M1)) ∧ Below wx.heap.size wx w') := fun wx l hb q0 q1 => hM1 ▸ uszStringS_any (lo := lo) (hi := hi) n2 c2 _ l wx g2 q0 q1 ((show uS w lo hi 1 n2 c2 (.slice a2 n2 p2) from ⟨_, _, rfl, t2⟩).below hb)
  have E : Hid (leftI left (wt (.p (.int .i64 z0) (.p (.string z1) (.l 1 n2 c2 .nil)))) = leftI left (z1.size + (M1 + 0))) := by show _ = _; congr 1; simp only [wt, wtP, hM1]; omega
  generalize leftI left (wt (.p (.int .i64 z0) (.p (.string z1) (.l 1 n2 c2 .nil)))) = R at *
  have HA : Hid (∀ o, Below w.heap.size w (w.alloc o)) := fun o => (Below.refl _ _).alloc (Nat.le_refl _) _
  unfold maxLen at g1
  clear t2 hM1 g2
  by_cases k0 : left - (z1.size : Int) < 0
  · have EN : Hid (R = -1) := by show _ = _; rw [E.out]; exact leftI_neg _ (by omega) (by unfold leftI; split <;> omega)
    clear E
    go_enter Tryz.func134, Tryz.ntmps134
    go_wp2
    go_ret
    exact ⟨ret_intU EN.out.symm, HA.out _⟩
  replace E : Hid (R = leftI (left - (z1.size : Int)) (M1 + 0)) := by
    obtain ⟨q1, q2, q3⟩ := leftI_pos (x := left) (a := z1.size) (M1 + 0) (by unfold leftI; split <;> omega)
    show _ = _; rw [E.out, q1, q2]
  obtain ⟨y1, hy1⟩ : ∃ y, y = leftI (left - (z1.size : Int)) M1 := ⟨_, rfl⟩
  have Y1 := uhide hy1
  by_cases k1 : y1 < 0
  · have EN : Hid (R = -1) := by show _ = _; rw [E.out]; exact leftI_neg _ (by omega) (by rw [← hy1]; exact k1)
    clear E hy1
    go_enter Tryz.func134, Tryz.ntmps134
    go_wp2_with fail
    refine (HC1.out _ _ (HA.out _) (by omega) (by omega)).mono ?_
    rintro e w1 ⟨rfl, hb1⟩
    have B1 : Hid (Below w.heap.size w w1) := (HA.out _).trans (hb1.mono (by simp))
    clear hb1
    rw [show leftI (left - (z1.size : Int)) M1 = y1 from Y1.out.symm]
    go_wp2
    go_ret
    exact ⟨ret_intU EN.out.symm, B1.out⟩
  replace E : Hid (R = leftI y1 (0)) := by
    obtain ⟨q1, q2, q3⟩ := leftI_pos (x := (left - (z1.size : Int))) (a := M1) (0) (by rw [← hy1]; exact k1)
    show _ = _; rw [E.out, q1, ← hy1]
  have u1 : y1 ≤ (left - (z1.size : Int)) := by rw [hy1]; unfold leftI; split <;> omega
  clear hy1
  replace E : Hid (R = y1) := E.out.trans (leftI_zero (by omega))
  go_enter Tryz.func134, Tryz.ntmps134
  go_wp2_with fail
  refine (HC1.out _ _ (HA.out _) (by omega) (by omega)).mono ?_
  rintro e w1 ⟨rfl, hb1⟩
  have B1 : Hid (Below w.heap.size w w1) := (HA.out _).trans (hb1.mono (by simp))
  clear hb1
  rw [show leftI (left - (z1.size : Int)) M1 = y1 from Y1.out.symm]
  go_wp2
  go_ret
  exact ⟨ret_intU E.out.symm, B1.out⟩
set_option maxHeartbeats 800000 in
theorem uszTermS_any {lo hi : Nat} (n : Nat) (cs : UD) (c : Value) (left : Int) (w : World) (ht : tyS 3 n cs 5) (h0 : 0 ≤ left) (h1 : left ≤ 1048576) (hx : uS w lo hi 3 n cs c) :
    Calls Tryz.prog 62 #[c, .int .i64 left] w fun e w' => e = .returned (.int .i64 (leftI left (n + wt cs))) ∧ Below w.heap.size w w' := by
  obtain ⟨a, cap, rfl, hx2⟩ := hx
  have Hx : Hid (uS w lo hi 3 n cs (.slice a n cap)) := ⟨a, cap, rfl, hx2⟩
  have hmx := ht.2.2.1
  unfold maxLen at hmx
  have Ht := uhide ht
  clear hx2 ht
  by_cases c1 : left - (n : Int) < 0
  · have E : Hid (leftI left (n + wt cs) = -1) := by show _ = _; unfold leftI; rw [if_pos (by omega)]
    go_enter Tryz.func62, Tryz.ntmps62
    go_wp2
    go_ret
    exact ⟨ret_intU E.out.symm, Below.refl _ _⟩
  have E : Hid (leftI left (n + wt cs) = leftI (left - n) (wt (cs.dropN (0 * 3)))) := by
    show _ = _
    obtain ⟨g1, g2, g3⟩ := leftI_pos (x := left) (a := n) (wt cs) (by unfold leftI; split <;> omega)
    rw [g1, g2, Nat.zero_mul, UD.dropN_zero]
  go_enter Tryz.func62, Tryz.ntmps62
  go_wp2
  go_loopw [1, 5] (fun l i wr => ∃ (q : Nat) (x : Int), q ≤ n ∧ i = .int .i64 q ∧ l = .int .i64 x ∧ 0 ≤ x ∧ x ≤ 1048576 ∧ Hid (leftI left (n + wt cs) = leftI x (wt (cs.dropN (q * 3)))) ∧ Below w.heap.size w wr) (fun _ i _ => n - (intOf i).toNat)
  case atStart => exact ⟨0, _, Nat.zero_le _, rfl, rfl, by omega, by omega, E, Below.refl _ _⟩
  case round =>
    obtain ⟨q, x, hq, rfl, rfl, hx0, hx1, Hs, hbw⟩ := hrel
    by_cases hlt : q < n
    · obtain ⟨b, off, rfl, hbb, hm⟩ := (Hx.out.below hbw).cells (by omega)
      have htr := Ht.out.row hlt
      have hr := hm.row 3 q
      have hw : wt (cs.dropN (q * 3)) = wt (rowU cs 3 q) + wt (cs.dropN ((q + 1) * 3)) := by rw [UD.drop_row cs 3 q, wt_app]
      have hsz := uszD_row cs 3 q
      obtain ⟨xs, hh, hcl⟩ := hr.hand
      have Hcon : Hid (∀ wx, Below wr.heap.size wr wx → Calls Tryz.prog 134 #[.agg xs.toArray, .int .i64 x] wx fun e w' => e = .returned (.int .i64 (leftI x (wt (rowU cs 3 q)))) ∧ Below wx.heap.size wx w') := fun wx hb => uszTerm_any (lo := lo) (hi := hi) _ _ x wx htr (hh.below hb) hx0 hx1
      obtain ⟨z0, z1, n2, c2, hR, g0, g1, g2⟩ := partsTerm htr
      rw [hR] at hh
      obtain ⟨_, rfl, ⟨_, rfl, ⟨v2, _, rfl, s2, rfl⟩⟩⟩ := hh
      obtain ⟨a2, p2, rfl, t2⟩ := s2
      have q0 : wr.cell? ⟨b, off + q * 3, none⟩ = some (.int .i64 z0) := hcl 0 _ rfl
      have q1 : wr.cell? ⟨b, off + q * 3 + 1, none⟩ = some (.string z1) := hcl 1 _ rfl
      have q2 : wr.cell? ⟨b, off + q * 3 + 2, none⟩ = some (.slice a2 n2 p2) := hcl 2 _ rfl
      clear hR hcl hr hm htr hsz g0 g1 g2 t2
      generalize wt (rowU cs 3 q) = m at *
      have hneg0 := fun h => leftI_neg (x := x) (a := m) (wt (cs.dropN ((q + 1) * 3))) hx0 h
      have hpos0 := fun h => leftI_pos (x := x) (a := m) (wt (cs.dropN ((q + 1) * 3))) h
      have hle0 : leftI x m ≤ x := by unfold leftI; split <;> omega
      generalize leftI x m = y at *
      by_cases hneg : y < 0
      · have hr : Hid (leftI left (n + wt cs) = -1) := by show _ = _; rw [Hs.out, hw]; exact hneg0 hneg
        clear hw Hs E hneg0 hpos0
        go_wp2_with fail
        refine (Hcon.out _ (by repeat (first | exact Below.refl _ _ | refine Below.alloc ?_ (by simp) _))).mono ?_
        rintro e w1 ⟨rfl, hb⟩
        go_wp2
        go_ret
        exact ⟨ret_intU hr.out.symm, hbw.trans (hb.mono hbw.size)⟩
      · have hr : Hid (leftI left (n + wt cs) = leftI y (wt (cs.dropN ((q + 1) * 3)))) := by
          show _ = _
          rw [Hs.out, hw]; exact (hpos0 hneg).1
        clear hw Hs E hneg0 hpos0
        go_wp2_with fail
        refine (Hcon.out _ (by repeat (first | exact Below.refl _ _ | refine Below.alloc ?_ (by simp) _))).mono ?_
        rintro e w1 ⟨rfl, hb⟩
        go_wp2
        go_roundw
        case rel => exact ⟨q + 1, _, by omega, by go_num, rfl, by omega, by omega, hr, hbw.trans (hb.mono hbw.size)⟩
        case measure => simp [intOf]; omega
    · have e : q = n := by omega
      subst e
      have hr : Hid (leftI left (q + wt cs) = x) := by
        show _ = _
        rw [Hs.out, ← Ht.out.2.2.2.1, UD.dropN_all]
        exact leftI_zero hx0
      clear Hs E
      go_wp2
      go_ret
      exact ⟨ret_intU hr.out.symm, hbw⟩
set_option maxHeartbeats 800000 in
theorem ueqTerm_any {lo hi lo' hi' : Nat} (d : UD) (xs ys : List Value) (w : World) (ht : tyL d (uE 5)) (hx : uH w lo hi d xs) (hy : uH w lo' hi' d ys) :
    Calls Tryz.prog 160 #[.agg xs.toArray, .agg ys.toArray] w fun e w' => e = .returned (.bool true) ∧ Below w.heap.size w w' := by
  obtain ⟨z0, z1, n2, c2, rfl, g0, g1, g2⟩ := partsTerm ht
  obtain ⟨_, rfl, ⟨_, rfl, ⟨v2l, _, rfl, s2l, rfl⟩⟩⟩ := hx
  obtain ⟨a2l, p2l, rfl, t2l⟩ := s2l
  obtain ⟨_, rfl, ⟨_, rfl, ⟨v2r, _, rfl, s2r, rfl⟩⟩⟩ := hy
  obtain ⟨a2r, p2r, rfl, t2r⟩ := s2r
  have HC0 : Hid (∀ wx : World, Below w.heap.size w wx → Calls Tryz.prog 54 #[.slice a2l n2 p2l, .slice a2r n2 p2r] wx fun e w' => e = .returned (.bool true) ∧ Below wx.heap.size wx w') := fun wx hb => ueqStringS_any (lo := lo) (hi := hi) (lo' := lo') (hi' := hi') n2 c2 _ _ wx g2 ((show uS w lo hi 1 n2 c2 (.slice a2l n2 p2l) from ⟨_, _, rfl, t2l⟩).below hb) ((show uS w lo' hi' 1 n2 c2 (.slice a2r n2 p2r) from ⟨_, _, rfl, t2r⟩).below hb)
  have e0 : (z0 != z0) = false := by simp
  have e1 : (z1.toList == z1.toList) = true := by simp
  have HB : Hid (∀ o o', Below w.heap.size w ((w.alloc o).alloc o')) := fun o o' => ((Below.refl _ _).alloc (Nat.le_refl _) _).alloc (by simp) _
  clear g0 g1 g2 t2l t2r
  go_enter Tryz.func160, Tryz.ntmps160
  go_wp2_with fail
  refine (HC0.out _ (HB.out _ _)).mono ?_
  rintro e w1 ⟨rfl, hb1⟩
  have B1 : Hid (Below w.heap.size w w1) := (HB.out _ _).trans (hb1.mono (by simp; omega))
  clear hb1
  go_wp2
  go_ret
  exact ⟨rfl, B1.out⟩
set_option maxHeartbeats 800000 in
theorem ueqTermS_any {lo hi lo' hi' : Nat} (n : Nat) (cs : UD) (c c' : Value) (w : World) (ht : tyS 3 n cs 5) (hx : uS w lo hi 3 n cs c) (hy : uS w lo' hi' 3 n cs c') :
    Calls Tryz.prog 79 #[c, c'] w fun e w' => e = .returned (.bool true) ∧ Below w.heap.size w w' := by
  obtain ⟨a, cap, rfl, hx2⟩ := hx
  obtain ⟨a', cap', rfl, hy2⟩ := hy
  have Hx : Hid (uS w lo hi 3 n cs (.slice a n cap)) := ⟨a, cap, rfl, hx2⟩
  have Hy : Hid (uS w lo' hi' 3 n cs (.slice a' n cap')) := ⟨a', cap', rfl, hy2⟩
  have hmx := ht.2.2.1
  unfold maxLen at hmx
  have Ht := uhide ht
  have hb0 : ((n : Int) != (n : Int)) = false := by simp
  clear hx2 hy2 ht
  go_enter Tryz.func79, Tryz.ntmps79
  go_wp2
  go_loopw [5] (fun i wr => ∃ (q : Nat), q ≤ n ∧ i = .int .i64 q ∧ Below w.heap.size w wr) (fun i _ => n - (intOf i).toNat)
  case atStart => exact ⟨0, Nat.zero_le _, rfl, Below.refl _ _⟩
  case round =>
    obtain ⟨q, hq, rfl, hbw⟩ := hrel
    by_cases hlt : q < n
    · obtain ⟨b, off, rfl, hbb, hm⟩ := (Hx.out.below hbw).cells (by omega)
      obtain ⟨b', off', rfl, hbb', hm'⟩ := (Hy.out.below hbw).cells (by omega)
      have htr := Ht.out.row hlt
      have hsz := uszD_row cs 3 q
      obtain ⟨xs, hh, hcl⟩ := (hm.row 3 q).hand
      obtain ⟨ys, hh', hcl'⟩ := (hm'.row 3 q).hand
      have Hcon : Hid (∀ wx, Below wr.heap.size wr wx → Calls Tryz.prog 160 #[.agg xs.toArray, .agg ys.toArray] wx fun e w' => e = .returned (.bool true) ∧ Hid (Below w.heap.size w w')) := fun wx hb => (ueqTerm_any (lo := lo) (hi := hi) (lo' := lo') (hi' := hi') _ _ _ wx htr (hh.below hb) (hh'.below hb)).mono fun e w' h => ⟨h.1, (hbw.trans (hb.mono hbw.size)).trans (h.2.mono (Nat.le_trans hbw.size hb.size))⟩
      obtain ⟨z0, z1, n2, c2, hR, g0, g1, g2⟩ := partsTerm htr
      rw [hR] at hh hh'
      obtain ⟨_, rfl, ⟨_, rfl, ⟨v2l, _, rfl, s2l, rfl⟩⟩⟩ := hh
      obtain ⟨a2l, p2l, rfl, t2l⟩ := s2l
      obtain ⟨_, rfl, ⟨_, rfl, ⟨v2r, _, rfl, s2r, rfl⟩⟩⟩ := hh'
      obtain ⟨a2r, p2r, rfl, t2r⟩ := s2r
      have q0 : wr.cell? ⟨b, off + q * 3, none⟩ = some (.int .i64 z0) := hcl 0 _ rfl
      have q1 : wr.cell? ⟨b, off + q * 3 + 1, none⟩ = some (.string z1) := hcl 1 _ rfl
      have q2 : wr.cell? ⟨b, off + q * 3 + 2, none⟩ = some (.slice a2l n2 p2l) := hcl 2 _ rfl
      have r0 : wr.cell? ⟨b', off' + q * 3, none⟩ = some (.int .i64 z0) := hcl' 0 _ rfl
      have r1 : wr.cell? ⟨b', off' + q * 3 + 1, none⟩ = some (.string z1) := hcl' 1 _ rfl
      have r2 : wr.cell? ⟨b', off' + q * 3 + 2, none⟩ = some (.slice a2r n2 p2r) := hcl' 2 _ rfl
      clear hR hcl hcl' hm hm' htr hsz g0 g1 g2 t2l t2r
      clear Hx Hy Ht
      go_wp2
      go_region_with (go_at_call 160; refine (Hcon.out _ (by repeat (first | exact Below.refl _ _ | refine Below.drew ?_ | refine below_drewN ?_ _))).mono ?_; rintro e w2 ⟨rfl, hb2⟩)
      all_goals go_wp2
      all_goals (
        go_roundw
        case rel => exact ⟨q + 1, by omega, by go_num, by repeat (first | exact hb2.out | refine Below.drew ?_ | refine below_drewN ?_ _)⟩
        case measure => simp [intOf]; omega)
    · have e : q = n := by omega
      subst e
      go_wp2
      go_ret
      exact ⟨rfl, hbw⟩
set_option maxHeartbeats 1600000 in
theorem umarkTermS_any (n k0 : Nat) (cs : UD) (c : Value) (S : List Nat) (w : World) (ht : tyS 3 n cs 5) (hnd : S.Nodup) (hk0 : 1 ≤ k0) (hk1 : k0 + cnt cs ≤ 100000000) (hx : oS w 3 n cs c S) :
    Calls Tryz.prog 82 #[c, .int .i64 k0] w fun e w' => e = .returned (.int .i64 (k0 + cnt cs : Nat)) ∧ oS w' 3 n (mk cs k0) c S ∧ OutS S w w' := by
  obtain ⟨a, cap, rfl⟩ := hx.slice
  have hmx := ht.2.2.1
  unfold maxLen at hmx
  rcases Nat.eq_zero_or_pos n with h0 | hpos
  · subst h0
    obtain ⟨e1, e2⟩ := hx.empty rfl k0
    rw [e1, e2]
    have Hx := uhide hx
    clear hx ht hnd e1 e2
    go_enter Tryz.func82, Tryz.ntmps82
    go_wp2
    go_loopw [1, 5] (fun s i wr => i = .int .i64 0 ∧ s = .int .i64 k0 ∧ wr = w) (fun _ _ _ => 0)
    case atStart => exact ⟨rfl, rfl, rfl⟩
    case round =>
      obtain ⟨rfl, rfl, rfl⟩ := hrel
      go_wp2
      go_ret
      exact ⟨rfl, Hx.out, OutS.refl _ _⟩
  obtain ⟨e, g, S1, xs0, M0, rfl, hp0, hl0⟩ := MS.start hx hnd hpos k0
  obtain ⟨cap, h1, hgl⟩ := M0.own
  cases h1
  have M0 := uhide M0
  have Ht := uhide ht
  have Hp0 := uhide hp0
  have Hl0 := uhide hl0
  have Hkk : Hid (∀ q, k0 + cnt (cs.takeN (q * 3)) ≤ 100000000) := fun q => by have := cnt_le cs (q * 3); omega
  clear hx ht hnd hp0 hl0
  go_enter Tryz.func82, Tryz.ntmps82
  go_wp2
  go_loopw [1, 5] (fun s i wr => ∃ (q : Nat), q ≤ n ∧ i = .int .i64 q ∧ s = .int .i64 (k0 + cnt (cs.takeN (q * 3)) : Nat) ∧ Hid (MS w wr e 3 n (.slice (some ⟨g, 0, none⟩) n cap) g cs k0 S1 xs0 (q * 3))) (fun _ i _ => n - (intOf i).toNat)
  case atStart => exact ⟨0, Nat.zero_le _, rfl, by rw [Nat.zero_mul]; rfl, by rw [Nat.zero_mul]; exact M0⟩
  case round =>
    clear M0
    obtain ⟨q, hq, rfl, rfl, HM⟩ := hrel
    by_cases hlt : q < n
    · have htr := Ht.out.row hlt
      have hsz := uszD_row cs 3 q
      have hkn := cnt_row cs 3 q
      have hkb := Hkk.out (q + 1)
      obtain ⟨z0, z1, n2, c2, hR, g0, g1, g2⟩ := partsTerm htr
      rw [hR] at hkn hsz
      simp only [cnt, Nat.add_zero] at hkn
      obtain ⟨kq, hkq⟩ : ∃ kq, k0 + cnt (cs.takeN (q * 3)) = kq := ⟨_, rfl⟩
      have hK0 : 1 ≤ kq := by omega
      have hend : k0 + cnt (cs.takeN ((q + 1) * 3)) = (((kq + 1) + 1) + cnt c2) := by rw [hkn]; omega
      rw [hend] at hkb
      have at0 : cs.at? (q * 3) = some (.p (.int .i64 z0)) := by rw [show q * 3 = q * 3 + 0 from rfl]; rw [← rowU_at cs 3 q 0 (by omega), hR]; rfl
      have ct0 : k0 + cnt (cs.takeN (q * 3)) = kq := by exact hkq
      have x0 := Hp0.out _ _ at0
      have at1 : cs.at? (q * 3 + 1) = some (.p (.string z1)) := by rw [← rowU_at cs 3 q 1 (by omega), hR]; rfl
      have ct1 : k0 + cnt (cs.takeN (q * 3 + 1)) = (kq + 1) := by rw [cnt_at cs 3 q 1 (by omega), hR]; show k0 + (cnt (cs.takeN (q * 3)) + cnt (.p (.int .i64 z0) .nil)) = _; simp only [cnt]; omega
      have x1 := Hp0.out _ _ at1
      have at2 : cs.at? (q * 3 + 2) = some (.l 1 n2 c2) := by rw [← rowU_at cs 3 q 2 (by omega), hR]; rfl
      have ct2 : k0 + cnt (cs.takeN (q * 3 + 2)) = ((kq + 1) + 1) := by rw [cnt_at cs 3 q 2 (by omega), hR]; show k0 + (cnt (cs.takeN (q * 3)) + cnt (.p (.int .i64 z0) (.p (.string z1) .nil))) = _; simp only [cnt]; omega
      obtain ⟨a2, p2, x2⟩ := Hl0.out _ _ _ _ at2
      have HP0 : Hid (∀ (wx : World) (u : Value), MS w wx e 3 n (.slice (some ⟨g, 0, none⟩) n cap) g cs k0 S1 xs0 (q * 3) → u = .int .i64 (kq : Nat) → MS w (wx.setCell ⟨g, q * 3, none⟩ u) e 3 n (.slice (some ⟨g, 0, none⟩) n cap) g cs k0 S1 xs0 (q * 3 + 1)) := fun wx u h hu => h.plain at0 (hu.trans (by rw [ct0, mkP_int _ _ (by omega)]))
      have HP1 : Hid (∀ (wx : World) (u : Value), MS w wx e 3 n (.slice (some ⟨g, 0, none⟩) n cap) g cs k0 S1 xs0 (q * 3 + 1) → u = .string (umtx (kq + 1)) → MS w (wx.setCell ⟨g, q * 3 + 1, none⟩ u) e 3 n (.slice (some ⟨g, 0, none⟩) n cap) g cs k0 S1 xs0 (q * 3 + 2)) := fun wx u h hu => h.plain at1 (hu.trans (by rw [ct1]; rfl))
      have HT1 : Hid (∀ (wx : World) (x : Int), x = (((kq + 1) : Nat) : Int) → Calls Tryz.prog 84 #[.int .i64 x] wx fun e1 w' => e1 = .returned (.string (umtx (kq + 1))) ∧ Below wx.heap.size wx w') := fun wx x hx => by rw [hx]; exact umarkText_any _ wx (by omega) (by omega)
      have HC2 : Hid (∀ (wx : World) (x : Int), MS w wx e 3 n (.slice (some ⟨g, 0, none⟩) n cap) g cs k0 S1 xs0 (q * 3 + 2) → x = ((((kq + 1) + 1) : Nat) : Int) → Calls Tryz.prog 56 #[.slice a2 n2 p2, .int .i64 x] wx fun e1 w' => e1 = .returned (.int .i64 ((((kq + 1) + 1) + cnt c2 : Nat))) ∧ Hid (MS w w' e 3 n (.slice (some ⟨g, 0, none⟩) n cap) g cs k0 S1 xs0 (q * 3 + 3))) := by
        intro wx x h hxx
        rw [hxx]
        obtain ⟨c', T, q1, q2, q3, q5⟩ := h.part at2
        rw [x2] at q1
        cases q1
        rw [ct2] at q5
        exact (umarkStringS_any n2 ((kq + 1) + 1) c2 _ T wx g2 q3 (by omega) (by omega) q2).mono fun e1 w' h => ⟨h.1, q5 w' h.2.2 h.2.1⟩
      have HQ0 : Hid (∀ wx, MS w wx e 3 n (.slice (some ⟨g, 0, none⟩) n cap) g cs k0 S1 xs0 (q * 3) → wx.cell? ⟨g, q * 3, none⟩ = some (.int .i64 z0) ∧ wx.frozen? ⟨g, q * 3, none⟩ = false ∧ wx.cell? ⟨g, q * 3 + 1, none⟩ = some (.string z1) ∧ wx.frozen? ⟨g, q * 3 + 1, none⟩ = false ∧ wx.cell? ⟨g, q * 3 + 2, none⟩ = some (.slice a2 n2 p2) ∧ wx.frozen? ⟨g, q * 3 + 2, none⟩ = false) := fun wx h => ⟨h.cellAt _ _ (by omega) x0 (by omega), h.fz _, h.cellAt _ _ (by omega) x1 (by omega), h.fz _, h.cellAt _ _ (by omega) x2 (by omega), h.fz _⟩
      have HQ1 : Hid (∀ wx, MS w wx e 3 n (.slice (some ⟨g, 0, none⟩) n cap) g cs k0 S1 xs0 (q * 3 + 1) → wx.cell? ⟨g, q * 3 + 1, none⟩ = some (.string z1) ∧ wx.frozen? ⟨g, q * 3 + 1, none⟩ = false ∧ wx.cell? ⟨g, q * 3 + 2, none⟩ = some (.slice a2 n2 p2) ∧ wx.frozen? ⟨g, q * 3 + 2, none⟩ = false) := fun wx h => ⟨h.cellAt _ _ (by omega) x1 (by omega), h.fz _, h.cellAt _ _ (by omega) x2 (by omega), h.fz _⟩
      have HN : Hid (∀ wx, MS w wx e 3 n (.slice (some ⟨g, 0, none⟩) n cap) g cs k0 S1 xs0 (q * 3 + 3) → MS w wx e 3 n (.slice (some ⟨g, 0, none⟩) n cap) g cs k0 S1 xs0 ((q + 1) * 3)) := fun wx h => by rw [show q * 3 + 3 = (q + 1) * 3 by omega] at h; exact h
      have HE := uhide hend
      rw [hkq]
      clear hR htr hsz hkn hend hkq Ht Hkk Hp0 Hl0 g0 g1 g2 at0 at1 at2 ct0 ct1 ct2 x0 x1 x2
      generalize umtx (kq + 1) = M1 at *
      generalize cnt c2 = m2 at *
      obtain ⟨q0, f0, q1, f1, q2, f2⟩ := HQ0.out _ HM.out
      go_wp2_with fail
      refine (HT1.out _ _ (by omega)).mono ?_
      rintro e1 w1 ⟨rfl, hb1⟩
      have I1 : Hid (MS w w1 e 3 n (.slice (some ⟨g, 0, none⟩) n cap) g cs k0 S1 xs0 (q * 3 + 1)) := MS.below (HP0.out _ _ HM.out (congrArg (Value.int .i64) (by omega))) hb1
      clear hb1 q0 f0 q1 f1 q2 f2
      obtain ⟨q1, f1, q2, f2⟩ := HQ1.out _ I1.out
      go_wp2_with fail
      refine (HC2.out _ _ (HP1.out _ _ I1.out rfl) (by omega)).mono ?_
      rintro e1 w2 ⟨rfl, I2⟩
      clear q1 f1 q2 f2
      go_wp2
      go_roundw
      case rel => exact ⟨q + 1, by omega, by go_num, by rw [HE.out]; go_num, HN.out _ I2.out⟩
      case measure => (simp [intOf]; omega)
    · have e : q = n := by omega
      subst e
      obtain ⟨h1, h2⟩ := HM.out.done (by decide)
      have HD := uhide (And.intro h1 h2)
      have hl : cs.takeN (q * 3) = cs := by apply UD.ext; unfold UD.takeN; rw [UD.toL_ofL]; exact List.take_of_length_le (Nat.le_of_eq Ht.out.2.2.2.1)
      rw [hl]
      clear h1 h2 hl HM Ht Hp0 Hl0 Hkk
      go_wp2
      go_ret
      exact ⟨rfl, HD.out⟩
set_option maxHeartbeats 1600000 in
theorem utoTerm_any {lo hi : Nat} (d : UD) (xs : List Value) (w : World) (ht : tyL d (uE 5)) (hn : wt d ≤ 1048576) (hx : uH w lo hi d xs) :
    Calls Tryz.prog 143 #[.agg xs.toArray] w fun e w' => ∃ ys S, e = .returned (.agg ys.toArray) ∧ oH w' d ys S ∧ S.Nodup ∧ (∀ s ∈ S, w.heap.size ≤ s) ∧ Below w.heap.size w w' := by
  obtain ⟨z0, z1, n2, c2, rfl, g0, g1, g2⟩ := partsTerm ht
  obtain ⟨_, rfl, ⟨_, rfl, ⟨v2l, _, rfl, s2l, rfl⟩⟩⟩ := hx
  obtain ⟨a2l, p2l, rfl, t2l⟩ := s2l
  simp only [wt, wtP] at hn
  have HC0 : Hid (∀ wx : World, Below w.heap.size w wx → Calls Tryz.prog 51 #[.slice a2l n2 p2l] wx fun e w' => ∃ a p S, e = .returned (.slice a n2 p) ∧ Hid (oS w' 1 n2 c2 (.slice a n2 p) S) ∧ Hid (own2 S wx.heap.size w'.heap.size) ∧ Below wx.heap.size wx w') := fun wx hb => (utoStringS_any (lo := lo) (hi := hi) n2 c2 _ wx g2 (by omega) ((show uS w lo hi 1 n2 c2 (.slice a2l n2 p2l) from ⟨_, _, rfl, t2l⟩).below hb)).mono fun e w' ⟨c', S, h1, h2, h3, h4, h5⟩ => by
    obtain ⟨a, p, rfl⟩ := h2.slice
    exact ⟨a, p, S, h1, h2, ⟨h3, fun s hs => ⟨h4 s hs, h2.lt s hs⟩⟩, h5⟩
  have HA : Hid (∀ o1 o2 o3, Below w.heap.size w (((w.alloc o1).alloc o2).alloc o3)) := fun o1 o2 o3 => (((Below.refl _ _).alloc (Nat.le_refl _) _).alloc (by simp) _).alloc (by simp; omega) _
  clear hn ht g0 g1 g2 t2l
  go_enter Tryz.func143, Tryz.ntmps143
  go_wp2_with fail
  refine (HC0.out _ (by repeat (first | with_reducible exact HA.out _ _ _ | with_reducible assumption | with_reducible refine Below.setCell ?_ (by simp <;> omega) _))).mono ?_
  rintro e w1 ⟨a2r, p2r, S1, rfl, O1, W1, hb1⟩
  have OA1 : Hid (objU w1 w.heap.size 177 [.int .i64 z0, .string z1, .slice a2l n2 p2l]) := objU.below (by repeat (first | with_reducible exact objU.new2 _ _ rfl | with_reducible refine objU.other ?_ _ (by simp <;> omega) _ | with_reducible refine objU.old ?_ _)) hb1
  have OR1 : Hid (objU w1 (w.heap.size + 1) 190 [.int .i64 0, .string ⟨#[]⟩, .slice none 0 0]) := objU.below (by repeat (first | with_reducible exact objU.new2 _ _ (by simp) | with_reducible refine objU.other ?_ _ (by simp <;> omega) _ | with_reducible refine objU.old ?_ _)) hb1
  have OO1 : Hid (objU w1 (w.heap.size + 1 + 1) 190 [.int .i64 z0, .string z1, .slice none 0 0]) := objU.below (by repeat (first | with_reducible exact objU.new2 _ _ (by simp) | with_reducible refine objU.old ?_ _)) hb1
  have hsz1 : w.heap.size + 1 + 1 + 1 ≤ w1.heap.size := by have := hb1.size; simpa using this
  replace W1 := uhide (W1.out.mono (a' := w.heap.size + 1 + 1 + 1) (by simp <;> omega) (Nat.le_refl _))
  have HB1 : Hid (Below w.heap.size w w1) := Below.trans (by repeat (first | with_reducible exact HA.out _ _ _ | with_reducible refine Below.setCell ?_ (by simp <;> omega) _)) (hb1.mono (by simp <;> omega))
  clear hb1
  have co2_1 : w1.cell? ⟨w.heap.size + 1 + 1, 2, none⟩ = some (.slice none 0 0) := OO1.out.cell 2 _ rfl
  have fo2_1 : w1.frozen? ⟨w.heap.size + 1 + 1, 2, none⟩ = false := OO1.out.fz 2
  have co0_1 : w1.cell? ⟨w.heap.size + 1 + 1, 0, none⟩ = some (.int .i64 z0) := OO1.out.cell 0 _ rfl
  have cr0 : w1.cell? ⟨w.heap.size + 1, 0, none⟩ = some (.int .i64 0) := OR1.out.cell 0 _ rfl
  have fr0 : w1.frozen? ⟨w.heap.size + 1, 0, none⟩ = false := OR1.out.fz 0
  have co1_1 : w1.cell? ⟨w.heap.size + 1 + 1, 1, none⟩ = some (.string z1) := OO1.out.cell 1 _ rfl
  have cr1 : w1.cell? ⟨w.heap.size + 1, 1, none⟩ = some (.string ⟨#[]⟩) := OR1.out.cell 1 _ rfl
  have fr1 : w1.frozen? ⟨w.heap.size + 1, 1, none⟩ = false := OR1.out.fz 1
  have cr2 : w1.cell? ⟨w.heap.size + 1, 2, none⟩ = some (.slice none 0 0) := OR1.out.cell 2 _ rfl
  have fr2 : w1.frozen? ⟨w.heap.size + 1, 2, none⟩ = false := OR1.out.fz 2
  go_wp2
  refine bodyPost_ret (v := .agg #[.int .i64 z0, .string z1, .slice a2r n2 p2r]) ?_ rfl ⟨[.int .i64 z0, .string z1, .slice a2r n2 p2r], (S1 ++ []), rfl, ?_, ?_⟩
  · simp [results, Tryz.results143, go_sem, cr0, cr1, cr2]
  · exact oH.consP _ (oH.consP _ (oH.consS (oS.outs O1.out (T := [w.heap.size + 1, w.heap.size + 1 + 1]) (by repeat (first | with_reducible exact OutS.refl _ _ | with_reducible refine OutS.setCell ?_ (show _ ∈ [w.heap.size + 1, w.heap.size + 1 + 1] by simp) _)) W1.out (fun x hx => by simp at hx; omega)) (oH.nil _)))
  · have HW := own2.app W1.out (own2.nil w1.heap.size w1.heap.size) (by omega) (by omega) (by omega)
    refine ⟨HW.1, fun s hs => (by have := HW.2 s hs; omega), ?_⟩
    repeat (first | with_reducible exact HB1.out | with_reducible refine Below.setCell ?_ (by simp <;> omega) _)
theorem Tryz.infoUTerm : (Tryz.prog.info? 190).map (fun i => (i.zero, i.size, decide (i.bytes ≤ 1000))) = some (some (.agg #[.int .i64 0, .string ByteArray.empty, .slice none 0 0]), 3, true) := by kernel_rfl
set_option maxHeartbeats 1600000 in
theorem utoTermS_any {lo hi : Nat} (n : Nat) (cs : UD) (c : Value) (w : World) (ht : tyS 3 n cs 5) (hn : n + wt cs ≤ 1048576) (hx : uS w lo hi 3 n cs c) :
    Calls Tryz.prog 70 #[c] w fun e w' => ∃ c' S, e = .returned c' ∧ oS w' 3 n cs c' S ∧ S.Nodup ∧ (∀ s ∈ S, w.heap.size ≤ s) ∧ Below w.heap.size w w' := by
  obtain ⟨i0, hinf, hz0, hz1, hz2⟩ : ∃ i, Tryz.prog.info? 190 = some i ∧ i.zero = some (.agg #[.int .i64 0, .string ByteArray.empty, .slice none 0 0]) ∧ i.size = 3 ∧ i.bytes ≤ 1000 := by
    have h := Tryz.infoUTerm
    cases e : Tryz.prog.info? 190 with
    | none => rw [e] at h; cases h
    | some i => rw [e] at h; simp at h; exact ⟨i, rfl, h.1, h.2.1, h.2.2⟩
  obtain ⟨a, cap, rfl, hx2⟩ := hx
  have Hx : Hid (uS w lo hi 3 n cs (.slice a n cap)) := ⟨a, cap, rfl, hx2⟩
  have Ht := uhide ht
  have Hn : Hid (∀ q, q < n → wt (rowU cs 3 q) ≤ 1048576) := fun q hq => by have := wt_row cs 3 q; omega
  have hnn : n ≤ 1048576 := by omega
  have hbb : i0.bytes * n ≤ 281474976710656 := Nat.le_trans (Nat.mul_le_mul hz2 hnn) (by decide)
  clear hx2 ht hn
  go_enter Tryz.func70, Tryz.ntmps70
  go_wp2_with (at_make; refine wpList_make_full _ rfl _ _ 32 rfl w.heap.size 190 i0 _ 3 Tryz.underlying32 hinf hz0 hz1 _ _ _ _ n rfl rfl rfl rfl hbb (by unfold maxLen; omega) (Nat.le_refl _) ?_; intro w1 hown hgrow)
  have T0 := uhide (TS.start (cs := cs) hown (Below.grown (Below.refl _ _) hgrow (Nat.le_refl _) (fun k hk => by cases hk)))
  clear hown hgrow
  go_loopw [4] (fun i wr => ∃ (q : Nat), q ≤ n ∧ i = .int .i64 q ∧ Hid (TS w wr 190 3 n cs q)) (fun i _ => n - (intOf i).toNat)
  case atStart => exact ⟨0, Nat.zero_le _, rfl, T0⟩
  case round =>
    clear T0
    obtain ⟨q, hq, rfl, HT⟩ := hrel
    by_cases hlt : q < n
    · obtain ⟨b, off, rfl, hbk, hm⟩ := (Hx.out.below HT.out.bel).cells (by omega)
      have htr := Ht.out.row hlt
      have hwr := Hn.out q hlt
      have hsz := uszD_row cs 3 q
      obtain ⟨xs, hh, hcl⟩ := (hm.row 3 q).hand
      have Hcon : Hid (∀ wx, Below wr.heap.size wr wx → Calls Tryz.prog 143 #[.agg xs.toArray] wx fun e w' => ∃ ys S, e = .returned (.agg ys.toArray) ∧ oH w' (rowU cs 3 q) ys S ∧ S.Nodup ∧ (∀ s ∈ S, wx.heap.size ≤ s) ∧ Below wx.heap.size wx w') := fun wx hb => utoTerm_any (lo := lo) (hi := hi) _ _ wx htr hwr (hh.below hb)
      obtain ⟨z0, z1, n2, c2, hR, g0, g1, g2⟩ := partsTerm htr
      rw [hR] at hh
      obtain ⟨_, rfl, ⟨_, rfl, ⟨v2l, _, rfl, s2l, rfl⟩⟩⟩ := hh
      obtain ⟨a2l, p2l, rfl, t2l⟩ := s2l
      have q0 : wr.cell? ⟨b, off + q * 3, none⟩ = some (.int .i64 z0) := hcl 0 _ rfl
      have q1 : wr.cell? ⟨b, off + q * 3 + 1, none⟩ = some (.string z1) := hcl 1 _ rfl
      have q2 : wr.cell? ⟨b, off + q * 3 + 2, none⟩ = some (.slice a2l n2 p2l) := hcl 2 _ rfl
      have HR := uhide hR
      have HS : Hid (∀ (w2 : World) ys S, oH w2 (rowU cs 3 q) ys S → ∃ a2r p2r , ys = [.int .i64 z0, .string z1, .slice a2r n2 p2r]) := by
        intro w2 ys S h
        rw [HR.out] at h
        obtain ⟨_, rfl, ⟨_, rfl, ⟨v2, _, _, _, rfl, _, _, ⟨_, _, o2, _⟩, ⟨rfl, _⟩⟩⟩⟩ := h
        obtain ⟨a2, p2, rfl⟩ := uowns_slice o2
        exact ⟨a2, p2, rfl⟩
      have hKn : q * 3 + 3 ≤ n * 3 := by have := Nat.mul_le_mul_right 3 (show q + 1 ≤ n by omega); rw [Nat.succ_mul] at this; exact this
      clear hR hcl hm htr hsz hwr HR g0 g1 g2 t2l
      go_wp2_with fail
      refine (Hcon.out _ (by repeat (first | exact Below.refl _ _ | refine Below.alloc ?_ (by simp) _))).mono ?_
      rintro e w2 ⟨ys, S, rfl, ho, hnd, hS, hb2⟩
      obtain ⟨a2r, p2r, rfl⟩ := HS.out _ _ _ ho
      have HT2 := uhide (HT.out.below hb2)
      have T1 := uhide (HT.out.step hb2 ho hnd hS Ht.out.2.2.2.1 hlt)
      obtain ⟨d0, p0x⟩ := HT2.out.cell (q * 3) (by omega)
      have f0 := HT2.out.fz (q * 3)
      obtain ⟨d1, p1x⟩ := HT2.out.cell (q * 3 + 1) (by omega)
      have f1 := HT2.out.fz (q * 3 + 1)
      obtain ⟨d2, p2x⟩ := HT2.out.cell (q * 3 + 2) (by omega)
      have f2 := HT2.out.fz (q * 3 + 2)
      clear ho hnd hS hb2 Hcon HS HT HT2 Hx Ht Hn
      go_wp2
      go_roundw
      case rel => exact ⟨q + 1, by omega, by go_num, T1⟩
      case measure => simp [intOf]; omega
    · have e : q = n := by omega
      subst e
      obtain ⟨S, h1, h2, h3, h4⟩ := HT.out.done (by decide) Ht.out.2.2.2.1
      have HS : Hid (oS wr 3 q cs (.slice (some ⟨w.heap.size, 0, none⟩) q q) S ∧ S.Nodup ∧ (∀ s ∈ S, w.heap.size ≤ s) ∧ Below w.heap.size w wr) := ⟨h1, h2, h3, h4⟩
      clear h1 h2 h3 h4
      go_wp2
      go_ret
      exact ⟨_, S, rfl, HS.out⟩
end Go.Proofs.YtdnodaoeflbfkaaGreat
/- Data as cells: the helpers of the laws over Weigh. -/
namespace Go.Proofs.YtdnodaoeflbfkaaGreat
open Go.RowKit Go.BigFrame
set_option linter.unusedVariables false

set_option maxHeartbeats 800000 in
theorem uszWeigh_any {lo hi : Nat} (d : UD) (xs : List Value) (left : Int) (w : World) (ht : tyL d (uE 15)) (hx : uH w lo hi d xs) (h0 : 0 ≤ left) (h1 : left ≤ 1048576) :
    Calls Tryz.prog 135 #[.agg xs.toArray, .int .i64 left] w fun e w' => e = .returned (.int .i64 (leftI left (wt d))) ∧ Below w.heap.size w w' := by
  obtain ⟨z0, z1, rfl, g0, g1⟩ := partsWeigh ht
  obtain ⟨_, rfl, ⟨_, rfl, rfl⟩⟩ := hx
  have E : Hid (leftI left (wt (.p (.string z0) (.p (.int .i64 z1) .nil))) = leftI left (z0.size + 0)) := by show _ = _; congr 1 <;> (simp only [wt, wtP] <;> omega)
  generalize leftI left (wt (.p (.string z0) (.p (.int .i64 z1) .nil))) = R at *
  have HA : Hid (∀ o, Below w.heap.size w (w.alloc o)) := fun o => (Below.refl _ _).alloc (Nat.le_refl _) _
  unfold maxLen at g0
  by_cases k0 : left - (z0.size : Int) < 0
  · have EN : Hid (R = -1) := by show _ = _; rw [E.out]; exact leftI_neg _ (by omega) (by unfold leftI; split <;> omega)
    clear E
    go_enter Tryz.func135, Tryz.ntmps135
    go_wp2
    go_ret
    exact ⟨ret_intU EN.out.symm, HA.out _⟩
  replace E : Hid (R = leftI (left - (z0.size : Int)) (0)) := by
    obtain ⟨q1, q2, q3⟩ := leftI_pos (x := left) (a := z0.size) (0) (by unfold leftI; split <;> omega)
    show _ = _; rw [E.out, q1, q2]
  replace E : Hid (R = (left - (z0.size : Int))) := E.out.trans (leftI_zero (by omega))
  go_enter Tryz.func135, Tryz.ntmps135
  go_wp2
  go_ret
  exact ⟨ret_intU E.out.symm, HA.out _⟩
set_option maxHeartbeats 800000 in
set_option maxRecDepth 20000 in
theorem uszWeighS_any {lo hi : Nat} (n : Nat) (cs : UD) (c : Value) (left : Int) (w : World) (ht : tyS 2 n cs 15) (h0 : 0 ≤ left) (h1 : left ≤ 1048576) (hx : uS w lo hi 2 n cs c) :
    Calls Tryz.prog 63 #[c, .int .i64 left] w fun e w' => e = .returned (.int .i64 (leftI left (n + wt cs))) ∧ Below w.heap.size w w' := by
  obtain ⟨a, cap, rfl, hx2⟩ := hx
  have Hx : Hid (uS w lo hi 2 n cs (.slice a n cap)) := ⟨a, cap, rfl, hx2⟩
  have hmx := ht.2.2.1
  unfold maxLen at hmx
  have Ht := uhide ht
  clear hx2 ht
  by_cases c1 : left - (n : Int) < 0
  · have E : Hid (leftI left (n + wt cs) = -1) := by show _ = _; unfold leftI; rw [if_pos (by omega)]
    go_enter Tryz.func63, Tryz.ntmps63
    go_wp2
    go_ret
    exact ⟨ret_intU E.out.symm, Below.refl _ _⟩
  have E : Hid (leftI left (n + wt cs) = leftI (left - n) (wt (cs.dropN (0 * 2)))) := by
    show _ = _
    obtain ⟨g1, g2, g3⟩ := leftI_pos (x := left) (a := n) (wt cs) (by unfold leftI; split <;> omega)
    rw [g1, g2, Nat.zero_mul, UD.dropN_zero]
  go_enter Tryz.func63, Tryz.ntmps63
  go_wp2
  go_loopw [1, 5] (fun l i wr => ∃ (q : Nat) (x : Int), q ≤ n ∧ i = .int .i64 q ∧ l = .int .i64 x ∧ 0 ≤ x ∧ x ≤ 1048576 ∧ Hid (leftI left (n + wt cs) = leftI x (wt (cs.dropN (q * 2)))) ∧ Below w.heap.size w wr) (fun _ i _ => n - (intOf i).toNat)
  case atStart => exact ⟨0, _, Nat.zero_le _, rfl, rfl, by omega, by omega, E, Below.refl _ _⟩
  case round =>
    obtain ⟨q, x, hq, rfl, rfl, hx0, hx1, Hs, hbw⟩ := hrel
    by_cases hlt : q < n
    · obtain ⟨b, off, rfl, hbb, hm⟩ := (Hx.out.below hbw).cells (by omega)
      have htr := Ht.out.row hlt
      have hr := hm.row 2 q
      have hw : wt (cs.dropN (q * 2)) = wt (rowU cs 2 q) + wt (cs.dropN ((q + 1) * 2)) := by rw [UD.drop_row cs 2 q, wt_app]
      have hsz := uszD_row cs 2 q
      obtain ⟨xs, hh, hcl⟩ := hr.hand
      have Hcon : Hid (∀ wx, Below wr.heap.size wr wx → Calls Tryz.prog 135 #[.agg xs.toArray, .int .i64 x] wx fun e w' => e = .returned (.int .i64 (leftI x (wt (rowU cs 2 q)))) ∧ Below wx.heap.size wx w') := fun wx hb => uszWeigh_any (lo := lo) (hi := hi) _ _ x wx htr (hh.below hb) hx0 hx1
      obtain ⟨z0, z1, hR, g0, g1⟩ := partsWeigh htr
      rw [hR] at hh
      obtain ⟨_, rfl, ⟨_, rfl, rfl⟩⟩ := hh
      have q0 : wr.cell? ⟨b, off + q * 2, none⟩ = some (.string z0) := hcl 0 _ rfl
      have q1 : wr.cell? ⟨b, off + q * 2 + 1, none⟩ = some (.int .i64 z1) := hcl 1 _ rfl
      clear hR hcl hr hm htr hsz g0 g1
      generalize wt (rowU cs 2 q) = m at *
      have hneg0 := fun h => leftI_neg (x := x) (a := m) (wt (cs.dropN ((q + 1) * 2))) hx0 h
      have hpos0 := fun h => leftI_pos (x := x) (a := m) (wt (cs.dropN ((q + 1) * 2))) h
      have hle0 : leftI x m ≤ x := by unfold leftI; split <;> omega
      generalize leftI x m = y at *
      by_cases hneg : y < 0
      · have hr : Hid (leftI left (n + wt cs) = -1) := by show _ = _; rw [Hs.out, hw]; exact hneg0 hneg
        clear hw Hs E hneg0 hpos0
        go_wp2_with fail
        refine (Hcon.out _ (by repeat (first | exact Below.refl _ _ | refine Below.alloc ?_ (by simp) _))).mono ?_
        rintro e w1 ⟨rfl, hb⟩
        go_wp2
        go_ret
        exact ⟨ret_intU hr.out.symm, hbw.trans (hb.mono hbw.size)⟩
      · have hr : Hid (leftI left (n + wt cs) = leftI y (wt (cs.dropN ((q + 1) * 2)))) := by
          show _ = _
          rw [Hs.out, hw]; exact (hpos0 hneg).1
        clear hw Hs E hneg0 hpos0
        go_wp2_with fail
        refine (Hcon.out _ (by repeat (first | exact Below.refl _ _ | refine Below.alloc ?_ (by simp) _))).mono ?_
        rintro e w1 ⟨rfl, hb⟩
        go_wp2
        go_roundw
        case rel => exact ⟨q + 1, _, by omega, by go_num, rfl, by omega, by omega, hr, hbw.trans (hb.mono hbw.size)⟩
        case measure => simp [intOf]; omega
    · have e : q = n := by omega
      subst e
      have hr : Hid (leftI left (q + wt cs) = x) := by
        show _ = _
        rw [Hs.out, ← Ht.out.2.2.2.1, UD.dropN_all]
        exact leftI_zero hx0
      clear Hs E
      go_wp2
      go_ret
      exact ⟨ret_intU hr.out.symm, hbw⟩
set_option maxHeartbeats 800000 in
theorem ueqWeigh_any {lo hi lo' hi' : Nat} (d : UD) (xs ys : List Value) (w : World) (ht : tyL d (uE 15)) (hx : uH w lo hi d xs) (hy : uH w lo' hi' d ys) :
    Calls Tryz.prog 161 #[.agg xs.toArray, .agg ys.toArray] w fun e w' => e = .returned (.bool true) ∧ Below w.heap.size w w' := by
  obtain ⟨z0, z1, rfl, g0, g1⟩ := partsWeigh ht
  obtain ⟨_, rfl, ⟨_, rfl, rfl⟩⟩ := hx
  obtain ⟨_, rfl, ⟨_, rfl, rfl⟩⟩ := hy
  have e0 : (z0.toList == z0.toList) = true := by simp
  have e1 : (z1 != z1) = false := by simp
  have HB : Hid (∀ o o', Below w.heap.size w ((w.alloc o).alloc o')) := fun o o' => ((Below.refl _ _).alloc (Nat.le_refl _) _).alloc (by simp) _
  clear g0 g1
  go_enter Tryz.func161, Tryz.ntmps161
  go_wp2
  go_ret
  exact ⟨rfl, HB.out _ _⟩
set_option maxHeartbeats 800000 in
theorem ueqWeighS_any {lo hi lo' hi' : Nat} (n : Nat) (cs : UD) (c c' : Value) (w : World) (ht : tyS 2 n cs 15) (hx : uS w lo hi 2 n cs c) (hy : uS w lo' hi' 2 n cs c') :
    Calls Tryz.prog 80 #[c, c'] w fun e w' => e = .returned (.bool true) ∧ Below w.heap.size w w' := by
  obtain ⟨a, cap, rfl, hx2⟩ := hx
  obtain ⟨a', cap', rfl, hy2⟩ := hy
  have Hx : Hid (uS w lo hi 2 n cs (.slice a n cap)) := ⟨a, cap, rfl, hx2⟩
  have Hy : Hid (uS w lo' hi' 2 n cs (.slice a' n cap')) := ⟨a', cap', rfl, hy2⟩
  have hmx := ht.2.2.1
  unfold maxLen at hmx
  have Ht := uhide ht
  have hb0 : ((n : Int) != (n : Int)) = false := by simp
  clear hx2 hy2 ht
  go_enter Tryz.func80, Tryz.ntmps80
  go_wp2
  go_loopw [5] (fun i wr => ∃ (q : Nat), q ≤ n ∧ i = .int .i64 q ∧ Below w.heap.size w wr) (fun i _ => n - (intOf i).toNat)
  case atStart => exact ⟨0, Nat.zero_le _, rfl, Below.refl _ _⟩
  case round =>
    obtain ⟨q, hq, rfl, hbw⟩ := hrel
    by_cases hlt : q < n
    · obtain ⟨b, off, rfl, hbb, hm⟩ := (Hx.out.below hbw).cells (by omega)
      obtain ⟨b', off', rfl, hbb', hm'⟩ := (Hy.out.below hbw).cells (by omega)
      have htr := Ht.out.row hlt
      have hsz := uszD_row cs 2 q
      obtain ⟨xs, hh, hcl⟩ := (hm.row 2 q).hand
      obtain ⟨ys, hh', hcl'⟩ := (hm'.row 2 q).hand
      have Hcon : Hid (∀ wx, Below wr.heap.size wr wx → Calls Tryz.prog 161 #[.agg xs.toArray, .agg ys.toArray] wx fun e w' => e = .returned (.bool true) ∧ Hid (Below w.heap.size w w')) := fun wx hb => (ueqWeigh_any (lo := lo) (hi := hi) (lo' := lo') (hi' := hi') _ _ _ wx htr (hh.below hb) (hh'.below hb)).mono fun e w' h => ⟨h.1, (hbw.trans (hb.mono hbw.size)).trans (h.2.mono (Nat.le_trans hbw.size hb.size))⟩
      obtain ⟨z0, z1, hR, g0, g1⟩ := partsWeigh htr
      rw [hR] at hh hh'
      obtain ⟨_, rfl, ⟨_, rfl, rfl⟩⟩ := hh
      obtain ⟨_, rfl, ⟨_, rfl, rfl⟩⟩ := hh'
      have q0 : wr.cell? ⟨b, off + q * 2, none⟩ = some (.string z0) := hcl 0 _ rfl
      have q1 : wr.cell? ⟨b, off + q * 2 + 1, none⟩ = some (.int .i64 z1) := hcl 1 _ rfl
      have r0 : wr.cell? ⟨b', off' + q * 2, none⟩ = some (.string z0) := hcl' 0 _ rfl
      have r1 : wr.cell? ⟨b', off' + q * 2 + 1, none⟩ = some (.int .i64 z1) := hcl' 1 _ rfl
      clear hR hcl hcl' hm hm' htr hsz g0 g1
      clear Hx Hy Ht
      go_wp2
      go_region_with (go_at_call 161; refine (Hcon.out _ (by repeat (first | exact Below.refl _ _ | refine Below.drew ?_ | refine below_drewN ?_ _))).mono ?_; rintro e w2 ⟨rfl, hb2⟩)
      all_goals go_wp2
      all_goals (
        go_roundw
        case rel => exact ⟨q + 1, by omega, by go_num, by repeat (first | exact hb2.out | refine Below.drew ?_ | refine below_drewN ?_ _)⟩
        case measure => simp [intOf]; omega)
    · have e : q = n := by omega
      subst e
      go_wp2
      go_ret
      exact ⟨rfl, hbw⟩
set_option maxHeartbeats 1600000 in
theorem umarkWeighS_any (n k0 : Nat) (cs : UD) (c : Value) (S : List Nat) (w : World) (ht : tyS 2 n cs 15) (hnd : S.Nodup) (hk0 : 1 ≤ k0) (hk1 : k0 + cnt cs ≤ 100000000) (hx : oS w 2 n cs c S) :
    Calls Tryz.prog 83 #[c, .int .i64 k0] w fun e w' => e = .returned (.int .i64 (k0 + cnt cs : Nat)) ∧ oS w' 2 n (mk cs k0) c S ∧ OutS S w w' := by
  obtain ⟨a, cap, rfl⟩ := hx.slice
  have hmx := ht.2.2.1
  unfold maxLen at hmx
  rcases Nat.eq_zero_or_pos n with h0 | hpos
  · subst h0
    obtain ⟨e1, e2⟩ := hx.empty rfl k0
    rw [e1, e2]
    have Hx := uhide hx
    clear hx ht hnd e1 e2
    go_enter Tryz.func83, Tryz.ntmps83
    go_wp2
    go_loopw [1, 5] (fun s i wr => i = .int .i64 0 ∧ s = .int .i64 k0 ∧ wr = w) (fun _ _ _ => 0)
    case atStart => exact ⟨rfl, rfl, rfl⟩
    case round =>
      obtain ⟨rfl, rfl, rfl⟩ := hrel
      go_wp2
      go_ret
      exact ⟨rfl, Hx.out, OutS.refl _ _⟩
  obtain ⟨e, g, S1, xs0, M0, rfl, hp0, hl0⟩ := MS.start hx hnd hpos k0
  obtain ⟨cap, h1, hgl⟩ := M0.own
  cases h1
  have M0 := uhide M0
  have Ht := uhide ht
  have Hp0 := uhide hp0
  have Hl0 := uhide hl0
  have Hkk : Hid (∀ q, k0 + cnt (cs.takeN (q * 2)) ≤ 100000000) := fun q => by have := cnt_le cs (q * 2); omega
  clear hx ht hnd hp0 hl0
  go_enter Tryz.func83, Tryz.ntmps83
  go_wp2
  go_loopw [1, 5] (fun s i wr => ∃ (q : Nat), q ≤ n ∧ i = .int .i64 q ∧ s = .int .i64 (k0 + cnt (cs.takeN (q * 2)) : Nat) ∧ Hid (MS w wr e 2 n (.slice (some ⟨g, 0, none⟩) n cap) g cs k0 S1 xs0 (q * 2))) (fun _ i _ => n - (intOf i).toNat)
  case atStart => exact ⟨0, Nat.zero_le _, rfl, by rw [Nat.zero_mul]; rfl, by rw [Nat.zero_mul]; exact M0⟩
  case round =>
    clear M0
    obtain ⟨q, hq, rfl, rfl, HM⟩ := hrel
    by_cases hlt : q < n
    · have htr := Ht.out.row hlt
      have hsz := uszD_row cs 2 q
      have hkn := cnt_row cs 2 q
      have hkb := Hkk.out (q + 1)
      obtain ⟨z0, z1, hR, g0, g1⟩ := partsWeigh htr
      rw [hR] at hkn hsz
      simp only [cnt, Nat.add_zero] at hkn
      obtain ⟨kq, hkq⟩ : ∃ kq, k0 + cnt (cs.takeN (q * 2)) = kq := ⟨_, rfl⟩
      have hK0 : 1 ≤ kq := by omega
      have hend : k0 + cnt (cs.takeN ((q + 1) * 2)) = ((kq + 1) + 1) := by rw [hkn]; omega
      rw [hend] at hkb
      have at0 : cs.at? (q * 2) = some (.p (.string z0)) := by rw [show q * 2 = q * 2 + 0 from rfl]; rw [← rowU_at cs 2 q 0 (by omega), hR]; rfl
      have ct0 : k0 + cnt (cs.takeN (q * 2)) = kq := by exact hkq
      have x0 := Hp0.out _ _ at0
      have at1 : cs.at? (q * 2 + 1) = some (.p (.int .i64 z1)) := by rw [← rowU_at cs 2 q 1 (by omega), hR]; rfl
      have ct1 : k0 + cnt (cs.takeN (q * 2 + 1)) = (kq + 1) := by rw [cnt_at cs 2 q 1 (by omega), hR]; show k0 + (cnt (cs.takeN (q * 2)) + cnt (.p (.string z0) .nil)) = _; simp only [cnt]; omega
      have x1 := Hp0.out _ _ at1
      have HP0 : Hid (∀ (wx : World) (u : Value), MS w wx e 2 n (.slice (some ⟨g, 0, none⟩) n cap) g cs k0 S1 xs0 (q * 2) → u = .string (umtx kq) → MS w (wx.setCell ⟨g, q * 2, none⟩ u) e 2 n (.slice (some ⟨g, 0, none⟩) n cap) g cs k0 S1 xs0 (q * 2 + 1)) := fun wx u h hu => h.plain at0 (hu.trans (by rw [ct0]; rfl))
      have HT0 : Hid (∀ (wx : World) (x : Int), x = ((kq : Nat) : Int) → Calls Tryz.prog 84 #[.int .i64 x] wx fun e1 w' => e1 = .returned (.string (umtx kq)) ∧ Below wx.heap.size wx w') := fun wx x hx => by rw [hx]; exact umarkText_any _ wx (by omega) (by omega)
      have HP1 : Hid (∀ (wx : World) (u : Value), MS w wx e 2 n (.slice (some ⟨g, 0, none⟩) n cap) g cs k0 S1 xs0 (q * 2 + 1) → u = .int .i64 ((kq + 1) : Nat) → MS w (wx.setCell ⟨g, q * 2 + 1, none⟩ u) e 2 n (.slice (some ⟨g, 0, none⟩) n cap) g cs k0 S1 xs0 (q * 2 + 2)) := fun wx u h hu => h.plain at1 (hu.trans (by rw [ct1, mkP_int _ _ (by omega)]))
      have HQ0 : Hid (∀ wx, MS w wx e 2 n (.slice (some ⟨g, 0, none⟩) n cap) g cs k0 S1 xs0 (q * 2) → wx.cell? ⟨g, q * 2, none⟩ = some (.string z0) ∧ wx.frozen? ⟨g, q * 2, none⟩ = false ∧ wx.cell? ⟨g, q * 2 + 1, none⟩ = some (.int .i64 z1) ∧ wx.frozen? ⟨g, q * 2 + 1, none⟩ = false) := fun wx h => ⟨h.cellAt _ _ (by omega) x0 (by omega), h.fz _, h.cellAt _ _ (by omega) x1 (by omega), h.fz _⟩
      have HN : Hid (∀ wx, MS w wx e 2 n (.slice (some ⟨g, 0, none⟩) n cap) g cs k0 S1 xs0 (q * 2 + 2) → MS w wx e 2 n (.slice (some ⟨g, 0, none⟩) n cap) g cs k0 S1 xs0 ((q + 1) * 2)) := fun wx h => by rw [show q * 2 + 2 = (q + 1) * 2 by omega] at h; exact h
      have HE := uhide hend
      rw [hkq]
      clear hR htr hsz hkn hend hkq Ht Hkk Hp0 Hl0 g0 g1 at0 at1 ct0 ct1 x0 x1
      generalize umtx kq = M0 at *
      obtain ⟨q0, f0, q1, f1⟩ := HQ0.out _ HM.out
      go_wp2_with fail
      refine (HT0.out _ _ (by omega)).mono ?_
      rintro e1 w1 ⟨rfl, hb1⟩
      have I1 : Hid (MS w w1 e 2 n (.slice (some ⟨g, 0, none⟩) n cap) g cs k0 S1 xs0 (q * 2)) := MS.below HM.out hb1
      clear hb1 q0 f0 q1 f1
      obtain ⟨q0, f0, q1, f1⟩ := HQ0.out _ I1.out
      go_wp2
      go_roundw
      case rel => exact ⟨q + 1, by omega, by go_num, by rw [HE.out]; go_num, HN.out _ (HP1.out _ _ (HP0.out _ _ I1.out rfl) (congrArg (Value.int .i64) (by omega)))⟩
      case measure => (simp [intOf]; omega)
    · have e : q = n := by omega
      subst e
      obtain ⟨h1, h2⟩ := HM.out.done (by decide)
      have HD := uhide (And.intro h1 h2)
      have hl : cs.takeN (q * 2) = cs := by apply UD.ext; unfold UD.takeN; rw [UD.toL_ofL]; exact List.take_of_length_le (Nat.le_of_eq Ht.out.2.2.2.1)
      rw [hl]
      clear h1 h2 hl HM Ht Hp0 Hl0 Hkk
      go_wp2
      go_ret
      exact ⟨rfl, HD.out⟩
set_option maxHeartbeats 1600000 in
theorem utoWeigh_any {lo hi : Nat} (d : UD) (xs : List Value) (w : World) (ht : tyL d (uE 15)) (hn : wt d ≤ 1048576) (hx : uH w lo hi d xs) :
    Calls Tryz.prog 144 #[.agg xs.toArray] w fun e w' => ∃ ys S, e = .returned (.agg ys.toArray) ∧ oH w' d ys S ∧ S.Nodup ∧ (∀ s ∈ S, w.heap.size ≤ s) ∧ Below w.heap.size w w' := by
  obtain ⟨z0, z1, rfl, g0, g1⟩ := partsWeigh ht
  obtain ⟨_, rfl, ⟨_, rfl, rfl⟩⟩ := hx
  simp only [wt, wtP] at hn
  have HA : Hid (∀ o1 o2 o3, Below w.heap.size w (((w.alloc o1).alloc o2).alloc o3)) := fun o1 o2 o3 => (((Below.refl _ _).alloc (Nat.le_refl _) _).alloc (by simp) _).alloc (by simp; omega) _
  clear hn ht g0 g1
  go_enter Tryz.func144, Tryz.ntmps144
  go_wp2
  refine bodyPost_ret (v := .agg #[.string z0, .int .i64 z1]) ?_ rfl ⟨_, [], rfl, ?_, List.nodup_nil, fun s hs => (by cases hs), ?_⟩
  · simp [results, Tryz.results144, go_sem]
  · exact oH.consP _ (oH.consP _ (oH.nil _))
  · repeat (first | with_reducible exact HA.out _ _ _ | with_reducible refine Below.setCell ?_ (by simp <;> omega) _)
theorem Tryz.infoUWeigh : (Tryz.prog.info? 182).map (fun i => (i.zero, i.size, decide (i.bytes ≤ 1000))) = some (some (.agg #[.string ByteArray.empty, .int .i64 0]), 2, true) := by kernel_rfl
set_option maxHeartbeats 1600000 in
theorem utoWeighS_any {lo hi : Nat} (n : Nat) (cs : UD) (c : Value) (w : World) (ht : tyS 2 n cs 15) (hn : n + wt cs ≤ 1048576) (hx : uS w lo hi 2 n cs c) :
    Calls Tryz.prog 71 #[c] w fun e w' => ∃ c' S, e = .returned c' ∧ oS w' 2 n cs c' S ∧ S.Nodup ∧ (∀ s ∈ S, w.heap.size ≤ s) ∧ Below w.heap.size w w' := by
  obtain ⟨i0, hinf, hz0, hz1, hz2⟩ : ∃ i, Tryz.prog.info? 182 = some i ∧ i.zero = some (.agg #[.string ByteArray.empty, .int .i64 0]) ∧ i.size = 2 ∧ i.bytes ≤ 1000 := by
    have h := Tryz.infoUWeigh
    cases e : Tryz.prog.info? 182 with
    | none => rw [e] at h; cases h
    | some i => rw [e] at h; simp at h; exact ⟨i, rfl, h.1, h.2.1, h.2.2⟩
  obtain ⟨a, cap, rfl, hx2⟩ := hx
  have Hx : Hid (uS w lo hi 2 n cs (.slice a n cap)) := ⟨a, cap, rfl, hx2⟩
  have Ht := uhide ht
  have Hn : Hid (∀ q, q < n → wt (rowU cs 2 q) ≤ 1048576) := fun q hq => by have := wt_row cs 2 q; omega
  have hnn : n ≤ 1048576 := by omega
  have hbb : i0.bytes * n ≤ 281474976710656 := Nat.le_trans (Nat.mul_le_mul hz2 hnn) (by decide)
  clear hx2 ht hn
  go_enter Tryz.func71, Tryz.ntmps71
  go_wp2_with (at_make; refine wpList_make_full _ rfl _ _ 33 rfl w.heap.size 182 i0 _ 2 Tryz.underlying33 hinf hz0 hz1 _ _ _ _ n rfl rfl rfl rfl hbb (by unfold maxLen; omega) (Nat.le_refl _) ?_; intro w1 hown hgrow)
  have T0 := uhide (TS.start (cs := cs) hown (Below.grown (Below.refl _ _) hgrow (Nat.le_refl _) (fun k hk => by cases hk)))
  clear hown hgrow
  go_loopw [4] (fun i wr => ∃ (q : Nat), q ≤ n ∧ i = .int .i64 q ∧ Hid (TS w wr 182 2 n cs q)) (fun i _ => n - (intOf i).toNat)
  case atStart => exact ⟨0, Nat.zero_le _, rfl, T0⟩
  case round =>
    clear T0
    obtain ⟨q, hq, rfl, HT⟩ := hrel
    by_cases hlt : q < n
    · obtain ⟨b, off, rfl, hbk, hm⟩ := (Hx.out.below HT.out.bel).cells (by omega)
      have htr := Ht.out.row hlt
      have hwr := Hn.out q hlt
      have hsz := uszD_row cs 2 q
      obtain ⟨xs, hh, hcl⟩ := (hm.row 2 q).hand
      have Hcon : Hid (∀ wx, Below wr.heap.size wr wx → Calls Tryz.prog 144 #[.agg xs.toArray] wx fun e w' => ∃ ys S, e = .returned (.agg ys.toArray) ∧ oH w' (rowU cs 2 q) ys S ∧ S.Nodup ∧ (∀ s ∈ S, wx.heap.size ≤ s) ∧ Below wx.heap.size wx w') := fun wx hb => utoWeigh_any (lo := lo) (hi := hi) _ _ wx htr hwr (hh.below hb)
      obtain ⟨z0, z1, hR, g0, g1⟩ := partsWeigh htr
      rw [hR] at hh
      obtain ⟨_, rfl, ⟨_, rfl, rfl⟩⟩ := hh
      have q0 : wr.cell? ⟨b, off + q * 2, none⟩ = some (.string z0) := hcl 0 _ rfl
      have q1 : wr.cell? ⟨b, off + q * 2 + 1, none⟩ = some (.int .i64 z1) := hcl 1 _ rfl
      have HR := uhide hR
      have HS : Hid (∀ (w2 : World) ys S, oH w2 (rowU cs 2 q) ys S → ys = [.string z0, .int .i64 z1]) := by
        intro w2 ys S h
        rw [HR.out] at h
        obtain ⟨_, rfl, ⟨_, rfl, ⟨rfl, _⟩⟩⟩ := h
        exact rfl
      have hKn : q * 2 + 2 ≤ n * 2 := by have := Nat.mul_le_mul_right 2 (show q + 1 ≤ n by omega); rw [Nat.succ_mul] at this; exact this
      clear hR hcl hm htr hsz hwr HR g0 g1
      go_wp2_with fail
      refine (Hcon.out _ (by repeat (first | exact Below.refl _ _ | refine Below.alloc ?_ (by simp) _))).mono ?_
      rintro e w2 ⟨ys, S, rfl, ho, hnd, hS, hb2⟩
      obtain rfl := HS.out _ _ _ ho
      have HT2 := uhide (HT.out.below hb2)
      have T1 := uhide (HT.out.step hb2 ho hnd hS Ht.out.2.2.2.1 hlt)
      obtain ⟨d0, p0x⟩ := HT2.out.cell (q * 2) (by omega)
      have f0 := HT2.out.fz (q * 2)
      obtain ⟨d1, p1x⟩ := HT2.out.cell (q * 2 + 1) (by omega)
      have f1 := HT2.out.fz (q * 2 + 1)
      clear ho hnd hS hb2 Hcon HS HT HT2 Hx Ht Hn
      go_wp2
      go_roundw
      case rel => exact ⟨q + 1, by omega, by go_num, T1⟩
      case measure => simp [intOf]; omega
    · have e : q = n := by omega
      subst e
      obtain ⟨S, h1, h2, h3, h4⟩ := HT.out.done (by decide) Ht.out.2.2.2.1
      have HS : Hid (oS wr 2 q cs (.slice (some ⟨w.heap.size, 0, none⟩) q q) S ∧ S.Nodup ∧ (∀ s ∈ S, w.heap.size ≤ s) ∧ Below w.heap.size w wr) := ⟨h1, h2, h3, h4⟩
      clear h1 h2 h3 h4
      go_wp2
      go_ret
      exact ⟨_, S, rfl, HS.out⟩
end Go.Proofs.YtdnodaoeflbfkaaGreat
