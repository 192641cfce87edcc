/- The library's stable sort at a row of structs of three numbers, walked: the whole. -/
import Derived.Test.YtidjjgiecaoboaaSrtM
namespace Go.Proofs.Ytidjjgiecaoboaa
open Go.RowKit Go.Lib Go.Sort Go.BigFrame
set_option linter.unusedVariables false
section
variable {α : Type} [Inhabited α]

set_option maxRecDepth 20000 in
set_option maxHeartbeats 3200000 in
theorem insertion_any {f : α → Int × Int × Int} {g : Nat} {cb : Array Value} {cf : α → α → Int} {w0 : World} {blk off : Nat} {d0 : Array α} (K : StK Try.prog f g cb cf w0 blk off d0) (a b cap : Nat) (dk : Array α) (W : World) (hs : dk.size = d0.size) (hw : SWK (enc3 f) 3 w0 blk off dk W) (hab : a ≤ b) (hb : b ≤ d0.size) :
    Calls Try.prog 47 #[.slice (some ⟨blk, off, none⟩) d0.size cap, .int .i64 a, .int .i64 b, .func (.func g) #[] cb] W fun e w' => e = .returned (.tuple #[]) ∧ SWK (enc3 f) 3 w0 blk off (insertionSort (ltOf cf) dk a b) w' := by
  have hsm := K.small
  have HW := shide hw
  have eg := K.eg
  have mixed := stMixed
  clear hw
  go_enter Try.func47, Try.ntmps47
  go_wp2
  go_loopw [8] (fun vi wr => ∃ (i : Nat) (d1 : Array α), (a + 1 ≤ i ∧ i ≤ b + 1) ∧ vi = .int .i64 i ∧ d1.size = d0.size ∧ Hid (insOuter (ltOf cf) a b i d1 = insertionSort (ltOf cf) dk a b) ∧ Hid (SWK (enc3 f) 3 w0 blk off d1 wr)) (fun i _ => b + 1 - (intOf i).toNat)
  case atStart => exact ⟨a + 1, dk, ⟨by omega, by omega⟩, by go_num, hs, rfl, HW.out⟩
  case round =>
    obtain ⟨i, d1, ⟨h1, h2⟩, rfl, hs1, HO, HS0⟩ := hrel
    by_cases hlt : i < b
    · have HO2 : Hid (∀ dj, dj = insInner (ltOf cf) a i d1 → insOuter (ltOf cf) a b (i + 1) dj = insertionSort (ltOf cf) dk a b) := fun dj e => by rw [e, ← HO.out, insOuter_go _ _ _ _ _ hlt]
      clear HO HW
      go_wp2
      go_loopw [9] (fun vj wx => ∃ (j : Nat) (dj : Array α), (a ≤ j ∧ j ≤ i) ∧ vj = .int .i64 j ∧ dj.size = d0.size ∧ Hid (insInner (ltOf cf) a j dj = insInner (ltOf cf) a i d1) ∧ Hid (SWK (enc3 f) 3 w0 blk off dj wx)) (fun j _ => (intOf j).toNat)
      case atStart => exact ⟨i, d1, ⟨by omega, by omega⟩, rfl, hs1, rfl, HS0.out⟩
      case round =>
        clear HS0
        obtain ⟨j, dj, ⟨h3, h4⟩, rfl, hsj, HI, HS⟩ := hrel
        by_cases hja : a < j
        · obtain ⟨kp, rfl⟩ : ∃ kp, j = kp + 1 := ⟨j - 1, by omega⟩
          have hkz : decide ((kp : Int) + 1 > (a : Int)) = true := decide_eq_true (by omega)
          have p0 : (0 : Int) ≤ (kp : Int) + 1 := by omega
          have pe : ((kp : Int) + 1).toNat = kp + 1 := by omega
          have hwp : IntKind.i64.wrap (kp : Int) = (kp : Int) := by rw [IntKind.wrap_i64]; omega
          have jz : (kp : Int) + 1 < (d0.size : Int) := by omega
          have jz1 : (kp : Int) < (d0.size : Int) := by omega
          have HST : Hid (ltOf cf dj[kp + 1]! dj[kp]! = false → dj = insInner (ltOf cf) a i d1) := fun h => by
            rw [← HI.out, insInner_stop _ _ _ _ (.inr h)]
          have HGO : Hid (ltOf cf dj[kp + 1]! dj[kp]! = true → insInner (ltOf cf) a kp (swp dj (kp + 1) kp) = insInner (ltOf cf) a i d1) := fun h => by
            rw [← HI.out, insInner_go _ _ _ _ hja h]; rfl
          have LTE : Hid (ltOf cf dj[kp + 1]! dj[kp]! = decide (cf dj[kp + 1]! dj[kp]! < 0)) := rfl
          have HSZ : Hid (∀ W2 x0 x1 x2 y0 y1 y2, SWK (enc3 f) 3 w0 blk off dj W2 → f dj[kp + 1]! = (x0, x1, x2) → f dj[kp]! = (y0, y1, y2) → _) := fun W2 x0 x1 x2 y0 y1 y2 hW hx hy => K.swp3 hW (kp + 1) kp (by omega) (by omega) hx hy
          have HCE : Hid (∀ W2, SWK (enc3 f) 3 w0 blk off dj W2 → _) := fun W2 hW => And.intro (K.at3 hW hsj (kp + 1) (by omega)) (K.at3 hW hsj kp (by omega))
          clear HI
          generalize hx : f dj[kp + 1]! = X at *
          generalize hy : f dj[kp]! = Y at *
          obtain ⟨x0, x1, x2⟩ := X
          obtain ⟨y0, y1, y2⟩ := Y
          have bp : kp + 1 < d0.size := by omega
          have bq : kp < d0.size := by omega
          obtain ⟨i0, i1, i2⟩ := K.in3 HS.out hsj (kp + 1) (by omega) hx
          obtain ⟨j0, j1, j2⟩ := K.in3 HS.out hsj (kp) (by omega) hy
          have hcg := K.cmp3 HS.out hsj hx hy
          have HG : Hid (∀ n os, SWK (enc3 f) 3 w0 blk off dj (grow (wr.drewN n) os)) := fun n os => HS.out.grown n os
          generalize cf dj[kp + 1]! dj[kp]! = c at *
          have HX := shide hx
          have HY := shide hy
          clear hx hy
          by_cases hc : c < 0
          · have hcd : decide (c < 0) = true := decide_eq_true hc
            have HI2 := shide (HGO.out (LTE.out.trans hcd))
            clear HGO HST LTE
            go_wp2
            go_quiet_grown (first | (go_at_fn g; refine Calls.grown_of (hcg _ _)))
            have HS3 := shide (HG.out nq osq)
            generalize grow (wr.drewN nq) osq = wy at *
            obtain ⟨⟨⟨i0, i1, i2⟩, g0, g1, g2⟩, ⟨j0, j1, j2⟩, k0, k1, k2⟩ := HCE.out wy HS3.out
            have HZ := shide (HSZ.out wy x0 x1 x2 y0 y1 y2 HS3.out (by first | exact rfl | exact HX.out) (by first | exact rfl | exact HY.out))
            (try simp only at i0 i1 i2 j0 j1 j2)
            clear HSZ HCE HG hcg
            go_wp2
            go_region
            all_goals go_wp2
            go_roundw
            case rel => exact ⟨kp, _, ⟨by omega, by omega⟩, by go_num, (by rw [size_swp]; exact hsj), HI2, by with_reducible exact HZ⟩
            case measure => simp [intOf]
          · have hcd : decide (c < 0) = false := decide_eq_false hc
            have HI2 := shide (HO2.out dj (HST.out (LTE.out.trans hcd)))
            clear HGO HST LTE HSZ HCE
            go_wp2
            go_quiet_grown (first | (go_at_fn g; refine Calls.grown_of (hcg _ _)))
            go_wp2
            go_roundw
            case rel => exact ⟨i + 1, dj, ⟨by omega, by omega⟩, by go_num, hsj, HI2, HG.out _ _⟩
            case measure => simp [intOf]; omega
        · have e : j = a := by omega
          subst e
          have hkz : decide ((j : Int) > (j : Int)) = false := decide_eq_false (by omega)
          have HI2 := shide (HO2.out dj (by rw [← HI.out, insInner_stop _ _ _ _ (.inl (Nat.le_refl _))]))
          have HS3 := shide (fun n => HS.out.drewN n)
          clear HI HO2
          go_wp2
          go_region
          all_goals go_wp2
          go_roundw
          case rel => exact ⟨i + 1, dj, ⟨by omega, by omega⟩, by go_num, hsj, HI2, by first | exact HS.out | exact HS3.out _ | exact HS.out.drew⟩
          case measure => simp [intOf]; omega
    · have HE : Hid (d1 = insertionSort (ltOf cf) dk a b) := by
        show _ = _
        rw [← HO.out, insOuter_stop _ _ _ _ _ hlt]
      clear HO
      go_wp2
      go_end0
      exact ⟨rfl, by rw [← HE.out]; exact HS0.out⟩

set_option maxRecDepth 20000 in
set_option maxHeartbeats 6400000 in
theorem stable_any {f : α → Int × Int × Int} {g : Nat} {cb : Array Value} {cf : α → α → Int} {w0 : World} {blk off : Nat} {d0 : Array α} (K : StK Try.prog f g cb cf w0 blk off d0) (hS : SWO (ltOf cf)) (pos : α → Nat) (cap : Nat) (W : World) (hw : SWK (enc3 f) 3 w0 blk off d0 W) (ha : AscP pos 0 d0.size d0) :
    Calls Try.prog 45 #[.slice (some ⟨blk, off, none⟩) d0.size cap, .int .i64 d0.size, .func (.func g) #[] cb] W fun e w' => e = .returned (.tuple #[]) ∧ ∃ d', (PermIn 0 d0.size d0 d' ∧ SortedIn (stT (ltOf cf) pos) 0 d0.size d') ∧ SWK (enc3 f) 3 w0 blk off d' w' := by
  have hsm := K.small
  have HW := shide hw
  have HIN := shide (fun a b dk W => insertion_any K a b cap dk W)
  have HMG := shide (fun N a m b dk W => symMerge_any K hS pos cap N a m b dk W)
  have HA0 : Hid (BlkA (stT (ltOf cf) pos) pos d0 0 d0) := BlkA.zero ha
  have HAS : Hid (∀ q d, BlkA (stT (ltOf cf) pos) pos d0 q d → q * 20 + 20 ≤ d0.size → BlkA (stT (ltOf cf) pos) pos d0 (q + 1) (insertionSort (ltOf cf) d (q * 20) (q * 20 + 20))) := fun q d h hb => h.succ hS hb
  have HAD : Hid (∀ q d, BlkA (stT (ltOf cf) pos) pos d0 q d → q * 20 ≤ d0.size → d0.size < q * 20 + 20 → BlkB (stT (ltOf cf) pos) pos d0 20 0 (insertionSort (ltOf cf) d (q * 20) d0.size)) := fun q d h h1 h2 => h.done hS h1 h2
  clear hw ha hS
  go_enter Try.func45, Try.ntmps45
  go_wp2
  go_loopw [7, 8] (fun va vb wr => ∃ (q A : Nat) (dj : Array α), Hid (q * 20 = A) ∧ A ≤ d0.size ∧ va = .int .i64 A ∧ vb = .int .i64 (A + 20 : Nat) ∧ Hid (BlkA (stT (ltOf cf) pos) pos d0 q dj) ∧ Hid (SWK (enc3 f) 3 w0 blk off dj wr)) (fun a _ _ => d0.size + 1 - (intOf a).toNat)
  case atStart => exact ⟨0, 0, d0, rfl, Nat.zero_le _, rfl, rfl, HA0.out, HW.out⟩
  case round =>
    clear HW
    obtain ⟨q, A, dj, HQ, hA, rfl, rfl, HB, HS⟩ := hrel
    have hsj : dj.size = d0.size := HB.out.perm.1
    push_cast
    by_cases hlt : A + 20 ≤ d0.size
    · have HX := HIN.out A (A + 20) dj wr hsj HS.out (by omega) hlt
      push_cast at HX
      replace HX := shide HX
      have HN : Hid (BlkA (stT (ltOf cf) pos) pos d0 (q + 1) (insertionSort (ltOf cf) dj A (A + 20))) := by
        have := HAS.out q dj HB.out (by rw [HQ.out]; exact hlt)
        rw [HQ.out] at this; exact this
      have HQ2 : Hid ((q + 1) * 20 = A + 20) := by show _ = _; have := HQ.out; omega
      have hz : (A : Int) + 20 ≤ (d0.size : Int) := by omega
      clear HIN HMG HA0 HAS HAD HB HS
      go_wp2_with fail
      refine HX.out.mono ?_
      rintro e w1 ⟨rfl, h2⟩
      have HS2 := shide h2
      clear h2 HX
      go_wp2
      go_roundw
      case rel => exact ⟨q + 1, A + 20, _, HQ2, hlt, by go_num, by go_num, HN, HS2⟩
      case measure => simp [intOf]; omega
    · have HX := shide (HIN.out A d0.size dj wr hsj HS.out hA (Nat.le_refl _))
      have HN : Hid (BlkB (stT (ltOf cf) pos) pos d0 20 0 (insertionSort (ltOf cf) dj A d0.size)) := by
        have := HAD.out q dj HB.out (by rw [HQ.out]; exact hA) (by rw [HQ.out]; omega)
        rw [HQ.out] at this; exact this
      have hz : ¬ (A : Int) + 20 ≤ (d0.size : Int) := by omega
      clear HIN HA0 HAS HAD HB HS HQ
      go_wp2_with fail
      refine HX.out.mono ?_
      rintro e w1 ⟨rfl, h2⟩
      have HS2 := shide h2
      clear h2 HX
      generalize insertionSort (ltOf cf) dj A d0.size = d1 at *
      go_wp2
      go_loopw [6] (fun vs wr => ∃ (s : Nat) (dj : Array α), (0 < s ∧ s ≤ 2 * d0.size + 20) ∧ vs = .int .i64 s ∧ Hid (BlkB (stT (ltOf cf) pos) pos d0 s 0 dj) ∧ Hid (SWK (enc3 f) 3 w0 blk off dj wr)) (fun s _ => 2 * d0.size + 20 - (intOf s).toNat)
      case atStart => exact ⟨20, d1, ⟨by omega, by omega⟩, rfl, HN, HS2⟩
      case round =>
        clear HN HS2 hsj
        obtain ⟨s, dj, ⟨hs0, hs1⟩, rfl, HB, HS⟩ := hrel
        by_cases hls : s < d0.size
        · go_wp2
          go_loopw [7, 8] (fun va vb wr => ∃ (q A : Nat) (dj : Array α), Hid (A = q * (2 * s)) ∧ A ≤ d0.size ∧ va = .int .i64 A ∧ vb = .int .i64 (A + 2 * s : Nat) ∧ Hid (BlkB (stT (ltOf cf) pos) pos d0 s q dj) ∧ Hid (SWK (enc3 f) 3 w0 blk off dj wr)) (fun a _ _ => d0.size + 1 - (intOf a).toNat)
          case atStart => exact ⟨0, 0, dj, by show 0 = 0 * (2 * s); omega, Nat.zero_le _, rfl, by go_num, HB, HS⟩
          case round =>
            clear HB HS
            obtain ⟨q, A, dj, HQ, hA, rfl, rfl, HB, HS⟩ := hrel
            have hsj : dj.size = d0.size := HB.out.perm.1
            have HQ2 : Hid (A + 2 * s = (q + 1) * (2 * s)) := by
              show _ = _
              rw [HQ.out]; exact (Nat.succ_mul q (2 * s)).symm
            push_cast
            by_cases hlt : A + 2 * s ≤ d0.size
            · have HP : Hid (Mrg (stT (ltOf cf) pos) pos A (A + s) (A + 2 * s) dj) := by
                have := HB.out.mrg (b := A + 2 * s) (by rw [← HQ.out]; exact Nat.le_refl _) hlt (by rw [← HQ.out]; omega) hs0
                rw [← HQ.out] at this; exact this
              have HX := HMG.out (2 * s) A (A + s) (A + 2 * s) dj wr (by omega) (by omega) (by omega) hlt hsj HS.out HP.out
              push_cast at HX
              replace HX := shide HX
              have HN : Hid (∀ d', PermIn A (A + 2 * s) dj d' ∧ SortedIn (stT (ltOf cf) pos) A (A + 2 * s) d' → BlkB (stT (ltOf cf) pos) pos d0 s (q + 1) d') := fun d' h => by
                have e := HQ.out
                exact HB.out.succ (b := A + 2 * s) (by rw [← e]; omega) (by rw [← e]; omega) hs0 (by rw [← e]; exact h.1) (by rw [← e]; exact h.2)
              have hz : (A : Int) + 2 * (s : Int) ≤ (d0.size : Int) := by omega
              clear HMG HB HS HP HQ
              go_wp2_with fail
              refine HX.out.mono ?_
              rintro e w2 ⟨rfl, d2, h2, h3⟩
              have HN2 := shide (HN.out d2 h2)
              have HS2 := shide h3
              clear h2 h3 HX HN
              go_wp2
              go_roundw
              case rel => exact ⟨q + 1, A + 2 * s, d2, HQ2, hlt, by go_num, by go_num, HN2, HS2⟩
              case measure => simp [intOf]; omega
            · have hz : ¬ (A : Int) + 2 * (s : Int) ≤ (d0.size : Int) := by omega
              by_cases hm : A + s < d0.size
              · have HP : Hid (Mrg (stT (ltOf cf) pos) pos A (A + s) d0.size dj) := by
                  have := HB.out.mrg (b := d0.size) (by rw [← HQ.out]; omega) (Nat.le_refl _) (by rw [← HQ.out]; omega) hs0
                  rw [← HQ.out] at this; exact this
                have HX := HMG.out d0.size A (A + s) d0.size dj wr (by omega) (by omega) hm (Nat.le_refl _) hsj HS.out HP.out
                push_cast at HX
                replace HX := shide HX
                have HN : Hid (∀ d', PermIn A d0.size dj d' ∧ SortedIn (stT (ltOf cf) pos) A d0.size d' → BlkB (stT (ltOf cf) pos) pos d0 (2 * s) 0 d') := fun d' h => by
                  have e := HQ.out
                  have e2 := HQ2.out
                  have h5 := HB.out.succ (b := d0.size) (by rw [← e]; omega) (by rw [← e]; omega) hs0 (by rw [← e]; exact h.1) (by rw [← e]; exact h.2)
                  exact h5.done (by rw [← e2]; omega) hs0
                clear HMG HB HS HP HQ HQ2
                go_wp2_with fail
                refine HX.out.mono ?_
                rintro e w2 ⟨rfl, d2, h2, h3⟩
                have HN2 := shide (HN.out d2 h2)
                have HS2 := shide h3
                clear h2 h3 HX HN
                go_wp2
                go_roundw
                case rel => exact ⟨2 * s, d2, ⟨by omega, by omega⟩, by go_num, HN2, HS2⟩
                case measure => simp [intOf]; omega
              · have HN : Hid (BlkB (stT (ltOf cf) pos) pos d0 (2 * s) 0 dj) := by
                  have e := HQ.out
                  exact HB.out.done (by rw [← e]; omega) hs0
                clear HMG HB HQ HQ2
                go_wp2
                go_roundw
                case rel => exact ⟨2 * s, dj, ⟨by omega, by omega⟩, by go_num, HN, HS⟩
                case measure => simp [intOf]; omega
        · have HE := shide (HB.out.end (by omega))
          clear HB HMG
          go_wp2
          go_end0
          exact ⟨rfl, dj, HE.out, HS.out⟩
theorem sortStable_any {f : α → Int × Int × Int} {g : Nat} {cb : Array Value} {cf : α → α → Int} {w0 : World} {blk off : Nat} {d0 : Array α} (K : StK Try.prog f g cb cf w0 blk off d0) (hS : SWO (ltOf cf)) (pos : α → Nat) (cap : Nat) (W : World) (hw : SWK (enc3 f) 3 w0 blk off d0 W) (ha : AscP pos 0 d0.size d0) :
    Calls Try.prog 42 #[.slice (some ⟨blk, off, none⟩) d0.size cap, .func (.func g) #[] cb] W fun e w' => e = .returned (.tuple #[]) ∧ ∃ d', (PermIn 0 d0.size d0 d' ∧ SortedIn (stT (ltOf cf) pos) 0 d0.size d') ∧ SWK (enc3 f) 3 w0 blk off d' w' := by
  have HX := shide (stable_any K hS pos cap W hw ha)
  have hsm := K.small
  clear K hS hw ha
  go_enter Try.func42, Try.ntmps42
  go_wp2_with fail
  refine HX.out.mono ?_
  rintro e w1 ⟨rfl, d1, h2, h3⟩
  go_wp2
  go_end0
  exact ⟨rfl, d1, h2, h3⟩
end
end Go.Proofs.Ytidjjgiecaoboaa
