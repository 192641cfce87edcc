/- The library's stable sort at a row of structs of three numbers, walked: the merge in place. -/
import Derived.Test.YtidjjgiecaoboaaSrtW
namespace Go.Proofs.Ytidjjgiecaoboaa
open Go.RowKit Go.Lib Go.Sort Go.BigFrame
set_option linter.unusedVariables false
section
variable {α : Type} [Inhabited α]

set_option maxRecDepth 20000 in
set_option maxHeartbeats 12800000 in
theorem symMerge_any {f : α → Int × Int × Int} {g : Nat} {cb : Array Value} {cf : α → α → Int} {w0 : World} {blk off : Nat} {d0 : Array α} (K : StK Try.prog f g cb cf w0 blk off d0) (hS : SWO (ltOf cf)) (pos : α → Nat) (cap : Nat) : ∀ (N a m b : Nat) (dk : Array α) (W : World), b - a ≤ N → a < m → m < b → b ≤ d0.size → dk.size = d0.size → SWK (enc3 f) 3 w0 blk off dk W → Mrg (stT (ltOf cf) pos) pos a m b dk →
    Calls Try.prog 48 #[.slice (some ⟨blk, off, none⟩) d0.size cap, .int .i64 a, .int .i64 m, .int .i64 b, .func (.func g) #[] cb] W fun e w' => e = .returned (.tuple #[]) ∧ ∃ d', (PermIn a b dk d' ∧ SortedIn (stT (ltOf cf) pos) a b d') ∧ SWK (enc3 f) 3 w0 blk off d' w' := by
  intro N
  induction N with
  | zero => intro a m b dk W h1 h2 h3; omega
  | succ N ih =>
    intro a m b dk W hN ham hmb hb hs hw hp
    by_cases hm1 : m = a + 1
    · subst hm1; exact symMerge_one K hS pos a b cap dk W hs hw hmb hb hp
    by_cases hb1 : b = m + 1
    · subst hb1; exact symMerge_last K hS pos a m cap dk W hs hw (by omega) hb hp
    have hsm := K.small
    have HW := shide hw
    have eg := K.eg
    have mixed := stMixed
    obtain ⟨M, hM⟩ : ∃ M, (a + b) / 2 = M := ⟨_, rfl⟩
    have hMz : ((a : Int) + (b : Int)) / 2 = (M : Int) := by omega
    have hM1 : 2 * M ≤ a + b := by omega
    have hM2 : a + b < 2 * M + 2 := by omega
    have e0 : (((m : Int) - (a : Int)) == 1) = false := by rw [beq_eq_false_iff_ne]; omega
    have e1 : (((b : Int) - (m : Int)) == 1) = false := by rw [beq_eq_false_iff_ne]; omega
    have IH : Hid (∀ a m b dk W, b - a ≤ N → a < m → m < b → b ≤ d0.size → dk.size = d0.size → SWK (enc3 f) 3 w0 blk off dk W → Mrg (stT (ltOf cf) pos) pos a m b dk → _) := fun a m b dk W h1 h2 h3 h4 h5 h6 h7 => ih a m b dk W h1 h2 h3 h4 h5 h6 h7
    have HROT := shide (fun a m b dk W => rotate_any K a m b cap dk W)
    have FIN := shide (fun s E (q1 : a ≤ s) (q2 : s ≤ m) (q3 : m ≤ E) (q4 : E ≤ b) (q5 : M = s + (E - m)) => merge_tail (stT_swo hS) hp q1 q2 q3 q4 (by omega) q5)
    have LT : Hid (∀ h e, a ≤ h → h < m → m ≤ e → e < b → stT (ltOf cf) pos dk[e]! dk[h]! = decide (cf dk[e]! dk[h]! < 0)) := fun h e h1 h2 h3 h4 => stT_late (hp.2.2 h e h1 h2 h3 h4)
    clear hp hw hS ih hM
    by_cases hmM : M < m
    · have hmM' : (M : Int) < (m : Int) := by omega
      have hz0 : (M : Int) + (m : Int) - (b : Int) = ((M + m - b : Nat) : Int) := by omega
      obtain ⟨s0, hs0⟩ : ∃ s0, M + m - b = s0 := ⟨_, rfl⟩
      rw [hs0] at hz0
      go_enter Try.func48, Try.ntmps48
      go_wp2
      go_loopw [20, 21] (fun vi vj wr => ∃ (i j : Nat), (s0 ≤ i ∧ i ≤ j ∧ j ≤ M) ∧ vi = .int .i64 i ∧ vj = .int .i64 j ∧ Hid (i = s0 ∨ stT (ltOf cf) pos dk[M + m - i]! dk[i - 1]! = false) ∧ Hid (j = M ∨ stT (ltOf cf) pos dk[M + m - 1 - j]! dk[j]! = true) ∧ Hid (SWK (enc3 f) 3 w0 blk off dk wr)) (fun i j _ => (intOf j).toNat - (intOf i).toNat)
      case atStart => exact ⟨s0, M, ⟨by omega, by omega, by omega⟩, by first | rfl | go_num, rfl, .inl rfl, .inl rfl, HW.out⟩
      case round =>
        obtain ⟨i, j, ⟨h1, h2, h3⟩, rfl, rfl, HI, HJ, HS⟩ := hrel
        have hsj := hs
        by_cases hlt : i < j
        · obtain ⟨h, hh⟩ : ∃ h, (i + j) / 2 = h := ⟨_, rfl⟩
          have hz : ((i : Int) + (j : Int)) / 2 = (h : Int) := by omega
          obtain ⟨e, he⟩ : ∃ e, M + m - 1 - h = e := ⟨_, rfl⟩
          have hze : (M : Int) + (m : Int) - 1 - (h : Int) = (e : Int) := by omega
          have hwe : IntKind.i64.wrap (e : Int) = (e : Int) := by rw [IntKind.wrap_i64]; omega
          have HL : Hid (stT (ltOf cf) pos dk[e]! dk[h]! = decide (cf dk[e]! dk[h]! < 0)) := LT.out h e (by omega) (by omega) (by omega) (by omega)
          generalize hx : f dk[e]! = X at *
          generalize hy : f dk[h]! = Y at *
          obtain ⟨x0, x1, x2⟩ := X
          obtain ⟨y0, y1, y2⟩ := Y
          have bp : e < d0.size := by omega
          have bq : h < d0.size := by omega
          obtain ⟨i0, i1, i2⟩ := K.in3 HS.out hsj (e) (by omega) hx
          obtain ⟨j0, j1, j2⟩ := K.in3 HS.out hsj (h) (by omega) hy
          have hcg := K.cmp3 HS.out hsj hx hy
          have HG : Hid (∀ n os, SWK (enc3 f) 3 w0 blk off dk (grow (wr.drewN n) os)) := fun n os => HS.out.grown n os
          generalize cf dk[e]! dk[h]! = c at *
          clear hx hy

          by_cases hc : c < 0
          · have HJ2 : Hid (h = M ∨ stT (ltOf cf) pos dk[M + m - 1 - h]! dk[h]! = true) := .inr (by rw [he, HL.out]; exact decide_eq_true hc)
            have hcd : decide (c < 0) = true := decide_eq_true hc
            clear HL LT FIN HJ IH HROT
            go_wp2
            go_quiet_grown (first | (go_at_fn g; refine Calls.grown_of (hcg _ _)))
            go_wp2
            go_roundw
            case rel => exact ⟨i, h, ⟨by omega, by omega, by omega⟩, rfl, by go_num, HI, HJ2, HG.out _ _⟩
            case measure => simp [intOf]; omega
          · have HI2 : Hid (h + 1 = s0 ∨ stT (ltOf cf) pos dk[M + m - (h + 1)]! dk[h + 1 - 1]! = false) := .inr (by rw [Nat.add_sub_cancel, show M + m - (h + 1) = e by omega, HL.out]; exact decide_eq_false hc)
            have hcd : decide (c < 0) = false := decide_eq_false hc
            clear HL LT FIN HI IH HROT
            go_wp2
            go_quiet_grown (first | (go_at_fn g; refine Calls.grown_of (hcg _ _)))
            go_wp2
            go_roundw
            case rel => exact ⟨h + 1, j, ⟨by omega, by omega, by omega⟩, by go_num, rfl, HI2, HJ, HG.out _ _⟩
            case measure => simp [intOf]; omega
        · have e : j = i := by omega
          subst e
          clear HW
          obtain ⟨s, hjs⟩ : ∃ s, j = s := ⟨_, rfl⟩
          subst hjs
          obtain ⟨E, hE⟩ : ∃ E, M + m - j = E := ⟨_, rfl⟩
          have hze : (M : Int) + (m : Int) - (j : Int) = (E : Int) := by omega
          obtain ⟨p1, p2, p3⟩ := FIN.out j E (by omega) (by omega) (by omega) (by omega) (by omega) (fun q1 q2 => by
            rcases HI.out with q | q
            · omega
            · rw [hE] at q; exact q) (fun q1 q2 => by
            rcases HJ.out with q | q
            · omega
            · rw [show M + m - 1 - j = E - 1 by omega] at q; exact q)
          have P1 := shide p1
          have P2 := shide p2
          have P3 := shide p3
          clear p1 p2 p3 HI HJ LT FIN
          obtain ⟨s, hjs⟩ : ∃ s, s = j := ⟨_, rfl⟩
          subst hjs
          by_cases t1 : s < m
          · by_cases t2 : m < E
            · by_cases t3 : a < s
              · by_cases t4 : E < b
                · clear e0 e1
                  first | (exfalso; omega) | skip
                  all_goals
                    have HX := shide (HROT.out s m E dk wr hs HS.out (by omega) (by omega) (by omega))
                    go_wp2_with fail
                    refine HX.out.mono ?_
                    rintro e w1 ⟨rfl, d1, h1, h2⟩
                    have HR := shide h1
                    have HS1 := shide h2
                    clear h1 h2 HX
                    have HX := shide (IH.out a s M d1 w1 (by omega) (by omega) (by omega) (by omega) (HR.out.perm.1.trans hs) HS1.out (P1.out _ HR.out))
                    go_wp2_with fail
                    refine HX.out.mono ?_
                    rintro e w2 ⟨rfl, d2, h1, h2⟩
                    have HA := shide h1
                    have HS2 := shide h2
                    clear h1 h2 HX
                    have HX := shide (IH.out M E b d2 w2 (by omega) (by omega) (by omega) (by omega) (HA.out.1.1.trans (HR.out.perm.1.trans hs)) HS2.out (P2.out _ _ HR.out HA.out.1))
                    go_wp2_with fail
                    refine HX.out.mono ?_
                    rintro e w3 ⟨rfl, d3, h1, h2⟩
                    have HB := shide h1
                    have HS3 := shide h2
                    clear h1 h2 HX
                    go_wp2
                    go_end0
                    exact ⟨rfl, _, P3.out _ _ _ HR.out HA.out HB.out, HS3.out⟩
                · clear e0 e1
                  first | (exfalso; omega) | skip
                  all_goals
                    have HX := shide (HROT.out s m E dk wr hs HS.out (by omega) (by omega) (by omega))
                    go_wp2_with fail
                    refine HX.out.mono ?_
                    rintro e w1 ⟨rfl, d1, h1, h2⟩
                    have HR := shide h1
                    have HS1 := shide h2
                    clear h1 h2 HX
                    have HX := shide (IH.out a s M d1 w1 (by omega) (by omega) (by omega) (by omega) (HR.out.perm.1.trans hs) HS1.out (P1.out _ HR.out))
                    go_wp2_with fail
                    refine HX.out.mono ?_
                    rintro e w2 ⟨rfl, d2, h1, h2⟩
                    have HA := shide h1
                    have HS2 := shide h2
                    clear h1 h2 HX
                    have HB := shide ((P2.out _ _ HR.out HA.out.1).flat (by omega))
                    go_wp2
                    go_end0
                    exact ⟨rfl, _, P3.out _ _ _ HR.out HA.out HB.out, HS2.out⟩
              · by_cases t4 : E < b
                · clear e0 e1
                  first | (exfalso; omega) | skip
                  all_goals
                    have HX := shide (HROT.out s m E dk wr hs HS.out (by omega) (by omega) (by omega))
                    go_wp2_with fail
                    refine HX.out.mono ?_
                    rintro e w1 ⟨rfl, d1, h1, h2⟩
                    have HR := shide h1
                    have HS1 := shide h2
                    clear h1 h2 HX
                    have HA := shide ((P1.out _ HR.out).flat (by omega))
                    have HX := shide (IH.out M E b d1 w1 (by omega) (by omega) (by omega) (by omega) (HA.out.1.1.trans (HR.out.perm.1.trans hs)) HS1.out (P2.out _ _ HR.out HA.out.1))
                    go_wp2_with fail
                    refine HX.out.mono ?_
                    rintro e w3 ⟨rfl, d3, h1, h2⟩
                    have HB := shide h1
                    have HS3 := shide h2
                    clear h1 h2 HX
                    go_wp2
                    go_end0
                    exact ⟨rfl, _, P3.out _ _ _ HR.out HA.out HB.out, HS3.out⟩
                · clear e0 e1
                  first | (exfalso; omega) | skip
                  all_goals
                    have HX := shide (HROT.out s m E dk wr hs HS.out (by omega) (by omega) (by omega))
                    go_wp2_with fail
                    refine HX.out.mono ?_
                    rintro e w1 ⟨rfl, d1, h1, h2⟩
                    have HR := shide h1
                    have HS1 := shide h2
                    clear h1 h2 HX
                    have HA := shide ((P1.out _ HR.out).flat (by omega))
                    have HB := shide ((P2.out _ _ HR.out HA.out.1).flat (by omega))
                    go_wp2
                    go_end0
                    exact ⟨rfl, _, P3.out _ _ _ HR.out HA.out HB.out, HS1.out⟩
            · by_cases t3 : a < s
              · clear e0 e1
                first | (exfalso; omega) | skip
                all_goals
                  have HR : Hid (RotP dk s m E dk) := RotP.none (by omega) (by omega) (by omega)
                  have HA := shide ((P1.out _ HR.out).flat (by omega))
                  have HX := shide (IH.out M E b dk wr (by omega) (by omega) (by omega) (by omega) (HA.out.1.1.trans (HR.out.perm.1.trans hs)) HS.out (P2.out _ _ HR.out HA.out.1))
                  go_wp2_with fail
                  refine HX.out.mono ?_
                  rintro e w3 ⟨rfl, d3, h1, h2⟩
                  have HB := shide h1
                  have HS3 := shide h2
                  clear h1 h2 HX
                  go_wp2
                  go_end0
                  exact ⟨rfl, _, P3.out _ _ _ HR.out HA.out HB.out, HS3.out⟩
              · clear e0 e1
                first | (exfalso; omega) | skip
                all_goals
                  have HR : Hid (RotP dk s m E dk) := RotP.none (by omega) (by omega) (by omega)
                  have HA := shide ((P1.out _ HR.out).flat (by omega))
                  have HX := shide (IH.out M E b dk wr (by omega) (by omega) (by omega) (by omega) (HA.out.1.1.trans (HR.out.perm.1.trans hs)) HS.out (P2.out _ _ HR.out HA.out.1))
                  go_wp2_with fail
                  refine HX.out.mono ?_
                  rintro e w3 ⟨rfl, d3, h1, h2⟩
                  have HB := shide h1
                  have HS3 := shide h2
                  clear h1 h2 HX
                  go_wp2
                  go_end0
                  exact ⟨rfl, _, P3.out _ _ _ HR.out HA.out HB.out, HS3.out⟩
          · by_cases t2 : m < E
            · clear e0 e1
              first | (exfalso; omega) | skip
              all_goals
                have HR : Hid (RotP dk s m E dk) := RotP.none (by omega) (by omega) (by omega)
                have HX := shide (IH.out a s M dk wr (by omega) (by omega) (by omega) (by omega) (HR.out.perm.1.trans hs) HS.out (P1.out _ HR.out))
                go_wp2_with fail
                refine HX.out.mono ?_
                rintro e w2 ⟨rfl, d2, h1, h2⟩
                have HA := shide h1
                have HS2 := shide h2
                clear h1 h2 HX
                have HB := shide ((P2.out _ _ HR.out HA.out.1).flat (by omega))
                go_wp2
                go_end0
                exact ⟨rfl, _, P3.out _ _ _ HR.out HA.out HB.out, HS2.out⟩
            · clear e0 e1
              first | (exfalso; omega) | skip
              all_goals
                have HR : Hid (RotP dk s m E dk) := RotP.none (by omega) (by omega) (by omega)
                have HA := shide ((P1.out _ HR.out).flat (by omega))
                have HB := shide ((P2.out _ _ HR.out HA.out.1).flat (by omega))
                go_wp2
                go_end0
                exact ⟨rfl, _, P3.out _ _ _ HR.out HA.out HB.out, HS.out⟩
    · have hmM' : ¬ (M : Int) < (m : Int) := by omega
      go_enter Try.func48, Try.ntmps48
      go_wp2
      go_loopw [20, 21] (fun vi vj wr => ∃ (i j : Nat), (a ≤ i ∧ i ≤ j ∧ j ≤ m) ∧ vi = .int .i64 i ∧ vj = .int .i64 j ∧ Hid (i = a ∨ stT (ltOf cf) pos dk[M + m - i]! dk[i - 1]! = false) ∧ Hid (j = m ∨ stT (ltOf cf) pos dk[M + m - 1 - j]! dk[j]! = true) ∧ Hid (SWK (enc3 f) 3 w0 blk off dk wr)) (fun i j _ => (intOf j).toNat - (intOf i).toNat)
      case atStart => exact ⟨a, m, ⟨by omega, by omega, by omega⟩, rfl, rfl, .inl rfl, .inl rfl, HW.out⟩
      case round =>
        obtain ⟨i, j, ⟨h1, h2, h3⟩, rfl, rfl, HI, HJ, HS⟩ := hrel
        have hsj := hs
        by_cases hlt : i < j
        · obtain ⟨h, hh⟩ : ∃ h, (i + j) / 2 = h := ⟨_, rfl⟩
          have hz : ((i : Int) + (j : Int)) / 2 = (h : Int) := by omega
          obtain ⟨e, he⟩ : ∃ e, M + m - 1 - h = e := ⟨_, rfl⟩
          have hze : (M : Int) + (m : Int) - 1 - (h : Int) = (e : Int) := by omega
          have hwe : IntKind.i64.wrap (e : Int) = (e : Int) := by rw [IntKind.wrap_i64]; omega
          have HL : Hid (stT (ltOf cf) pos dk[e]! dk[h]! = decide (cf dk[e]! dk[h]! < 0)) := LT.out h e (by omega) (by omega) (by omega) (by omega)
          generalize hx : f dk[e]! = X at *
          generalize hy : f dk[h]! = Y at *
          obtain ⟨x0, x1, x2⟩ := X
          obtain ⟨y0, y1, y2⟩ := Y
          have bp : e < d0.size := by omega
          have bq : h < d0.size := by omega
          obtain ⟨i0, i1, i2⟩ := K.in3 HS.out hsj (e) (by omega) hx
          obtain ⟨j0, j1, j2⟩ := K.in3 HS.out hsj (h) (by omega) hy
          have hcg := K.cmp3 HS.out hsj hx hy
          have HG : Hid (∀ n os, SWK (enc3 f) 3 w0 blk off dk (grow (wr.drewN n) os)) := fun n os => HS.out.grown n os
          generalize cf dk[e]! dk[h]! = c at *
          clear hx hy

          by_cases hc : c < 0
          · have HJ2 : Hid (h = m ∨ stT (ltOf cf) pos dk[M + m - 1 - h]! dk[h]! = true) := .inr (by rw [he, HL.out]; exact decide_eq_true hc)
            have hcd : decide (c < 0) = true := decide_eq_true hc
            clear HL LT FIN HJ IH HROT
            go_wp2
            go_quiet_grown (first | (go_at_fn g; refine Calls.grown_of (hcg _ _)))
            go_wp2
            go_roundw
            case rel => exact ⟨i, h, ⟨by omega, by omega, by omega⟩, rfl, by go_num, HI, HJ2, HG.out _ _⟩
            case measure => simp [intOf]; omega
          · have HI2 : Hid (h + 1 = a ∨ stT (ltOf cf) pos dk[M + m - (h + 1)]! dk[h + 1 - 1]! = false) := .inr (by rw [Nat.add_sub_cancel, show M + m - (h + 1) = e by omega, HL.out]; exact decide_eq_false hc)
            have hcd : decide (c < 0) = false := decide_eq_false hc
            clear HL LT FIN HI IH HROT
            go_wp2
            go_quiet_grown (first | (go_at_fn g; refine Calls.grown_of (hcg _ _)))
            go_wp2
            go_roundw
            case rel => exact ⟨h + 1, j, ⟨by omega, by omega, by omega⟩, by go_num, rfl, HI2, HJ, HG.out _ _⟩
            case measure => simp [intOf]; omega
        · have e : j = i := by omega
          subst e
          clear HW
          obtain ⟨s, hjs⟩ : ∃ s, j = s := ⟨_, rfl⟩
          subst hjs
          obtain ⟨E, hE⟩ : ∃ E, M + m - j = E := ⟨_, rfl⟩
          have hze : (M : Int) + (m : Int) - (j : Int) = (E : Int) := by omega
          obtain ⟨p1, p2, p3⟩ := FIN.out j E (by omega) (by omega) (by omega) (by omega) (by omega) (fun q1 q2 => by
            rcases HI.out with q | q
            · omega
            · rw [hE] at q; exact q) (fun q1 q2 => by
            rcases HJ.out with q | q
            · omega
            · rw [show M + m - 1 - j = E - 1 by omega] at q; exact q)
          have P1 := shide p1
          have P2 := shide p2
          have P3 := shide p3
          clear p1 p2 p3 HI HJ LT FIN
          obtain ⟨s, hjs⟩ : ∃ s, s = j := ⟨_, rfl⟩
          subst hjs
          by_cases t1 : s < m
          · by_cases t2 : m < E
            · by_cases t3 : a < s
              · by_cases t4 : E < b
                · clear e0 e1
                  first | (exfalso; omega) | skip
                  all_goals
                    have HX := shide (HROT.out s m E dk wr hs HS.out (by omega) (by omega) (by omega))
                    go_wp2_with fail
                    refine HX.out.mono ?_
                    rintro e w1 ⟨rfl, d1, h1, h2⟩
                    have HR := shide h1
                    have HS1 := shide h2
                    clear h1 h2 HX
                    have HX := shide (IH.out a s M d1 w1 (by omega) (by omega) (by omega) (by omega) (HR.out.perm.1.trans hs) HS1.out (P1.out _ HR.out))
                    go_wp2_with fail
                    refine HX.out.mono ?_
                    rintro e w2 ⟨rfl, d2, h1, h2⟩
                    have HA := shide h1
                    have HS2 := shide h2
                    clear h1 h2 HX
                    have HX := shide (IH.out M E b d2 w2 (by omega) (by omega) (by omega) (by omega) (HA.out.1.1.trans (HR.out.perm.1.trans hs)) HS2.out (P2.out _ _ HR.out HA.out.1))
                    go_wp2_with fail
                    refine HX.out.mono ?_
                    rintro e w3 ⟨rfl, d3, h1, h2⟩
                    have HB := shide h1
                    have HS3 := shide h2
                    clear h1 h2 HX
                    go_wp2
                    go_end0
                    exact ⟨rfl, _, P3.out _ _ _ HR.out HA.out HB.out, HS3.out⟩
                · clear e0 e1
                  first | (exfalso; omega) | skip
                  all_goals
                    have HX := shide (HROT.out s m E dk wr hs HS.out (by omega) (by omega) (by omega))
                    go_wp2_with fail
                    refine HX.out.mono ?_
                    rintro e w1 ⟨rfl, d1, h1, h2⟩
                    have HR := shide h1
                    have HS1 := shide h2
                    clear h1 h2 HX
                    have HX := shide (IH.out a s M d1 w1 (by omega) (by omega) (by omega) (by omega) (HR.out.perm.1.trans hs) HS1.out (P1.out _ HR.out))
                    go_wp2_with fail
                    refine HX.out.mono ?_
                    rintro e w2 ⟨rfl, d2, h1, h2⟩
                    have HA := shide h1
                    have HS2 := shide h2
                    clear h1 h2 HX
                    have HB := shide ((P2.out _ _ HR.out HA.out.1).flat (by omega))
                    go_wp2
                    go_end0
                    exact ⟨rfl, _, P3.out _ _ _ HR.out HA.out HB.out, HS2.out⟩
              · by_cases t4 : E < b
                · clear e0 e1
                  first | (exfalso; omega) | skip
                  all_goals
                    have HX := shide (HROT.out s m E dk wr hs HS.out (by omega) (by omega) (by omega))
                    go_wp2_with fail
                    refine HX.out.mono ?_
                    rintro e w1 ⟨rfl, d1, h1, h2⟩
                    have HR := shide h1
                    have HS1 := shide h2
                    clear h1 h2 HX
                    have HA := shide ((P1.out _ HR.out).flat (by omega))
                    have HX := shide (IH.out M E b d1 w1 (by omega) (by omega) (by omega) (by omega) (HA.out.1.1.trans (HR.out.perm.1.trans hs)) HS1.out (P2.out _ _ HR.out HA.out.1))
                    go_wp2_with fail
                    refine HX.out.mono ?_
                    rintro e w3 ⟨rfl, d3, h1, h2⟩
                    have HB := shide h1
                    have HS3 := shide h2
                    clear h1 h2 HX
                    go_wp2
                    go_end0
                    exact ⟨rfl, _, P3.out _ _ _ HR.out HA.out HB.out, HS3.out⟩
                · clear e0 e1
                  first | (exfalso; omega) | skip
                  all_goals
                    have HX := shide (HROT.out s m E dk wr hs HS.out (by omega) (by omega) (by omega))
                    go_wp2_with fail
                    refine HX.out.mono ?_
                    rintro e w1 ⟨rfl, d1, h1, h2⟩
                    have HR := shide h1
                    have HS1 := shide h2
                    clear h1 h2 HX
                    have HA := shide ((P1.out _ HR.out).flat (by omega))
                    have HB := shide ((P2.out _ _ HR.out HA.out.1).flat (by omega))
                    go_wp2
                    go_end0
                    exact ⟨rfl, _, P3.out _ _ _ HR.out HA.out HB.out, HS1.out⟩
            · by_cases t3 : a < s
              · clear e0 e1
                first | (exfalso; omega) | skip
                all_goals
                  have HR : Hid (RotP dk s m E dk) := RotP.none (by omega) (by omega) (by omega)
                  have HA := shide ((P1.out _ HR.out).flat (by omega))
                  have HX := shide (IH.out M E b dk wr (by omega) (by omega) (by omega) (by omega) (HA.out.1.1.trans (HR.out.perm.1.trans hs)) HS.out (P2.out _ _ HR.out HA.out.1))
                  go_wp2_with fail
                  refine HX.out.mono ?_
                  rintro e w3 ⟨rfl, d3, h1, h2⟩
                  have HB := shide h1
                  have HS3 := shide h2
                  clear h1 h2 HX
                  go_wp2
                  go_end0
                  exact ⟨rfl, _, P3.out _ _ _ HR.out HA.out HB.out, HS3.out⟩
              · clear e0 e1
                first | (exfalso; omega) | skip
                all_goals
                  have HR : Hid (RotP dk s m E dk) := RotP.none (by omega) (by omega) (by omega)
                  have HA := shide ((P1.out _ HR.out).flat (by omega))
                  have HX := shide (IH.out M E b dk wr (by omega) (by omega) (by omega) (by omega) (HA.out.1.1.trans (HR.out.perm.1.trans hs)) HS.out (P2.out _ _ HR.out HA.out.1))
                  go_wp2_with fail
                  refine HX.out.mono ?_
                  rintro e w3 ⟨rfl, d3, h1, h2⟩
                  have HB := shide h1
                  have HS3 := shide h2
                  clear h1 h2 HX
                  go_wp2
                  go_end0
                  exact ⟨rfl, _, P3.out _ _ _ HR.out HA.out HB.out, HS3.out⟩
          · by_cases t2 : m < E
            · clear e0 e1
              first | (exfalso; omega) | skip
              all_goals
                have HR : Hid (RotP dk s m E dk) := RotP.none (by omega) (by omega) (by omega)
                have HX := shide (IH.out a s M dk wr (by omega) (by omega) (by omega) (by omega) (HR.out.perm.1.trans hs) HS.out (P1.out _ HR.out))
                go_wp2_with fail
                refine HX.out.mono ?_
                rintro e w2 ⟨rfl, d2, h1, h2⟩
                have HA := shide h1
                have HS2 := shide h2
                clear h1 h2 HX
                have HB := shide ((P2.out _ _ HR.out HA.out.1).flat (by omega))
                go_wp2
                go_end0
                exact ⟨rfl, _, P3.out _ _ _ HR.out HA.out HB.out, HS2.out⟩
            · clear e0 e1
              first | (exfalso; omega) | skip
              all_goals
                have HR : Hid (RotP dk s m E dk) := RotP.none (by omega) (by omega) (by omega)
                have HA := shide ((P1.out _ HR.out).flat (by omega))
                have HB := shide ((P2.out _ _ HR.out HA.out.1).flat (by omega))
                go_wp2
                go_end0
                exact ⟨rfl, _, P3.out _ _ _ HR.out HA.out HB.out, HS.out⟩
end
end Go.Proofs.Ytidjjgiecaoboaa
