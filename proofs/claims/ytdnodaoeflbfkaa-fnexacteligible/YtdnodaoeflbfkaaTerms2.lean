/- Whether two slices of terms are the same. -/
import Derived.Test.YtdnodaoeflbfkaaTerms
namespace Go.Proofs.Ytdnodaoeflbfkaa
open Go.RowKit
set_option linter.unusedVariables false

theorem eqTerm_any (t t' : TD) (a a' : Option Addr) (cap cap' : Nat) (w : World) (hl : t.2.2.length ≤ maxLen) (hl' : t'.2.2.length ≤ maxLen) (hrow : strOf w a t.2.2) (hrow' : strOf w a' t'.2.2) :
    Calls Try.prog 149 #[.agg #[.int .i64 t.1, .string t.2.1, .slice a t.2.2.length cap], .agg #[.int .i64 t'.1, .string t'.2.1, .slice a' t'.2.2.length cap']] w fun e w' => e = .returned (.bool (decide (t = t'))) ∧ Below w.heap.size w w' := by
  obtain ⟨kd, key, ss⟩ := t
  obtain ⟨kd', key', ss'⟩ := t'
  simp only at hl hl' hrow hrow' ⊢
  have Hr := hide hrow
  have Hr' := hide hrow'
  clear hrow hrow'
  have hcon : ∀ wx, Below w.heap.size w wx → Calls Try.prog 52 #[.slice a ss.length cap, .slice a' ss'.length cap'] wx fun e w' => e = .returned (.bool (decide (ss = ss'))) ∧ Below w.heap.size w w' :=
      fun wx hx => (eqStringS_any a a' cap cap' ss ss' wx hl hl' (Hr.out.below hx) (Hr'.out.below hx)).mono fun e w' h => ⟨h.1, hx.trans (h.2.mono hx.size)⟩
  have Hcon := hide hcon
  clear hcon
  have he := beq_str key key'
  by_cases c1 : kd = kd'
  · have hb : (kd != kd') = false := by rw [bne_eq_false_iff_eq]; exact c1
    by_cases c2 : key = key'
    · rw [decide_eq_true c2] at he
      have E : Hid (decide ((kd, key, ss) = (kd', key', ss')) = decide (ss = ss')) := by simp [Hid, c1, c2]
      clear c1 c2
      generalize decide (ss = ss') = q at *
      go_enter Try.func149, Try.ntmps149
      go_wp2_with fail
      refine (Hcon.out _ (((Below.refl _ _).alloc (by simp) _).alloc (by simp) _)).mono ?_
      rintro e w1 ⟨rfl, hb1⟩
      cases q
      all_goals
        go_wp2
        go_ret
        exact ⟨ret_bool E.out.symm, hb1⟩
    · rw [decide_eq_false c2] at he
      have E : Hid (decide ((kd, key, ss) = (kd', key', ss')) = false) := by simp [Hid, c2]
      clear c1 c2
      go_enter Try.func149, Try.ntmps149
      go_wp2
      go_ret
      exact ⟨ret_bool E.out.symm, (((Below.refl _ _).alloc (by simp) _).alloc (by simp) _)⟩
  · have hb : (kd != kd') = true := by rw [bne_iff_ne]; exact c1
    have E : Hid (decide ((kd, key, ss) = (kd', key', ss')) = false) := by simp [Hid, c1]
    clear c1 he
    go_enter Try.func149, Try.ntmps149
    go_wp2
    go_ret
    exact ⟨ret_bool E.out.symm, (((Below.refl _ _).alloc (by simp) _).alloc (by simp) _)⟩

theorem eqTermS_any (a a' : Option Addr) (cap cap' : Nat) (ls ls' : List TD) (w : World) (hl : ls.length ≤ maxLen) (hl' : ls'.length ≤ maxLen) (hz : ∀ t ∈ ls, t.2.2.length ≤ maxLen) (hz' : ∀ t ∈ ls', t.2.2.length ≤ maxLen) (hrow : termsOf w a ls) (hrow' : termsOf w a' ls') :
    Calls Try.prog 75 #[.slice a ls.length cap, .slice a' ls'.length cap'] w fun e w' => e = .returned (.bool (decide (ls = ls'))) ∧ Below w.heap.size w w' := by
  unfold maxLen at hl hl'
  have Hr := hide hrow
  have Hr' := hide hrow'
  have Hz := hide hz
  have Hz' := hide hz'
  clear hrow hrow' hz hz'
  by_cases hll : ls.length = ls'.length
  · have hb0 : ((ls.length : Int) != (ls'.length : Int)) = false := by rw [bne_eq_false_iff_eq]; omega
    have Hl := hide hll
    have hle : ls.length ≤ ls'.length := by omega
    have hge : ls'.length ≤ ls.length := by omega
    clear hll
    go_enter Try.func75, Try.ntmps75
    go_wp2
    go_loopw [5] (fun i wr => ∃ (k : Nat), k ≤ ls.length ∧ i = .int .i64 k ∧ Hid (∀ j, j < k → ls[j]? = ls'[j]?) ∧ Below w.heap.size w wr) (fun i _ => ls.length - (intOf i).toNat)
    case atStart => exact ⟨0, Nat.zero_le _, rfl, fun j hj => by omega, Below.refl _ _⟩
    case round =>
      obtain ⟨k, hk, rfl, Hx, hbw⟩ := hrel
      by_cases hlt : k < ls.length
      · have hlt' : k < ls'.length := by omega
        obtain ⟨b, off, rfl, hat⟩ := Hr.out (by omega)
        obtain ⟨b', off', rfl, hat'⟩ := Hr'.out (by omega)
        obtain ⟨h0c, h1c, av, capv, h2c, h3c⟩ := (hat k hlt).below hbw
        obtain ⟨h0c', h1c', av', capv', h2c', h3c'⟩ := (hat' k hlt').below hbw
        have Hg : Hid (ls[k]? = some ls[k] ∧ ls'[k]? = some ls'[k]) := ⟨List.getElem?_eq_getElem _, List.getElem?_eq_getElem _⟩
        have z := Hz.out _ (List.getElem_mem hlt)
        have z' := Hz'.out _ (List.getElem_mem hlt')
        have hcon : ∀ wx, Below wr.heap.size wr wx → Calls Try.prog 149 #[.agg #[.int .i64 (ls[k]'hlt).1, .string (ls[k]'hlt).2.1, .slice av (ls[k]'hlt).2.2.length capv], .agg #[.int .i64 (ls'[k]'hlt').1, .string (ls'[k]'hlt').2.1, .slice av' (ls'[k]'hlt').2.2.length capv']] wx fun e w' => e = .returned (.bool (decide ((ls[k]'hlt) = (ls'[k]'hlt')))) ∧ Hid (Below w.heap.size w w') :=
          fun wx hx => (eqTerm_any (ls[k]'hlt) (ls'[k]'hlt') av av' capv capv' wx z z' (h3c.1.below hx) (h3c'.1.below hx)).mono fun e w' h => ⟨h.1, hbw.trans ((hx.trans (h.2.mono hx.size)).mono hbw.size)⟩
        have Hcon := hide hcon
        generalize ls[k]'hlt = K at *
        generalize ls'[k]'hlt' = K' at *
        clear hat hat' hcon h3c h3c' z z'
        obtain ⟨kd, key, ss⟩ := K
        obtain ⟨kd', key', ss'⟩ := K'
        simp only at h0c h1c h2c h0c' h1c' h2c'
        by_cases hq : (kd, key, ss) = (kd', key', ss')
        · have Hn : Hid (∀ j, j < k + 1 → ls[j]? = ls'[j]?) := by
            intro j hj
            by_cases e : j = k
            · rw [e, Hg.out.1, Hg.out.2, hq]
            · exact Hx.out j (by omega)
          rw [decide_eq_true hq] at Hcon
          clear hq Hg Hx
          go_wp2
          go_region_with (go_at_call 149; refine (Hcon.out _ (by repeat (first | exact Below.refl _ _ | refine Below.drew ?_ | refine below_drewN ?_ _))).mono ?_; rintro e w2 ⟨rfl, hb2⟩)
          all_goals go_wp2
          all_goals (
            go_roundw
            case rel => exact ⟨k + 1, by omega, by go_num, Hn, by repeat (first | exact hb2.out | refine Below.drew ?_ | refine below_drewN ?_ _)⟩
            case measure => simp [intOf]; omega)
        · have Hn : Hid (decide (ls = ls') = false) := by
            show _ = _
            rw [decide_eq_false_iff_not]
            rintro rfl
            exact hq (by rw [Hg.out.1] at Hg; exact Option.some.inj Hg.out.2)
          rw [decide_eq_false hq] at Hcon
          clear hq Hg Hx
          go_wp2
          go_region_with (go_at_call 149; refine (Hcon.out _ (by repeat (first | exact Below.refl _ _ | refine Below.drew ?_ | refine below_drewN ?_ _))).mono ?_; rintro e w2 ⟨rfl, hb2⟩)
          all_goals go_wp2
          all_goals go_ret
          all_goals exact ⟨ret_bool Hn.out.symm, by repeat (first | exact hb2.out | refine Below.drew ?_ | refine below_drewN ?_ _)⟩
      · have Hn : Hid (decide (ls = ls') = true) := by
          show _ = _
          rw [decide_eq_true_eq]
          apply List.ext_getElem?
          intro j
          by_cases hj : j < k
          · exact Hx.out j hj
          · rw [List.getElem?_eq_none (by omega), List.getElem?_eq_none (by omega)]
        have e : k = ls.length := by omega
        subst e
        clear Hx
        go_wp2
        go_ret
        exact ⟨ret_bool Hn.out.symm, hbw⟩
  · have hb0 : ((ls.length : Int) != (ls'.length : Int)) = true := by rw [bne_iff_ne]; omega
    have Hn : Hid (decide (ls = ls') = false) := by
      show _ = _
      rw [decide_eq_false_iff_not]
      rintro rfl
      exact hll rfl
    clear hll
    go_enter Try.func75, Try.ntmps75
    go_wp2
    go_ret
    exact ⟨ret_bool Hn.out.symm, Below.refl _ _⟩
end Go.Proofs.Ytdnodaoeflbfkaa
