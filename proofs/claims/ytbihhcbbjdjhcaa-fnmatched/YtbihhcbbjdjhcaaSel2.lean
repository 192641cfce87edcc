/- Right selectors: spec.SelectorOk; impl's values of a term. -/
import Derived.Test.YtbihhcbbjdjhcaaSel
namespace Go.Proofs.Ytbihhcbbjdjhcaa
open Go.RowKit Go.BigFrame
set_option linter.unusedVariables false

theorem selB_bad {ts : List TD} {k : Nat} (hk : k < ts.length) (h : termB (ts[k]'hk) = false) : selB ts = false := by
  unfold selB; rw [decide_eq_false_iff_not]; intro g
  have := g.2 _ (List.getElem_mem hk)
  rw [h] at this; cases this
theorem selB_end {ts : List TD} (h : ∀ i (hi : i < ts.length), termB (ts[i]'hi) = true) : selB ts = decide (ts.length ≤ 8) := by
  unfold selB; rw [decide_eq_decide]
  refine ⟨fun g => g.1, fun g => ⟨g, fun t ht => ?_⟩⟩
  obtain ⟨i, hi, rfl⟩ := List.getElem_of_mem ht
  exact h i hi
theorem selB_long {ts : List TD} (h : 8 < ts.length) : selB ts = false := by unfold selB; rw [decide_eq_false_iff_not]; omega

theorem sselOk_any (a : Option Addr) (cap : Nat) (ts : List TD) (w : World) (hl : ts.length ≤ maxLen) (hz : okTerms ts) (hrow : termsOf w a ts) :
    Calls Try.prog 6 #[.slice a ts.length cap] w fun e w' => e = .returned (.bool (selB ts)) ∧ Below w.heap.size w w' := by
  unfold maxLen at hl
  have Hr := hide hrow
  have Hz := hide hz
  clear hrow hz
  go_enter Try.func6, Try.ntmps6
  go_wp2
  go_loopw [3] (fun i wr => ∃ (k : Nat), k ≤ ts.length ∧ i = .int .i64 k ∧ Hid (∀ j (hj : j < ts.length), j < k → termB (ts[j]'hj) = true) ∧ Below w.heap.size w wr) (fun i _ => ts.length - (intOf i).toNat)
  case atStart => exact ⟨0, Nat.zero_le _, rfl, fun j hj h => by omega, Below.refl _ _⟩
  case round =>
    obtain ⟨k, hk, rfl, Hx, hbw⟩ := hrel
    by_cases hlt : k < ts.length
    · obtain ⟨b, off, rfl, hat⟩ := Hr.out (by omega)
      obtain ⟨h0c, h1c, av, capv, h2c, h3c⟩ := (hat k hlt).below hbw
      have hz := (Hz.out _ (List.getElem_mem hlt))
      have Hb : Hid (termB (ts[k]'hlt) = false → selB ts = false) := fun h => selB_bad hlt h
      have Hs : Hid (termB (ts[k]'hlt) = true → ∀ j (hj : j < ts.length), j < k + 1 → termB (ts[j]'hj) = true) := fun h j hj hjk => by
        by_cases e : j = k
        · subst e; exact h
        · exact Hx.out j hj (by omega)
      have hcon := sterm_any (ts[k]'hlt) av capv wr hz.2.1 hz.1 hz.2.2 h3c.1
      clear hat Hx hz h3c
      generalize ts[k]'hlt = t at *
      obtain ⟨kd, key, ss⟩ := t
      simp only at h0c h1c h2c hcon
      cases hb : termB (kd, key, ss)
      · rw [hb] at hcon
        have Hcon := hide hcon
        have Hn := hide (Hb.out hb)
        clear Hb Hs hb hcon
        go_wp2_with fail
        refine (Hcon.out).mono ?_
        rintro e w1 ⟨rfl, hb1⟩
        go_wp2
        go_ret
        exact ⟨ret_bool Hn.out.symm, hbw.trans (hb1.mono hbw.size)⟩
      · rw [hb] at hcon
        have Hcon := hide hcon
        have Hn := hide (Hs.out hb)
        clear Hb Hs hb hcon
        go_wp2_with fail
        refine (Hcon.out).mono ?_
        rintro e w1 ⟨rfl, hb1⟩
        go_wp2
        go_roundw
        case rel => exact ⟨k + 1, by omega, by go_num, Hn, hbw.trans (hb1.mono hbw.size)⟩
        case measure => simp [intOf]; omega
    · have e : k = ts.length := by omega
      subst e
      have Hn : Hid (selB ts = decide (ts.length ≤ 8)) := selB_end fun i hi => Hx.out i hi hi
      clear Hx Hr Hz
      go_wp2
      go_ret
      exact ⟨ret_bool (by rw [Hn.out, Bool.eq_iff_iff]; simp; omega), hbw⟩

theorem ivals_any (a : Option Addr) (cap : Nat) (ss : List ByteArray) (w : World) (hl : ss.length ≤ maxLen) (hrow : strOf w a ss) :
    Calls Try.prog 36 #[.slice a ss.length cap] w fun e w' => e = .returned (.bool (decide (ss.length ≤ 6) && valsB ss)) ∧ Below w.heap.size w w' := by
  have Hcon := hide (fun (wx : World) (hx : Below w.heap.size w wx) => iasc_any a cap ss wx hl (hrow.below hx))
  unfold maxLen at hl
  clear hrow
  by_cases hbig : 6 < ss.length
  · have Hn : Hid ((decide (ss.length ≤ 6) && valsB ss) = false) := by show _ = _; rw [decide_eq_false (by omega)]; rfl
    have hbig' : (6 : Int) < (ss.length : Int) := by omega
    clear hbig Hcon
    go_enter Try.func36, Try.ntmps36
    go_wp2
    go_ret
    exact ⟨ret_bool Hn.out.symm, Below.refl _ _⟩
  have hbig' : (ss.length : Int) ≤ 6 := by omega
  have Hd : Hid ((decide (ss.length ≤ 6) && valsB ss) = valsB ss) := by show _ = _; rw [decide_eq_true (by omega)]; rfl
  generalize (decide (ss.length ≤ 6) && valsB ss) = R at *
  generalize valsB ss = V at *
  obtain rfl := Hd.out
  go_enter Try.func36, Try.ntmps36
  go_wp2_with fail
  refine (Hcon.out _ (Below.refl _ _)).mono ?_
  rintro e w1 ⟨rfl, hb1⟩
  go_wp2
  go_ret
  exact ⟨rfl, hb1⟩
end Go.Proofs.Ytbihhcbbjdjhcaa
