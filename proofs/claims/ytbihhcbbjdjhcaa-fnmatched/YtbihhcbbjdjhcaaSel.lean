/- Right terms: what spec and impl ask of a term's values and of a term. -/
import Derived.Test.YtbihhcbbjdjhcaaTerms2
import Derived.Test.YtbihhcbbjdjhcaaLabs4
import Derived.Test.YtbihhcbbjdjhcaaSelV
namespace Go.Proofs.Ytbihhcbbjdjhcaa
open Go.RowKit Go.BigFrame
set_option linter.unusedVariables false

def kindB (kd : Int) (n : Nat) : Bool := decide (((kd = 1 ∨ kd = 2) ∧ n = 1) ∨ (kd = 3 ∧ 1 ≤ n ∧ n ≤ 6) ∨ ((kd = 4 ∨ kd = 5) ∧ n = 0))
def termB (t : TD) : Bool := valsB t.2.2 && nameB t.2.1 && kindB t.1 t.2.2.length
def selB (ts : List TD) : Bool := decide (ts.length ≤ 8 ∧ ∀ t ∈ ts, termB t = true)
theorem kinds (kd : Int) : ((kd == 1) = true ∧ Hid (∀ n : Nat, kindB kd n = ((n : Int) == 1))) ∨ ((kd == 1) = false ∧ (kd == 2) = true ∧ Hid (∀ n : Nat, kindB kd n = ((n : Int) == 1))) ∨
    ((kd == 1) = false ∧ (kd == 2) = false ∧ (kd == 3) = true ∧ Hid (∀ n : Nat, kindB kd n = inB (n : Int) 1 6)) ∨
    ((kd == 1) = false ∧ (kd == 2) = false ∧ (kd == 3) = false ∧ (kd == 4) = true ∧ Hid (∀ n : Nat, kindB kd n = ((n : Int) == 0))) ∨
    ((kd == 1) = false ∧ (kd == 2) = false ∧ (kd == 3) = false ∧ (kd == 4) = false ∧ (kd == 5) = true ∧ Hid (∀ n : Nat, kindB kd n = ((n : Int) == 0))) ∨
    ((kd == 1) = false ∧ (kd == 2) = false ∧ (kd == 3) = false ∧ (kd == 4) = false ∧ (kd == 5) = false ∧ Hid (∀ n : Nat, kindB kd n = false)) := by
  have e : ∀ n : Nat, ∀ b : Bool, kindB kd n = b ↔ (b = true ↔ (((kd = 1 ∨ kd = 2) ∧ n = 1) ∨ (kd = 3 ∧ 1 ≤ n ∧ n ≤ 6) ∨ ((kd = 4 ∨ kd = 5) ∧ n = 0))) := fun n b => by
    unfold kindB; rw [Bool.eq_iff_iff, decide_eq_true_eq]; exact ⟨fun h => h.symm, fun h => h.symm⟩
  simp only [Hid, e, inB, beq_iff_eq, beq_eq_false_iff_ne, decide_eq_true_eq]
  by_cases h1 : kd = 1
  · left; exact ⟨h1, fun n => by omega⟩
  by_cases h2 : kd = 2
  · right; left; exact ⟨h1, h2, fun n => by omega⟩
  by_cases h3 : kd = 3
  · right; right; left; exact ⟨h1, h2, h3, fun n => by omega⟩
  by_cases h4 : kd = 4
  · right; right; right; left; exact ⟨h1, h2, h3, h4, fun n => by omega⟩
  by_cases h5 : kd = 5
  · right; right; right; right; left; exact ⟨h1, h2, h3, h4, h5, fun n => by omega⟩
  · right; right; right; right; right; exact ⟨h1, h2, h3, h4, h5, fun n => by simp; omega⟩

set_option maxHeartbeats 800000 in
theorem sterm_any (t : TD) (a : Option Addr) (cap : Nat) (w : World) (hl : t.2.2.length ≤ maxLen) (hk : t.2.1.size ≤ maxLen) (hz : okStrs t.2.2) (hrow : strOf w a t.2.2) :
    Calls Try.prog 15 #[.agg #[.int .i64 t.1, .string t.2.1, .slice a t.2.2.length cap]] w fun e w' => e = .returned (.bool (termB t)) ∧ Below w.heap.size w w' := by
  obtain ⟨kd, key, ss⟩ := t
  simp only at hl hk hz hrow ⊢
  unfold maxLen at hl
  have Hr := hide hrow
  have Hk := hide hk
  have Hz : Hid (∀ i, (ssAt ss i).size ≤ maxLen) := fun i => by
    unfold ssAt
    by_cases hi : i < ss.length
    · rw [List.getElem?_eq_getElem hi]; exact hz _ (List.getElem_mem hi)
    · rw [List.getElem?_eq_none (by omega)]; exact Nat.zero_le _
  clear hrow hz hk
  go_enter Try.func15, Try.ntmps15
  go_wp2
  go_loopw [4] (fun i wr => ∃ (k : Nat), k ≤ ss.length ∧ i = .int .i64 k ∧ Hid (∀ j, j < k → okV ss j) ∧ wr.cell? ⟨w.heap.size, 0, none⟩ = some (.int .i64 kd) ∧ wr.cell? ⟨w.heap.size, 1, none⟩ = some (.string key) ∧ wr.cell? ⟨w.heap.size, 2, none⟩ = some (.slice a ss.length cap) ∧ Below w.heap.size w wr) (fun i _ => ss.length - (intOf i).toNat)
  case atStart => exact ⟨0, Nat.zero_le _, rfl, fun j hj => by omega, by simp, by simp, by simp, (Below.refl _ _).alloc (by simp) _⟩
  case round =>
    obtain ⟨k, hk, rfl, Hx, b0, b1, b2, hbw⟩ := hrel
    by_cases hlt : k < ss.length
    · obtain ⟨b, off, rfl, hat⟩ := Hr.out (by omega)
      have hc := strAt_cells hat
      have hbb : b < w.heap.size := World.block_lt_of_cell? _ _ (hat k hlt)
      have c0 := (hbw.cell (p := ⟨b, off + k, none⟩) hbb).trans (hc k hlt)
      have cp : 0 < k → wr.cell? ⟨b, off + (k - 1), none⟩ = some (.string (ssAt ss (k - 1))) := fun h => (hbw.cell (p := ⟨b, off + (k - 1), none⟩) hbb).trans (hc (k - 1) (by omega))
      have hzK := Hz.out k
      have Hs : Hid (okV ss k → ∀ j, j < k + 1 → okV ss j) := fun h => okV_succ Hx.out h
      have Hb : Hid (¬ okV ss k → termB (kd, key, ss) = false) := fun h => by show (valsB ss && _ && _) = false; rw [valsB_bad hlt h]; rfl
      have hcs := okV_cases ss k
      clear hat hc Hx
      generalize ssAt ss k = K at *
      generalize ssAt ss (k - 1) = P at *
      have hK := fun wx => (sname_any K wx hzK)
      clear hzK
      rcases hcs with ⟨h1, hok⟩ | ⟨h1, h3, hok⟩ | ⟨h1, h3, h4, hok⟩ | ⟨h1, h3, h4, hok⟩
      · rw [h1] at hK
        have HK := hide hK
        have Hn := hide (Hb.out hok.out)
        clear hK h1 cp Hs Hb Hz Hr
        go_wp2
        go_quiet ((go_at_call 16; exact Calls.quiet_of_same (HK.out _)))
        go_wp2
        go_ret
        exact ⟨ret_bool Hn.out.symm, below_drewN hbw _⟩
      · rw [h1] at hK
        have HK := hide hK
        have hk0 : k = 0 := h3.out
        have h3' : decide ((0 : Int) < (k : Int)) = false := by rw [decide_eq_false_iff_not]; omega
        have h3'' : decide (0 < k) = false := by rw [decide_eq_false_iff_not]; omega
        have h3a : (k : Int) ≤ 0 := by omega
        have Hn := hide (Hs.out hok.out)
        clear hK h1 cp h3 hk0 Hs Hb Hz Hr
        go_wp2
        go_quiet ((go_at_call 16; exact Calls.quiet_of_same (HK.out _)))
        go_wp2
        go_roundw
        case rel => exact ⟨k + 1, by omega, by go_num, Hn, b0, b1, b2, below_drewN hbw _⟩
        case measure => simp [intOf]; omega
      · rw [h1] at hK
        have HK := hide hK
        have cp := cp h3
        have h3' : (0 : Int) < (k : Int) := by omega
        have Hn := hide (Hs.out hok.out)
        clear hK h1 Hs Hb Hz Hr
        go_wp2
        go_quiet ((go_at_call 16; exact Calls.quiet_of_same (HK.out _)))
        go_wp2
        go_roundw
        case rel => exact ⟨k + 1, by omega, by go_num, Hn, b0, b1, b2, below_drewN hbw _⟩
        case measure => simp [intOf]; omega
      · rw [h1] at hK
        have HK := hide hK
        have cp := cp h3
        have h3' : (0 : Int) < (k : Int) := by omega
        have Hn := hide (Hb.out hok.out)
        clear hK h1 Hs Hb Hz Hr
        go_wp2
        go_quiet ((go_at_call 16; exact Calls.quiet_of_same (HK.out _)))
        go_wp2
        go_ret
        exact ⟨ret_bool Hn.out.symm, below_drewN hbw _⟩
    · have e : k = ss.length := by omega
      subst e
      have Hv : Hid (termB (kd, key, ss) = (nameB key && kindB kd ss.length)) := by show (valsB ss && _ && _) = _; rw [valsB_end Hx.out]; rfl
      have hK := fun wx => (sname_any key wx Hk.out)
      clear Hx Hr Hz
      generalize hn : ss.length = n at *
      have Hn := hide hn
      clear hn
      cases hb : nameB key
      · rw [hb] at hK Hv
        have HK := hide hK
        clear hK hb
        go_wp2_with fail
        refine (HK.out _).mono ?_
        rintro e w1 ⟨rfl, rfl⟩
        go_wp2
        go_ret
        exact ⟨ret_bool Hv.out.symm, hbw⟩
      · rw [hb] at hK Hv
        have HK := hide hK
        clear hK hb
        go_wp2_with fail
        refine (HK.out _).mono ?_
        rintro e w1 ⟨rfl, rfl⟩
        rcases kinds kd with ⟨q1, hq⟩ | ⟨q1, q2, hq⟩ | ⟨q1, q2, q3, hq⟩ | ⟨q1, q2, q3, q4, hq⟩ | ⟨q1, q2, q3, q4, q5, hq⟩ | ⟨q1, q2, q3, q4, q5, hq⟩
        · go_wp2
          go_ret
          exact ⟨ret_bool (by rw [Hv.out, hq.out]; rfl), hbw⟩
        · go_wp2
          go_ret
          exact ⟨ret_bool (by rw [Hv.out, hq.out]; rfl), hbw⟩
        · go_wp2_with (go_at_call 27; refine (l1In_any _ _ _ _).mono ?_; rintro e w' ⟨rfl, rfl⟩)
          go_ret
          exact ⟨ret_bool (by rw [Hv.out, hq.out]; rfl), hbw⟩
        · go_wp2
          go_ret
          exact ⟨ret_bool (by rw [Hv.out, hq.out]; rfl), hbw⟩
        · go_wp2
          go_ret
          exact ⟨ret_bool (by rw [Hv.out, hq.out]; rfl), hbw⟩
        · go_wp2
          go_ret
          exact ⟨ret_bool (by rw [Hv.out, hq.out]; rfl), hbw⟩
end Go.Proofs.Ytbihhcbbjdjhcaa
