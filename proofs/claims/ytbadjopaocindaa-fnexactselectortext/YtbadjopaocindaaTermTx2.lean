/- impl.termText; both SelectorText. -/
import Derived.Test.YtbadjopaocindaaTermTx
import Derived.Deep.QuietTactic
namespace Go.Proofs.Ytbadjopaocindaa
open Go.RowKit Go.BigFrame
set_option linter.unusedVariables false

theorem no_hasTerm_lacksTerm (W : World) (v : Value) : (Instr.typeAssert (.iface 139 v) 81 140 true).run Try.prog W = .ok (.tuple #[.agg #[.string ⟨#[]⟩], .bool false]) W := by kernel_rfl
set_option maxRecDepth 100000 in
set_option maxHeartbeats 400000 in
theorem itext_any (t : TD) (u : Value) (a : Option Addr) (cap : Nat) (w : World) (ht : termB t = true) (hcap : t.2.2.length ≤ cap) (hu : isV u t a cap) (hrow : strOf w a t.2.2) :
    Calls Try.prog 77 #[u] w fun e w' => e = .returned (.string (termTx t)) ∧ Below w.heap.size w w' := by
  obtain ⟨kd, key, ss⟩ := t
  obtain ⟨hv, hn, hk⟩ := termB_parts ht
  simp only at hv hn hk hrow hcap
  have hsk := nameB_sz hn
  have hsv := valsB_sz hv
  have h6 := kindB_le hk
  have hsz : (ssAt ss 0).size ≤ 20 := by
    by_cases h0 : 0 < ss.length
    · rw [ssAt_get h0]; exact hsv _ (List.getElem_mem _)
    · unfold ssAt; rw [List.getElem?_eq_none (by omega)]; exact Nat.zero_le _
  have Hr := hide hrow
  clear hrow ht hv hn hk
  rcases hu with ⟨h1, rfl⟩ | ⟨h1, rfl⟩ | ⟨h1, rfl⟩ | ⟨h1, rfl⟩ | ⟨h1, rfl⟩
  all_goals
    simp only at h1
    subst h1
  · have fy := as_isTerm
    have HT : Hid (termTx (1, key, ss) = (key ++ ⟨#[61]⟩) ++ ssAt ss 0) := rfl
    simp only
    clear hsv h6 hcap
    generalize ssAt ss 0 = V at *
    generalize termTx (1, key, ss) = R at *
    go_enter Try.func77, Try.ntmps77
    go_wp2
    go_ret
    exact ⟨ret_str HT.out.symm, (Below.refl _ _).alloc (by simp) _⟩
  · have f0 := no_notTerm_isTerm
    have fy := as_notTerm
    have HT : Hid (termTx (2, key, ss) = (key ++ ⟨#[33, 61]⟩) ++ ssAt ss 0) := rfl
    simp only
    clear hsv h6 hcap
    generalize ssAt ss 0 = V at *
    generalize termTx (2, key, ss) = R at *
    go_enter Try.func77, Try.ntmps77
    go_wp2
    go_ret
    exact ⟨ret_str HT.out.symm, (Below.refl _ _).alloc (by simp) _⟩
  · have f0 := no_inTerm_isTerm
    have f1 := no_inTerm_notTerm
    have fy := as_inTerm
    have HT : Hid (termTx (3, key, ss) = ((key ++ ⟨#[32, 105, 110, 32, 40]⟩) ++ jn 32 ss) ++ ⟨#[41]⟩) := rfl
    have hsj := jn_size_all 32 20 ss hsv
    have hj : ∀ wx, Below (w.alloc (.cells #[.string key, .slice a ss.length cap] 136)).heap.size (w.alloc (.cells #[.string key, .slice a ss.length cap] 136)) wx →
        Calls Try.prog 78 #[.slice a ss.length cap, .string ⟨#[32]⟩] wx fun e w' => e = .returned (.string (jn 32 ss)) ∧ Hid (Below (w.alloc (.cells #[.string key, .slice a ss.length cap] 136)).heap.size (w.alloc (.cells #[.string key, .slice a ss.length cap] 136)) w') :=
      fun wx hx => (join_of a cap ss 32 wx (by omega) hcap (by omega) (Hr.out.below (((Below.refl _ _).alloc (by simp) _).trans (hx.mono (by simp))))).mono fun e w' h => ⟨h.1, hx.trans (h.2.mono hx.size)⟩
    have Hj := hide hj
    have hjs : (jn 32 ss).size ≤ 126 := by omega
    simp only
    clear hj hsv h6 hsz hcap hsj
    generalize jn 32 ss = J at *
    generalize termTx (3, key, ss) = R at *
    go_enter Try.func77, Try.ntmps77
    go_wp2
    go_region_with (go_at_call 78; refine (Hj.out _ (by repeat (first | exact Below.refl _ _ | refine Below.drew ?_ | refine below_drewN ?_ _))).mono ?_; rintro e w2 ⟨rfl, hb2⟩; have x0 := (hb2.out.cell (p := ⟨w.heap.size, 0, none⟩) (by simp)).trans (by simp [go_sem] : _ = some (.string key)))
    all_goals go_wp2
    all_goals go_ret
    all_goals exact ⟨ret_str HT.out.symm, by repeat (first | exact (((Below.refl _ _).alloc (by simp) _).trans (hb2.out.mono (by simp))) | refine Below.drew ?_ | refine below_drewN ?_ _)⟩
  · have f0 := no_hasTerm_isTerm
    have f1 := no_hasTerm_notTerm
    have f2 := no_hasTerm_inTerm
    have f3 := no_hasTerm_lacksTerm
    have ab := ab_hasTerm
    have HT : Hid (termTx (4, key, ss) = key) := rfl
    simp only
    clear hsv h6 hcap hsz
    generalize termTx (4, key, ss) = R at *
    go_enter Try.func77, Try.ntmps77
    go_wp2_with fail
    refine (tkey_any _ _).mono ?_
    rintro e w1 ⟨rfl, hb1⟩
    go_wp2
    go_ret
    exact ⟨ret_str HT.out.symm, hb1⟩
  · have f0 := no_lacksTerm_isTerm
    have f1 := no_lacksTerm_notTerm
    have f2 := no_lacksTerm_inTerm
    have fy := as_lacksTerm
    have HT : Hid (termTx (5, key, ss) = ⟨#[33]⟩ ++ key) := rfl
    simp only
    clear hsv h6 hcap hsz
    generalize termTx (5, key, ss) = R at *
    go_enter Try.func77, Try.ntmps77
    go_wp2
    go_ret
    exact ⟨ret_str HT.out.symm, (Below.refl _ _).alloc (by simp) _⟩
end Go.Proofs.Ytbadjopaocindaa
