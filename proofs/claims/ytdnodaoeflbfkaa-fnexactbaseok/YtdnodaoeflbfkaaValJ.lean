/- Right values: the program's reading of their fields, and their size. -/
import Derived.Test.YtdnodaoeflbfkaaValI
namespace Go.Proofs.Ytdnodaoeflbfkaa
open Go.RowKit Go.BigFrame
set_option linter.unusedVariables false

set_option maxHeartbeats 3200000 in
theorem fieldsOk_any (kd : Int) (tx : ByteArray) (nm : Int) (ks : List ByteArray) (m : Nat) (a a' : Option Addr) (cap cap' : Nat) (w : World) (hk : tx.size ≤ maxLen) (hl : ks.length ≤ maxLen) (hm : m ≤ maxLen) (hrow : strOf w a ks) :
    Calls Try.prog 269 #[.agg #[.int .i64 kd, .string tx, .int .i64 nm, .slice a ks.length cap, .slice a' m cap']] w fun e w' => e = .returned (.bool (hdB kd tx nm ks m)) ∧ Below w.heap.size w w' := by
  have Htx : Hid (∀ wx, Calls Try.prog 273 #[.string tx] wx fun e w' => e = .returned (.bool (txB tx)) ∧ w' = wx) := fun wx => itext_any tx wx hk
  have Hks : Hid (∀ (L : Nat) wx, L = ks.length → Below w.heap.size w wx → Calls Try.prog 74 #[.slice a L cap] wx fun e w' => e = .returned (.bool (valsB ks)) ∧ Below wx.heap.size wx w') :=
    fun L wx hL hx => by subst hL; exact iasc_any a cap ks wx hl (hrow.below hx)
  have he := empty_beq tx
  unfold maxLen at hl hm
  have HA : Hid (∀ o, Below w.heap.size w (w.alloc o)) := fun o => (Below.refl _ _).alloc (Nat.le_refl _) _
  have HR : Hid (∀ r : Bool, hdB kd tx nm ks m = r → Ending.returned (.bool r) = .returned (.bool (hdB kd tx nm ks m))) := fun r h => by rw [h]
  clear hrow hk
  obtain ⟨t1, h1⟩ : ∃ t, decide (tx.size = 0) = t := ⟨_, rfl⟩
  obtain ⟨t2, h2⟩ : ∃ t, (nm == 0) = t := ⟨_, rfl⟩
  obtain ⟨t3, h3⟩ : ∃ t, ((ks.length : Int) == 0) = t := ⟨_, rfl⟩
  obtain ⟨t4, h4⟩ : ∃ t, ((m : Int) == 0) = t := ⟨_, rfl⟩
  have g2 : decide (nm = 0) = t2 := by rw [← h2]; rfl
  have g3 : decide (ks.length = 0) = t3 := by rw [← h3, Bool.eq_iff_iff]; simp
  have g4 : decide (m = 0) = t4 := by rw [← h4, Bool.eq_iff_iff]; simp
  rw [h1] at he
  have G := hide (And.intro h1 (And.intro g2 (And.intro g3 g4)))
  clear h1 g2 g3 g4
  by_cases k1 : kd = 1
  · subst k1
    obtain ⟨T, hT⟩ : ∃ t, txB tx = t := ⟨_, rfl⟩
    rw [hT] at Htx
    have E : Hid (hdB 1 tx nm ks m = (T && t2 && t3 && t4)) := by show _ = _; rw [hdB1, hT, G.out.2.1, G.out.2.2.1, G.out.2.2.2]
    clear G HR
    go_enter Try.func269, Try.ntmps269
    go_wp2
    go_quiet (fail)
    go_wp2
    go_quiet (fail)
    clear Hks hT
    cases T <;> cases t2 <;> cases t3 <;> cases t4
    all_goals go_wp2_with (go_at_call 273; refine (Htx.out _).mono ?_; rintro e w' ⟨rfl, rfl⟩)
    all_goals go_ret
    all_goals exact ⟨ret_bool (by rw [E.out]; rfl), by repeat (first | exact HA.out _ | refine below_drewN ?_ _)⟩
  by_cases k2 : kd = 2
  · subst k2
    have E : Hid (hdB 2 tx nm ks m = (t1 && t3 && t4)) := by show _ = _; rw [hdB2, G.out.1, G.out.2.2.1, G.out.2.2.2]
    clear G HR
    go_enter Try.func269, Try.ntmps269
    go_wp2
    go_quiet (fail)
    go_wp2
    go_quiet (fail)
    cases t1 <;> cases t3 <;> cases t4
    all_goals go_wp2
    all_goals go_ret
    all_goals exact ⟨ret_bool (by rw [E.out]; rfl), by repeat (first | exact HA.out _ | refine below_drewN ?_ _)⟩
  by_cases k3 : kd = 3
  · subst k3
    obtain ⟨t5, h5⟩ : ∃ t, (nm == 1) = t := ⟨_, rfl⟩
    have g5 : decide (nm = 0 ∨ nm = 1) = (t2 || t5) := by rw [← h5, ← h2, Bool.eq_iff_iff]; simp
    have E : Hid (hdB 3 tx nm ks m = (t1 && (t2 || t5) && t3 && t4)) := by show _ = _; rw [hdB3, G.out.1, g5, G.out.2.2.1, G.out.2.2.2]
    clear G HR
    go_enter Try.func269, Try.ntmps269
    go_wp2
    go_quiet (fail)
    go_wp2
    go_quiet (fail)
    clear g5
    cases t1 <;> cases t3 <;> cases t4 <;> cases t2 <;> cases t5
    all_goals go_wp2
    all_goals go_ret
    all_goals exact ⟨ret_bool (by rw [E.out]; rfl), by repeat (first | exact HA.out _ | refine below_drewN ?_ _)⟩
  by_cases k4 : kd = 4
  · subst k4
    have E : Hid (hdB 4 tx nm ks m = (t1 && t2 && t3)) := by show _ = _; rw [hdB4, G.out.1, G.out.2.1, G.out.2.2.1]
    clear G HR
    go_enter Try.func269, Try.ntmps269
    go_wp2
    go_quiet (fail)
    go_wp2
    go_quiet (fail)
    cases t1 <;> cases t2 <;> cases t3
    all_goals go_wp2
    all_goals go_ret
    all_goals exact ⟨ret_bool (by rw [E.out]; rfl), by repeat (first | exact HA.out _ | refine below_drewN ?_ _)⟩
  by_cases k5 : kd = 5
  · subst k5
    obtain ⟨T, hT⟩ : ∃ t, valsB ks = t := ⟨_, rfl⟩
    rw [hT] at Hks
    obtain ⟨t5, h5⟩ : ∃ t, ((ks.length : Int) == (m : Int)) = t := ⟨_, rfl⟩
    have g5 : decide (ks.length = m) = t5 := by rw [← h5, Bool.eq_iff_iff]; simp; omega
    have E : Hid (hdB 5 tx nm ks m = (t1 && t2 && t5 && T)) := by show _ = _; rw [hdB5, G.out.1, G.out.2.1, g5, hT]
    clear G HR g5 hT
    obtain ⟨L, hL⟩ : ∃ L, ks.length = L := ⟨_, rfl⟩
    rw [hL] at h3 h5 hl ⊢
    have HL := hide hL.symm
    have HC : Hid (∀ wx, Below w.heap.size w wx → Calls Try.prog 74 #[.slice a L cap] wx fun e w' => e = .returned (.bool T) ∧ Below w.heap.size w w') := fun wx hx => (Hks.out L wx HL.out hx).mono fun e w' h => ⟨h.1, hx.trans (h.2.mono hx.size)⟩
    clear Hks hL HL
    go_enter Try.func269, Try.ntmps269
    go_wp2
    go_quiet (fail)
    go_wp2
    go_quiet (fail)
    cases t1 <;> cases t2 <;> cases t5
    all_goals go_wp2_with (go_at_call 74; refine (HC.out _ (by repeat (first | exact HA.out _ | refine below_drewN ?_ _))).mono ?_; rintro e w1 ⟨rfl, hb⟩)
    all_goals go_ret
    all_goals exact ⟨ret_bool (by rw [E.out]; rfl), by repeat (first | assumption | exact HA.out _ | refine below_drewN ?_ _)⟩
  have E := hide (hdB0 k1 k2 k3 k4 k5 tx nm ks m)
  have j1 : (kd == 1) = false := by simpa using k1
  have j2 : (kd == 2) = false := by simpa using k2
  have j3 : (kd == 3) = false := by simpa using k3
  have j4 : (kd == 4) = false := by simpa using k4
  have j5 : (kd == 5) = false := by simpa using k5
  clear G HR k1 k2 k3 k4 k5
  go_enter Try.func269, Try.ntmps269
  go_wp2
  go_quiet (fail)
  go_wp2
  go_quiet (fail)
  go_wp2
  go_ret
  exact ⟨ret_bool E.out.symm, by repeat (first | exact HA.out _ | refine below_drewN ?_ _)⟩
end Go.Proofs.Ytdnodaoeflbfkaa
