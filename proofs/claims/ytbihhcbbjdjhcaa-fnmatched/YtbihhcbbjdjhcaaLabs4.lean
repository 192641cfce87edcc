import Derived.Test.YtbihhcbbjdjhcaaLabs3
namespace Go.Proofs.Ytbihhcbbjdjhcaa
open Go.RowKit Go.BigFrame

/-- what a round knows of its worlds: the row that came in, and the copy of the element -/
def InLoop (w : World) (B b off k : Nat) (K V P : ByteArray) (wx : World) : Prop :=
  Below w.heap.size w wx ∧ wx.cell? ⟨B, 0, none⟩ = some (.string K) ∧ wx.cell? ⟨B, 1, none⟩ = some (.string V) ∧ (0 < k → wx.cell? ⟨b, off + (k - 1) * 2, none⟩ = some (.string P)) ∧ B < wx.heap.size ∧ b < w.heap.size
theorem InLoop.step {w : World} {B b off k : Nat} {K V P : ByteArray} {wx w' : World} (h : InLoop w B b off k K V P wx) (hb : Below wx.heap.size wx w') : InLoop w B b off k K V P w' := by
  obtain ⟨h1, h2, h3, h4, h5, h6⟩ := h
  refine ⟨h1.trans (hb.mono h1.size), (hb.cell (p := ⟨B, 0, none⟩) h5).trans h2, (hb.cell (p := ⟨B, 1, none⟩) h5).trans h3, fun hk => (hb.cell (p := ⟨b, off + (k - 1) * 2, none⟩) ?_).trans (h4 hk), Nat.lt_of_lt_of_le h5 hb.size, h6⟩
  exact Nat.lt_of_lt_of_le h6 h1.size
theorem labelsB_long {ls : List (ByteArray × ByteArray)} (h : 8 < ls.length) : labelsB ls = false := by
  unfold labelsB; rw [decide_eq_false_iff_not]; omega

set_option maxHeartbeats 800000 in
theorem ilabelsOk_any (a : Option Addr) (cap : Nat) (ls : List (ByteArray × ByteArray)) (w : World) (hl : ls.length ≤ maxLen) (hrow : rowOf w a ls) :
    Calls Try.prog 18 #[.slice a ls.length cap] w fun e w' => e = .returned (.bool (labelsB ls)) ∧ Below w.heap.size w w' := by
  unfold maxLen at hl
  have Hr : Hid (rowOf w a ls) := hrow
  clear hrow
  by_cases hbig : 8 < ls.length
  · have Hn := hide (labelsB_long hbig)
    have hbig' : (8 : Int) < (ls.length : Int) := by omega
    clear hbig Hr
    go_enter Try.func18, Try.ntmps18
    go_wp2
    go_ret
    exact ⟨ret_bool Hn.out.symm, Below.refl _ _⟩
  have hbig' : ¬ (8 : Int) < (ls.length : Int) := by omega
  go_enter Try.func18, Try.ntmps18
  go_wp2
  go_loopw [10] (fun i wr => ∃ (k : Nat), k ≤ ls.length ∧ i = .int .i64 k ∧ Hid (∀ j, j < k → okAt ls j) ∧ Below w.heap.size w wr) (fun i _ => ls.length - (intOf i).toNat)
  case atStart => exact ⟨0, Nat.zero_le _, rfl, fun j hj => by omega, Below.refl _ _⟩
  case round =>
    obtain ⟨k, hk, rfl, Hx, hbw⟩ := hrel
    by_cases hlt : k < ls.length
    · obtain ⟨b, off, rfl, hat⟩ := Hr.out (by omega)
      have hc := cellsOf_of hat
      have hbb : b < w.heap.size := World.block_lt_of_cell? _ _ (hat k hlt).1
      have c0 := (hbw.cell (p := ⟨b, off + k * 2, none⟩) hbb).trans (hc k hlt).1
      have c2 := (hbw.cell (p := ⟨b, off + k * 2 + 1, none⟩) hbb).trans (hc k hlt).2
      have cp : 0 < k → wr.cell? ⟨b, off + (k - 1) * 2, none⟩ = some (.string (keyAt ls (k - 1))) := fun h => (hbw.cell (p := ⟨b, off + (k - 1) * 2, none⟩) hbb).trans (hc (k - 1) (by omega)).1
      have Hs : Hid (okAt ls k → ∀ j, j < k + 1 → okAt ls j) := fun h => ok_succ Hx.out h
      have Hb : Hid (¬ okAt ls k → labelsB ls = false) := fun h => labelsB_bad hlt h
      have hcs := ok_cases ls k
      clear hat hc Hx
      generalize keyAt ls k = K at *
      generalize valAt ls k = V at *
      generalize keyAt ls (k - 1) = P at *
      have hS0 : InLoop w wr.heap.size b off k K V P (wr.alloc (.cells #[.string K, .string V] 43)) :=
        ⟨hbw.alloc hbw.size _, by simp, by simp, fun h => by rw [World.cell?_alloc_past _ _ _ (Nat.lt_of_lt_of_le hbb hbw.size)]; exact cp h, by simp, hbb⟩
      have HS0 := hide hS0
      have hK : ∀ wx, InLoop w wr.heap.size b off k K V P wx → Calls Try.prog 29 #[.string K] wx fun e w' => e = .returned (.bool (nameB K)) ∧ Hid (InLoop w wr.heap.size b off k K V P w') := fun wx hx => (iname_any K wx).mono fun e w' h => ⟨h.1, hx.step h.2⟩
      have hV : ∀ wx, InLoop w wr.heap.size b off k K V P wx → Calls Try.prog 29 #[.string V] wx fun e w' => e = .returned (.bool (nameB V)) ∧ Hid (InLoop w wr.heap.size b off k K V P w') := fun wx hx => (iname_any V wx).mono fun e w' h => ⟨h.1, hx.step h.2⟩
      clear cp hS0
      rcases hcs with ⟨h1, hok⟩ | ⟨h1, h2, hok⟩ | ⟨h1, h2, h3, hok⟩ | ⟨h1, h2, h3, h4, hok⟩ | ⟨h1, h2, h3, h4, hok⟩
      · rw [h1] at hK
        have HK := hide hK
        have HV := hide hV
        clear hK hV h1
        have Hn := hide (Hb.out hok.out)
        clear Hs Hb Hr
        go_wp2_with (first | (go_at_call_of 29 K; refine (HK.out _ HS0.out).mono ?_; rintro e w2 ⟨rfl, hS2⟩; have x0 := hS2.out.2.1; have x1 := hS2.out.2.2.1) | (go_at_call_of 29 V; refine (HV.out _ hS2.out).mono ?_; rintro e w3 ⟨rfl, hS3⟩; have x2 := hS3.out.2.1; have x3 := hS3.out.2.2.1))
        go_ret
        exact ⟨ret_bool Hn.out.symm, hS2.out.1⟩
      · rw [h1] at hK
        rw [h2] at hV
        have HK := hide hK
        have HV := hide hV
        clear hK hV h1 h2
        have Hn := hide (Hb.out hok.out)
        clear Hs Hb Hr
        go_wp2_with (first | (go_at_call_of 29 K; refine (HK.out _ HS0.out).mono ?_; rintro e w2 ⟨rfl, hS2⟩; have x0 := hS2.out.2.1; have x1 := hS2.out.2.2.1) | (go_at_call_of 29 V; refine (HV.out _ hS2.out).mono ?_; rintro e w3 ⟨rfl, hS3⟩; have x2 := hS3.out.2.1; have x3 := hS3.out.2.2.1))
        go_ret
        exact ⟨ret_bool Hn.out.symm, hS3.out.1⟩
      · rw [h1] at hK
        rw [h2] at hV
        have HK := hide hK
        have HV := hide hV
        have hk0 : k = 0 := h3.out
        have h3' : decide ((0 : Int) < (k : Int)) = false := by rw [decide_eq_false_iff_not]; omega
        have h3'' : decide (0 < k) = false := by rw [decide_eq_false_iff_not]; omega
        have h3a : (k : Int) ≤ 0 := by omega
        clear h3 hk0
        clear hK hV h1 h2
        have Hn := hide (Hs.out hok.out)
        clear Hs Hb Hr
        go_wp2_with (first | (go_at_call_of 29 K; refine (HK.out _ HS0.out).mono ?_; rintro e w2 ⟨rfl, hS2⟩; have x0 := hS2.out.2.1; have x1 := hS2.out.2.2.1) | (go_at_call_of 29 V; refine (HV.out _ hS2.out).mono ?_; rintro e w3 ⟨rfl, hS3⟩; have x2 := hS3.out.2.1; have x3 := hS3.out.2.2.1))
        go_quiet (fail)
        go_wp2
        go_roundw
        case rel => exact ⟨k + 1, by omega, by go_num, Hn, below_drewN hS3.out.1 _⟩
        case measure => simp [intOf]; omega
      · rw [h1] at hK
        rw [h2] at hV
        have HK := hide hK
        have HV := hide hV
        have h3' : (0 : Int) < (k : Int) := by omega
        clear hK hV h1 h2
        have Hn := hide (Hs.out hok.out)
        clear Hs Hb Hr
        go_wp2_with (first | (go_at_call_of 29 K; refine (HK.out _ HS0.out).mono ?_; rintro e w2 ⟨rfl, hS2⟩; have x0 := hS2.out.2.1; have x1 := hS2.out.2.2.1) | (go_at_call_of 29 V; refine (HV.out _ hS2.out).mono ?_; rintro e w3 ⟨rfl, hS3⟩; have x2 := hS3.out.2.1; have x3 := hS3.out.2.2.1; have cp3 := hS3.out.2.2.2.1 h3))
        go_quiet (fail)
        go_wp2
        go_roundw
        case rel => exact ⟨k + 1, by omega, by go_num, Hn, below_drewN hS3.out.1 _⟩
        case measure => simp [intOf]; omega
      · rw [h1] at hK
        rw [h2] at hV
        have HK := hide hK
        have HV := hide hV
        have h3' : (0 : Int) < (k : Int) := by omega
        clear hK hV h1 h2
        have Hn := hide (Hb.out hok.out)
        clear Hs Hb Hr
        go_wp2_with (first | (go_at_call_of 29 K; refine (HK.out _ HS0.out).mono ?_; rintro e w2 ⟨rfl, hS2⟩; have x0 := hS2.out.2.1; have x1 := hS2.out.2.2.1) | (go_at_call_of 29 V; refine (HV.out _ hS2.out).mono ?_; rintro e w3 ⟨rfl, hS3⟩; have x2 := hS3.out.2.1; have x3 := hS3.out.2.2.1; have cp3 := hS3.out.2.2.2.1 h3))
        go_quiet (fail)
        go_wp2
        go_ret
        exact ⟨ret_bool Hn.out.symm, below_drewN hS3.out.1 _⟩
    · have e : k = ls.length := by omega
      subst e
      have Hn : Hid (labelsB ls = true) := by show _ = _; rw [labelsB_end Hx.out, decide_eq_true_eq]; omega
      clear Hx Hr
      go_wp2
      go_ret
      exact ⟨ret_bool Hn.out.symm, hbw⟩
end Go.Proofs.Ytbihhcbbjdjhcaa
