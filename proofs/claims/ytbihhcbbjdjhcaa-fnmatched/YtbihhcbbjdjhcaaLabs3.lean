import Derived.Test.YtbihhcbbjdjhcaaLabs2
namespace Go.Proofs.Ytbihhcbbjdjhcaa
open Go.RowKit Go.BigFrame

def keyAt (ls : List (ByteArray × ByteArray)) (i : Nat) : ByteArray := (ls[i]?.getD (ByteArray.empty, ByteArray.empty)).1
def valAt (ls : List (ByteArray × ByteArray)) (i : Nat) : ByteArray := (ls[i]?.getD (ByteArray.empty, ByteArray.empty)).2
def okAt (ls : List (ByteArray × ByteArray)) (i : Nat) : Prop := nameB (keyAt ls i) = true ∧ nameB (valAt ls i) = true ∧ (0 < i → ltS (keyAt ls (i - 1)) (keyAt ls i) = true)
def labelsB (ls : List (ByteArray × ByteArray)) : Bool := decide (ls.length ≤ 8 ∧ ∀ i, i < ls.length → nameB (keyAt ls i) = true ∧ nameB (valAt ls i) = true ∧ (0 < i → ltS (keyAt ls (i - 1)) (keyAt ls i) = true))
theorem labelsB_bad {ls : List (ByteArray × ByteArray)} {k : Nat} (hk : k < ls.length) (h : ¬ okAt ls k) : labelsB ls = false := by
  unfold labelsB; rw [decide_eq_false_iff_not]; exact fun g => h (g.2 k hk)
theorem labelsB_end {ls : List (ByteArray × ByteArray)} (h : ∀ i, i < ls.length → okAt ls i) : labelsB ls = decide (ls.length ≤ 8) := by
  unfold labelsB; rw [decide_eq_decide]; exact ⟨fun g => g.1, fun g => ⟨g, h⟩⟩
theorem ok_succ {ls : List (ByteArray × ByteArray)} {k : Nat} (h : ∀ i, i < k → okAt ls i) (hk : okAt ls k) : ∀ i, i < k + 1 → okAt ls i := by
  intro i hi
  by_cases e : i = k
  · rw [e]; exact hk
  · exact h i (by omega)
/-- the cells, by place -/
def cellsOf (w : World) (b off : Nat) (ls : List (ByteArray × ByteArray)) : Prop := ∀ i, i < ls.length → w.cell? ⟨b, off + i * 2, none⟩ = some (.string (keyAt ls i)) ∧ w.cell? ⟨b, off + i * 2 + 1, none⟩ = some (.string (valAt ls i))
theorem cellsOf_of {w : World} {b off : Nat} {ls : List (ByteArray × ByteArray)} (h : labsAt w b off ls) : cellsOf w b off ls := by
  intro i hi
  have := h i hi
  unfold keyAt valAt
  rw [List.getElem?_eq_getElem hi]
  exact this
def strsOk (ls : List (ByteArray × ByteArray)) : Prop := ∀ i, (keyAt ls i).size ≤ maxLen ∧ (valAt ls i).size ≤ maxLen
theorem strsOk_of {ls : List (ByteArray × ByteArray)} (h : okSizes ls) : strsOk ls := by
  intro i
  unfold keyAt valAt
  by_cases hi : i < ls.length
  · rw [List.getElem?_eq_getElem hi]; exact h _ (List.getElem_mem hi)
  · rw [List.getElem?_eq_none (by omega)]; exact ⟨Nat.zero_le _, Nat.zero_le _⟩

theorem drew_more {w wr : World} (h : ∃ n, wr = w.drewN n) (m : Nat) : ∃ n, wr.drewN m = w.drewN n := by
  obtain ⟨n, hn⟩ := h
  exact ⟨n + m, by rw [hn, World.drewN_drewN]⟩
/-- one label, and the key ahead of it: what both loops ask -/
theorem ok_cases (ls : List (ByteArray × ByteArray)) (k : Nat) :
    (nameB (keyAt ls k) = false ∧ Hid (¬ okAt ls k)) ∨ (nameB (keyAt ls k) = true ∧ nameB (valAt ls k) = false ∧ Hid (¬ okAt ls k)) ∨
    (nameB (keyAt ls k) = true ∧ nameB (valAt ls k) = true ∧ Hid (k = 0) ∧ Hid (okAt ls k)) ∨
    (nameB (keyAt ls k) = true ∧ nameB (valAt ls k) = true ∧ 0 < k ∧ Op.bytesLess (keyAt ls (k - 1)).toList (keyAt ls k).toList = true ∧ Hid (okAt ls k)) ∨
    (nameB (keyAt ls k) = true ∧ nameB (valAt ls k) = true ∧ 0 < k ∧ Op.bytesLess (keyAt ls (k - 1)).toList (keyAt ls k).toList = false ∧ Hid (¬ okAt ls k)) := by
  have hd : okAt ls k ↔ nameB (keyAt ls k) = true ∧ nameB (valAt ls k) = true ∧ (0 < k → Op.bytesLess (keyAt ls (k - 1)).toList (keyAt ls k).toList = true) := Iff.rfl
  unfold Hid
  rw [hd]
  rcases Bool.eq_false_or_eq_true (nameB (keyAt ls k)) with h1 | h1
  · rcases Bool.eq_false_or_eq_true (nameB (valAt ls k)) with h2 | h2
    · by_cases h3 : 0 < k
      · rcases Bool.eq_false_or_eq_true (Op.bytesLess (keyAt ls (k - 1)).toList (keyAt ls k).toList) with h4 | h4
        · exact .inr (.inr (.inr (.inl ⟨h1, h2, h3, h4, h1, h2, fun _ => h4⟩)))
        · refine .inr (.inr (.inr (.inr ⟨h1, h2, h3, h4, fun g => ?_⟩)))
          have := g.2.2 h3
          rw [h4] at this; cases this
      · exact .inr (.inr (.inl ⟨h1, h2, by omega, h1, h2, fun h => absurd h h3⟩))
    · refine .inr (.inl ⟨h1, h2, fun g => ?_⟩)
      rw [h2] at g; cases g.2.1
  · refine .inl ⟨h1, fun g => ?_⟩
    rw [h1] at g; cases g.1

set_option maxHeartbeats 800000 in
theorem slabelsOk_any (a : Option Addr) (cap : Nat) (ls : List (ByteArray × ByteArray)) (w : World) (hl : ls.length ≤ maxLen) (hz : okSizes ls) (hrow : rowOf w a ls) :
    Calls Try.prog 7 #[.slice a ls.length cap] w fun e w' => e = .returned (.bool (labelsB ls)) ∧ ∃ n, w' = w.drewN n := by
  unfold maxLen at hl
  have Hr : Hid (rowOf w a ls) := hrow
  have Hz : Hid (strsOk ls) := strsOk_of hz
  clear hrow hz
  go_enter Try.func7, Try.ntmps7
  go_wp2
  go_loopw [3] (fun i wr => ∃ (k : Nat), k ≤ ls.length ∧ i = .int .i64 k ∧ Hid (∀ j, j < k → okAt ls j) ∧ Hid (∃ n, wr = w.drewN n)) (fun i _ => ls.length - (intOf i).toNat)
  case atStart => exact ⟨0, Nat.zero_le _, rfl, fun j hj => by omega, ⟨0, rfl⟩⟩
  case round =>
    obtain ⟨k, hk, rfl, Hx, Hw⟩ := hrel
    have Hcell : Hid (∀ p, wr.cell? p = w.cell? p) := by obtain ⟨n, hn⟩ := Hw.out; rw [hn]; exact fun _ => rfl
    by_cases hlt : k < ls.length
    · obtain ⟨b, off, rfl, hat⟩ := Hr.out (by omega)
      have hc := cellsOf_of hat
      have c0 := (Hcell.out _).trans (hc k hlt).1
      have c2 := (Hcell.out _).trans (hc k hlt).2
      have cp : 0 < k → wr.cell? ⟨b, off + (k - 1) * 2, none⟩ = some (.string (keyAt ls (k - 1))) := fun h => (Hcell.out _).trans (hc (k - 1) (by omega)).1
      have hzK := (Hz.out k).1
      have hzV := (Hz.out k).2
      have Hs : Hid (okAt ls k → ∀ j, j < k + 1 → okAt ls j) := fun h => ok_succ Hx.out h
      have Hb : Hid (¬ okAt ls k → labelsB ls = false) := fun h => labelsB_bad hlt h
      have hcs := ok_cases ls k
      clear hat hc Hx
      generalize keyAt ls k = K at *
      generalize valAt ls k = V at *
      generalize keyAt ls (k - 1) = P at *
      have hK := fun wx => (sname_any K wx hzK)
      have hV := fun wx => (sname_any V wx hzV)
      clear hzK hzV
      rcases hcs with ⟨h1, hok⟩ | ⟨h1, h2, hok⟩ | ⟨h1, h2, h3, hok⟩ | ⟨h1, h2, h3, h4, hok⟩ | ⟨h1, h2, h3, h4, hok⟩
      · rw [h1] at hK
        have HK := hide hK
        have HV := hide hV
        clear hK hV h1 cp c2
        have Hn := hide (Hb.out hok.out)
        clear Hs Hb Hz Hr Hcell
        go_wp2
        go_quiet (first | (go_at_call_of 16 K; exact Calls.quiet_of_same (HK.out _)) | (go_at_call_of 16 V; exact Calls.quiet_of_same (HV.out _)))
        go_wp2
        go_ret
        exact ⟨ret_bool Hn.out.symm, drew_more Hw.out _⟩
      · rw [h1] at hK
        rw [h2] at hV
        have HK := hide hK
        have HV := hide hV
        clear hK hV h1 h2 cp
        have Hn := hide (Hb.out hok.out)
        clear Hs Hb Hz Hr Hcell
        go_wp2
        go_quiet (first | (go_at_call_of 16 K; exact Calls.quiet_of_same (HK.out _)) | (go_at_call_of 16 V; exact Calls.quiet_of_same (HV.out _)))
        go_wp2
        go_ret
        exact ⟨ret_bool Hn.out.symm, drew_more Hw.out _⟩
      · rw [h1] at hK
        rw [h2] at hV
        have HK := hide hK
        have HV := hide hV
        have hk0 : k = 0 := h3.out
        have h3' : decide ((0 : Int) < (k : Int)) = false := by rw [decide_eq_false_iff_not]; omega
        have h3'' : decide (0 < k) = false := by rw [decide_eq_false_iff_not]; omega
        have h3a : (k : Int) ≤ 0 := by omega
        clear hK hV h1 h2 cp h3 hk0
        have Hn := hide (Hs.out hok.out)
        clear Hs Hb Hz Hr Hcell
        go_wp2
        go_quiet (first | (go_at_call_of 16 K; exact Calls.quiet_of_same (HK.out _)) | (go_at_call_of 16 V; exact Calls.quiet_of_same (HV.out _)))
        go_wp2
        go_roundw
        case rel => exact ⟨k + 1, by omega, by go_num, Hn, drew_more Hw.out _⟩
        case measure => simp [intOf]; omega
      · rw [h1] at hK
        rw [h2] at hV
        have HK := hide hK
        have HV := hide hV
        have cp := cp h3
        have h3' : (0 : Int) < (k : Int) := by omega
        clear hK hV h1 h2
        have Hn := hide (Hs.out hok.out)
        clear Hs Hb Hz Hr Hcell
        go_wp2
        go_quiet (first | (go_at_call_of 16 K; exact Calls.quiet_of_same (HK.out _)) | (go_at_call_of 16 V; exact Calls.quiet_of_same (HV.out _)))
        go_wp2
        go_roundw
        case rel => exact ⟨k + 1, by omega, by go_num, Hn, drew_more Hw.out _⟩
        case measure => simp [intOf]; omega
      · rw [h1] at hK
        rw [h2] at hV
        have HK := hide hK
        have HV := hide hV
        have cp := cp h3
        have h3' : (0 : Int) < (k : Int) := by omega
        clear hK hV h1 h2
        have Hn := hide (Hb.out hok.out)
        clear Hs Hb Hz Hr Hcell
        go_wp2
        go_quiet (first | (go_at_call_of 16 K; exact Calls.quiet_of_same (HK.out _)) | (go_at_call_of 16 V; exact Calls.quiet_of_same (HV.out _)))
        go_wp2
        go_ret
        exact ⟨ret_bool Hn.out.symm, drew_more Hw.out _⟩
    · have e : k = ls.length := by omega
      subst e
      have Hn := hide (labelsB_end Hx.out)
      clear Hx Hcell Hr Hz
      go_wp2
      go_ret
      exact ⟨ret_bool (by rw [Hn.out, Bool.eq_iff_iff]; simp; omega), Hw.out⟩
end Go.Proofs.Ytbihhcbbjdjhcaa
