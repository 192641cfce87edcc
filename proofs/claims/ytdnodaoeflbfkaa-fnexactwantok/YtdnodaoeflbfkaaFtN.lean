/- Names in order; a want's weights: small functions of both sides that only read. -/
import Derived.Test.YtdnodaoeflbfkaaFtP
import Derived.Test.YtdnodaoeflbfkaaU5
namespace Go.Proofs.Ytdnodaoeflbfkaa
open Go.RowKit Go.BigFrame
set_option linter.unusedVariables false

theorem nmsB_bad {ss : List ByteArray} {m k : Nat} (hk : k < ss.length) (h : ¬ okV ss k) : nmsB ss m = false := by unfold nmsB; rw [valsB_bad hk h]; rfl
theorem nmsB_end {ss : List ByteArray} {m : Nat} (h : ∀ i, i < ss.length → okV ss i) : nmsB ss m = decide (ss.length ≤ m) := by unfold nmsB; rw [valsB_end h]; rfl
set_option maxHeartbeats 800000 in
theorem l10Names_any (a : Option Addr) (cap m : Nat) (ss : List ByteArray) (w : World) (hl : ss.length ≤ maxLen) (hz : okStrs ss) (hrow : strOf w a ss) :
    Calls Try.prog 67 #[.slice a ss.length cap, .int .i64 (m : Int)] w fun e w' => e = .returned (.bool (nmsB ss m)) ∧ Below w.heap.size w w' := by
  unfold maxLen at hl
  have Hr := hide hrow
  have Hz := hide hz
  clear hrow hz
  go_enter Try.func67, Try.ntmps67
  go_wp2
  go_loopw [5] (fun i wr => ∃ (k : Nat), k ≤ ss.length ∧ i = .int .i64 k ∧ Hid (∀ j, j < k → okV ss j) ∧ Hid (Below w.heap.size w wr)) (fun i _ => ss.length - (intOf i).toNat)
  case atStart => exact ⟨0, Nat.zero_le _, rfl, fun j hj => by omega, Below.refl _ _⟩
  case round =>
    obtain ⟨k, hk, rfl, Hx, Hw⟩ := hrel
    by_cases hlt : k < ss.length
    · obtain ⟨b, off, rfl, hat⟩ := (Hr.out.below Hw.out) (by omega)
      have hc := strAt_cells hat
      have c0 := hc k hlt
      have cp : 0 < k → wr.cell? ⟨b, off + (k - 1), none⟩ = some (.string (ssAt ss (k - 1))) := fun h => hc (k - 1) (by omega)
      have hzK : (ssAt ss k).size ≤ maxLen := by rw [ssAt_get hlt]; exact Hz.out _ (List.getElem_mem hlt)
      have Hs : Hid (okV ss k → ∀ j, j < k + 1 → okV ss j) := fun h => okV_succ Hx.out h
      have Hb : Hid (¬ okV ss k → nmsB ss m = false) := fun h => nmsB_bad hlt h
      have hcs := okV_cases ss k
      clear hat hc Hx
      generalize ssAt ss k = K at *
      generalize ssAt ss (k - 1) = Q at *
      have hK := fun wx => (sname_any K wx hzK)
      clear hzK
      rcases hcs with ⟨h1, hok⟩ | ⟨h1, h3, hok⟩ | ⟨h1, h3, h4, hok⟩ | ⟨h1, h3, h4, hok⟩
      · rw [h1] at hK
        have HK := hide hK
        clear hK h1 cp
        have Hn := hide (Hb.out hok.out)
        clear Hs Hb Hz Hr
        go_wp2
        go_quiet (first | (go_at_call_of 64 K; exact Calls.quiet_of_same (HK.out _)))
        go_wp2
        go_ret
        exact ⟨ret_bool Hn.out.symm, below_drewN Hw.out _⟩
      · rw [h1] at hK
        have HK := hide hK
        have hk0 : k = 0 := h3.out
        have h3' : decide ((0 : Int) < (k : Int)) = false := by rw [decide_eq_false_iff_not]; omega
        have h3'' : decide (0 < k) = false := by rw [decide_eq_false_iff_not]; omega
        have h3a : (k : Int) ≤ 0 := by omega
        clear hK h1 cp h3 hk0
        have Hn := hide (Hs.out hok.out)
        clear Hs Hb Hz Hr
        go_wp2
        go_quiet (first | (go_at_call_of 64 K; exact Calls.quiet_of_same (HK.out _)))
        go_wp2
        go_roundw
        case rel => exact ⟨k + 1, by omega, by go_num, Hn, below_drewN Hw.out _⟩
        case measure => simp [intOf]; omega
      · rw [h1] at hK
        have HK := hide hK
        have cp := cp h3
        have h3' : (0 : Int) < (k : Int) := by omega
        clear hK h1
        have Hn := hide (Hs.out hok.out)
        clear Hs Hb Hz Hr
        go_wp2
        go_quiet (first | (go_at_call_of 64 K; exact Calls.quiet_of_same (HK.out _)))
        go_wp2
        go_roundw
        case rel => exact ⟨k + 1, by omega, by go_num, Hn, below_drewN Hw.out _⟩
        case measure => simp [intOf]; omega
      · rw [h1] at hK
        have HK := hide hK
        have cp := cp h3
        have h3' : (0 : Int) < (k : Int) := by omega
        clear hK h1
        have Hn := hide (Hb.out hok.out)
        clear Hs Hb Hz Hr
        go_wp2
        go_quiet (first | (go_at_call_of 64 K; exact Calls.quiet_of_same (HK.out _)))
        go_wp2
        go_ret
        exact ⟨ret_bool Hn.out.symm, below_drewN Hw.out _⟩
    · have e : k = ss.length := by omega
      subst e
      have Hn := hide (nmsB_end (m := m) Hx.out)
      clear Hx Hr Hz
      go_wp2
      go_ret
      exact ⟨ret_bool (by first | (rw [Hn.out, Bool.eq_iff_iff]; done) | (rw [Hn.out, Bool.eq_iff_iff]; simp; done) | (rw [Hn.out, Bool.eq_iff_iff]; simp; omega)), Hw.out⟩
def noW (l : List WgD) (s : ByteArray) (k : Nat) : Prop := ∀ j (h : j < l.length), j < k → (l[j]'h).1 ≠ s
theorem noW_succ {L : List WgD} {s : ByteArray} {k : Nat} (h : noW L s k) (hk : k < L.length) (hne : (L[k]'hk).1 ≠ s) : noW L s (k + 1) := fun j hj hjk => by
  by_cases e : j = k
  · subst e; exact hne
  · exact h j hj (by omega)
set_option maxHeartbeats 800000 in
theorem sWeightOf_any (z : Int) (T : List TD) (B : List ByteArray) (L : List WgD) (s : ByteArray) (xs : List Value) (w : World) (hl : L.length ≤ maxLen) (hx : waH w (z, T, B, L) xs) :
    Calls Try.prog 21 #[.agg xs.toArray, .string s] w fun e w' => e = .returned (.int .i64 (weighI L s)) ∧ Below w.heap.size w w' := by
  obtain ⟨c1, c2, c3, rfl, ⟨a1, p1, rfl, -⟩, ⟨a2, p2, rfl, -⟩, a, p, rfl, h3⟩ := hx
  dsimp only at *
  unfold maxLen at hl
  have Hr := hide h3
  clear h3
  have OX : Hid (objU (w.alloc (.cells #[.int .i64 z, .slice a1 T.length p1, .slice a2 B.length p2, .slice a L.length p] 41)) w.heap.size 41 [.int .i64 z, .slice a1 T.length p1, .slice a2 B.length p2, .slice a L.length p]) := objU.new _ _ _
  have BX : Hid (Below w.heap.size w (w.alloc (.cells #[.int .i64 z, .slice a1 T.length p1, .slice a2 B.length p2, .slice a L.length p] 41))) := (Below.refl _ _).alloc (Nat.le_refl _) _
  go_enter Try.func21, Try.ntmps21
  go_wp2
  go_loopw [5] (fun i wr => ∃ (k : Nat), k ≤ L.length ∧ i = .int .i64 k ∧ Hid (noW L s k) ∧ Hid (objU wr w.heap.size 41 [.int .i64 z, .slice a1 T.length p1, .slice a2 B.length p2, .slice a L.length p]) ∧ Hid (Below w.heap.size w wr)) (fun i _ => L.length - (intOf i).toNat)
  case atStart => exact ⟨0, Nat.zero_le _, rfl, fun j hj h => by omega, OX, BX⟩
  case round =>
    clear OX BX
    obtain ⟨k, hk, rfl, Ho, HO, HB⟩ := hrel
    have o3 := HO.out.cell 3 _ rfl
    by_cases hlt : k < L.length
    · obtain ⟨b, off, rfl, hat⟩ := (Hr.out.below HB.out) (by omega)
      have c0 := (hat k hlt).1
      have c1 := (hat k hlt).2
      have he := beq_str (L[k].1) s
      have Hh : Hid (L[k].1 = s → weighI L s = L[k].2) := weighI_hit Ho.out hlt
      have Hm : Hid (L[k].1 ≠ s → noW L s (k + 1)) := noW_succ Ho.out hlt
      clear Hr Ho hat
      generalize L[k] = X at *
      obtain ⟨K, N⟩ := X
      dsimp only at *
      by_cases hq : K = s
      · rw [decide_eq_true hq] at he
        have Hn := hide (Hh.out hq)
        clear hq Hh Hm
        go_wp2
        go_ret
        exact ⟨ret_int Hn.out.symm, HB.out⟩
      · rw [decide_eq_false hq] at he
        have Hn := hide (Hm.out hq)
        clear hq Hh Hm
        go_wp2
        go_roundw
        case rel => exact ⟨k + 1, by omega, by go_num, Hn, HO, HB⟩
        case measure => simp [intOf]; omega
    · have e : k = L.length := by omega
      subst e
      have Hn := hide (weighI_miss (s := s) (fun j hj => Ho.out j hj hj))
      clear Ho Hr
      go_wp2
      go_ret
      exact ⟨ret_int Hn.out.symm, HB.out⟩
set_option maxHeartbeats 800000 in
theorem iWeightOf_any (z : Int) (T : List TD) (B : List ByteArray) (L : List WgD) (s : ByteArray) (xs : List Value) (w : World) (hl : L.length ≤ maxLen) (hx : waH w (z, T, B, L) xs) :
    Calls Try.prog 22 #[.agg xs.toArray, .string s] w fun e w' => e = .returned (.int .i64 (weighI L s)) ∧ Below w.heap.size w w' := by
  obtain ⟨c1, c2, c3, rfl, ⟨a1, p1, rfl, -⟩, ⟨a2, p2, rfl, -⟩, a, p, rfl, h3⟩ := hx
  dsimp only at *
  unfold maxLen at hl
  have Hr := hide h3
  clear h3
  have OX : Hid (objU (w.alloc (.cells #[.int .i64 z, .slice a1 T.length p1, .slice a2 B.length p2, .slice a L.length p] 41)) w.heap.size 41 [.int .i64 z, .slice a1 T.length p1, .slice a2 B.length p2, .slice a L.length p]) := objU.new _ _ _
  have BX : Hid (Below w.heap.size w (w.alloc (.cells #[.int .i64 z, .slice a1 T.length p1, .slice a2 B.length p2, .slice a L.length p] 41))) := (Below.refl _ _).alloc (Nat.le_refl _) _
  go_enter Try.func22, Try.ntmps22
  have o3 := OX.out.cell 3 _ rfl
  go_wp2
  clear OX o3
  go_loopw [10] (fun i wr => ∃ (k : Nat), k ≤ L.length ∧ i = .int .i64 k ∧ Hid (noW L s k) ∧ Hid (Below w.heap.size w wr)) (fun i _ => L.length - (intOf i).toNat)
  case atStart => exact ⟨0, Nat.zero_le _, rfl, fun j hj h => by omega, BX⟩
  case round =>
    clear BX
    obtain ⟨k, hk, rfl, Ho, HB⟩ := hrel
    by_cases hlt : k < L.length
    · obtain ⟨b, off, rfl, hat⟩ := (Hr.out.below HB.out) (by omega)
      have c0 := (hat k hlt).1
      have c1 := (hat k hlt).2
      have he := beq_str (L[k].1) s
      have Hh : Hid (L[k].1 = s → weighI L s = L[k].2) := weighI_hit Ho.out hlt
      have Hm : Hid (L[k].1 ≠ s → noW L s (k + 1)) := noW_succ Ho.out hlt
      clear Hr Ho hat
      generalize L[k] = X at *
      obtain ⟨K, N⟩ := X
      dsimp only at *
      by_cases hq : K = s
      · rw [decide_eq_true hq] at he
        have Hn := hide (Hh.out hq)
        clear hq Hh Hm
        go_wp2
        go_ret
        exact ⟨ret_int Hn.out.symm, HB.out.alloc HB.out.size _⟩
      · rw [decide_eq_false hq] at he
        have Hn := hide (Hm.out hq)
        clear hq Hh Hm
        go_wp2
        go_roundw
        case rel => exact ⟨k + 1, by omega, by go_num, Hn, HB.out.alloc HB.out.size _⟩
        case measure => simp [intOf]; omega
    · have e : k = L.length := by omega
      subst e
      have Hn := hide (weighI_miss (s := s) (fun j hj => Ho.out j hj hj))
      clear Ho Hr
      go_wp2
      go_ret
      exact ⟨ret_int Hn.out.symm, HB.out⟩
theorem withinF_any (x b : Int) (w : World) : Calls Try.prog 71 #[.int .i64 x, .int .i64 b] w fun e w' => e = .returned (.bool (inB x 0 b)) ∧ w' = w := by
  go_enter Try.func71, Try.ntmps71
  go_wp2
  all_goals go_ret
  all_goals exact ⟨ret_bool (by rw [Bool.eq_iff_iff]; simp [inB]; omega), rfl⟩
end Go.Proofs.Ytdnodaoeflbfkaa
