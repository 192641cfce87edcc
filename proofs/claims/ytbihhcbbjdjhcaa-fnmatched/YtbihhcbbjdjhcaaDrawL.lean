import Derived.Test.YtbihhcbbjdjhcaaDraw3
import Derived.Test.YtbihhcbbjdjhcaaSetS
namespace Go.Proofs.Ytbihhcbbjdjhcaa
open Go.RowKit Go.BigFrame
set_option linter.unusedVariables false
/-! labels that are drawn -/
def smallL (ls : List (ByteArray × ByteArray)) : Prop := ∀ p ∈ ls, p.1.size ≤ 25 ∧ p.2.size ≤ 25
theorem smallL.ok {ls : List (ByteArray × ByteArray)} (h : smallL ls) : okSizes ls := fun p hp => by
  have := h p hp
  unfold maxLen
  omega
def cntL (b : Bool) : Nat := if b then 0 else 1
theorem cntL_t : cntL true = 0 := rfl
theorem cntL_f : cntL false = 1 := rfl
theorem setStep_len (key val : ByteArray) (o : List (ByteArray × ByteArray) × Bool) (x : ByteArray × ByteArray) : (setStep key val o x).1.length + cntL (setStep key val o x).2 ≤ o.1.length + 1 + cntL o.2 := by
  obtain ⟨o1, o2⟩ := o
  unfold setStep
  simp only
  cases o2 <;> simp only [Bool.not_true, Bool.not_false, Bool.true_and, Bool.false_and, cntL_t, cntL_f] <;> split <;> split <;> simp_all [cntL_t, cntL_f] <;> omega
theorem setTo_len1 (key val : ByteArray) : ∀ (ls : List (ByteArray × ByteArray)) (o : List (ByteArray × ByteArray) × Bool), (ls.foldl (setStep key val) o).1.length + cntL (ls.foldl (setStep key val) o).2 ≤ o.1.length + ls.length + cntL o.2
  | [], o => Nat.le_refl _
  | x :: r, o => by
    have ih := setTo_len1 key val r (setStep key val o x)
    have h := setStep_len key val o x
    simp only [List.foldl_cons, List.length_cons]
    omega
theorem setTo_mem (key val : ByteArray) : ∀ (ls : List (ByteArray × ByteArray)) (o : List (ByteArray × ByteArray) × Bool) (p : ByteArray × ByteArray), p ∈ (ls.foldl (setStep key val) o).1 → p ∈ o.1 ∨ p ∈ ls ∨ p = (key, val)
  | [], o, p, h => .inl h
  | x :: r, o, p, h => by
    rw [List.foldl_cons] at h
    rcases setTo_mem key val r _ p h with h | h | h
    · have : p ∈ o.1 ∨ p = x ∨ p = (key, val) := by
        obtain ⟨o1, o2⟩ := o
        unfold setStep at h
        simp only at h
        split at h <;> split at h <;> simp at h <;> grind
      rcases this with h | h | h
      · exact .inl h
      · exact .inr (.inl (by rw [h]; exact List.mem_cons_self))
      · exact .inr (.inr h)
    · exact .inr (.inl (List.mem_cons_of_mem _ h))
    · exact .inr (.inr h)
theorem setR_lenD (ls : List (ByteArray × ByteArray)) (key val : ByteArray) : (setR ls key val).1.length ≤ ls.length + 1 := by
  unfold setR
  split
  · have h := setTo_len1 key val ls ([], false)
    rw [cntL_f, List.length_nil, Nat.zero_add] at h
    unfold setAll setTo
    split
    · exact Nat.le_trans (Nat.le_add_right _ _) h
    · rename_i hq
      have e : (ls.foldl (setStep key val) ([], false)).2 = false := by simpa using hq
      rw [e, cntL_f] at h
      simp only [List.length_append, List.length_singleton]
      exact h
  · exact Nat.le_succ _
theorem setR_small {ls : List (ByteArray × ByteArray)} {key val : ByteArray} (h : smallL ls) (hk : key.size ≤ 25) (hv : val.size ≤ 25) : smallL (setR ls key val).1 := by
  intro p hp
  have : p ∈ ls ∨ p = (key, val) := by
    unfold setR at hp
    split at hp
    · unfold setAll setTo at hp
      split at hp
      · rcases setTo_mem key val ls _ p hp with g | g | g
        · cases g
        · exact .inl g
        · exact .inr g
      · rcases List.mem_append.1 hp with hp | hp
        · rcases setTo_mem key val ls _ p hp with g | g | g
          · cases g
          · exact .inl g
          · exact .inr g
        · exact .inr (by simpa using hp)
    · exact .inl hp
  rcases this with g | rfl
  · exact h p g
  · exact ⟨hk, hv⟩
theorem names_small : ∀ s ∈ drawnNames ++ drawnOdd, s.size ≤ 25 := by decide
theorem labs_of_owns' {w : World} {base g n cap : Nat} {e : TypeId} {ls : List (ByteArray × ByteArray)} (h : w.ownsRow base e 2 (.slice (some ⟨g, 0, none⟩) n cap) n (flat ls)) : labsAt w g 0 ls := by
  intro i hi
  obtain ⟨b, off, e, h'⟩ := row_of_owns h (by omega)
  cases e
  exact h' i hi
theorem wrap_pred {k : Nat} (h : 0 < k ∧ k ≤ 8) : wrap64 ((k : Int) - 1) = ((k - 1 : Nat) : Int) := by simp only [wrap64]; omega
set_option maxRecDepth 100000 in
set_option maxHeartbeats 1600000 in
theorem l1Draw_any (d n cap m : Nat) (a : Option Addr) (w : World) (hn : n ≤ 1048576) (hm0 : 0 < m) (hm : m ≤ 9) (hc : CurIn w d a n cap) :
    Calls Try.prog 26 #[.pointer (some ⟨d, 0, none⟩), .int .i64 m] w fun e w' => ∃ (ls : List (ByteArray × ByteArray)) (g c : Nat), e = .returned (.slice (some ⟨g, 0, none⟩) ls.length c) ∧ Hid (ls.length ≤ 8 ∧ smallL ls) ∧
      Hid (w'.ownsRow w.heap.size 43 2 (.slice (some ⟨g, 0, none⟩) ls.length c) ls.length (flat ls)) ∧ Hid (CurIn w' d a n cap) ∧ Hid (Out d (d + 1) w w') := by
  have Hc : Hid (CurIn (w.alloc (.cells #[] 43)) d a n cap) := hc.later ((Below.refl _ _).alloc (Nat.le_refl _) _)
  have Hd := hide hc.lt
  clear hc
  go_enter Try.func26, Try.ntmps26
  go_wp2_with fail
  refine (l1Below_any d n cap m a _ hn (by omega) Hc.out).mono ?_
  rintro e w1 ⟨q, hq, rfl, hc1, ho1⟩
  have hq8 : q ≤ 8 := by have := hq hm0; omega
  clear hq
  have O1 : Hid (Out d (d + 1) w w1) := (Out.of_below ((Below.refl _ _).alloc (Nat.le_refl _) _)).trans ho1
  have W0 : Hid (w1.ownsRow w.heap.size 43 2 (.slice (some ⟨w.heap.size, 0, none⟩) ([] : List (ByteArray × ByteArray)).length 0) ([] : List (ByteArray × ByteArray)).length (flat [])) :=
    owns_out (World.ownsRow_lit w #[] 0 (Nat.le_refl _) (by decide) rfl) ho1 (by intro g hg; cases hg; have := Hd.out; show w.heap.size < d ∨ d + 1 ≤ w.heap.size; omega)
  clear ho1 Hc
  go_wp2_with fail
  go_loopw [5, 6] (fun v i wr => ∃ (ls : List (ByteArray × ByteArray)) (g c k : Nat), v = .slice (some ⟨g, 0, none⟩) ls.length c ∧ i = .int .i64 k ∧ Hid (ls.length + k ≤ 8 ∧ smallL ls) ∧
      Hid (wr.ownsRow w.heap.size 43 2 (.slice (some ⟨g, 0, none⟩) ls.length c) ls.length (flat ls)) ∧ Hid (CurIn wr d a n cap) ∧ Hid (Out d (d + 1) w wr)) (fun _ i _ => (intOf i).toNat)
  case atStart => exact ⟨[], _, _, q, rfl, rfl, ⟨by simpa using hq8, fun p hp => by cases hp⟩, W0, hc1, O1⟩
  case round =>
    clear W0 O1 hc1 hq8
    obtain ⟨ls, g, c, k, rfl, rfl, Hs, Hw, Hc, Ho⟩ := hrel
    by_cases hk : 0 < k
    · have hk' : (0 : Int) < (k : Int) := by omega
      have hk8 : k ≤ 8 := by have := Hs.out.1; omega
      have Hk : Hid (0 < k ∧ k ≤ 8) := ⟨hk, hk8⟩
      have Hgd : Hid (g ≠ d) := by
        have h1 := (owns_blk Hw.out (g := g) rfl).1
        have h2 := Hd.out
        show g ≠ d
        omega
      go_wp2_with fail
      refine (l1Name_any d n cap a _ hn Hc.out.lt Hc.out).mono ?_
      rintro e w2 ⟨s1, hs1, rfl, hc2, ho2⟩
      have Hw2 := hide (owns_out Hw.out ho2 (by intro b hb; cases hb; have := Hgd.out; show g < d ∨ d + 1 ≤ g; omega))
      have O2 := hide (Ho.out.trans ho2)
      clear Hw Ho ho2 Hc
      go_wp2_with fail
      refine (l1Name_any d n cap a _ hn hc2.out.lt hc2.out).mono ?_
      rintro e w3 ⟨s2, hs2, rfl, hc3, ho3⟩
      have Hw3 := hide (owns_out Hw2.out ho3 (by intro b hb; cases hb; have := Hgd.out; show g < d ∨ d + 1 ≤ g; omega))
      have O3 := hide (O2.out.trans ho3)
      have z1 := names_small s1 (List.mem_append_left _ hs1)
      have z2 := names_small s2 (List.mem_append_left _ hs2)
      have Hset := hide (slabelSet_any g 0 c ls s1 s2 w3 (by have := Hs.out.1; omega) Hs.out.2.ok (by unfold maxLen; omega) (by unfold maxLen; omega) (labs_of_owns' Hw3.out))
      have Hs3 : Hid ((setR ls s1 s2).1.length + (k - 1) ≤ 8 ∧ smallL (setR ls s1 s2).1) := ⟨by have := setR_lenD ls s1 s2; have := Hs.out.1; omega, setR_small Hs.out.2 z1 z2⟩
      clear Hw2 O2 ho3 hc2 hs1 hs2 z1 z2 Hs
      generalize (setR ls s1 s2).1 = ls2 at *
      generalize (setR ls s1 s2).2 = b2 at *
      go_wp2_with fail
      refine Hset.out.mono ?_
      rintro e w4 ⟨g4, c4, rfl, ho4, hb4⟩
      have B4 := hide hb4
      have Hw4 := hide ho4
      clear hb4 ho4 Hset
      go_wp2
      go_roundw
      case rel => exact ⟨ls2, g4, c4, k - 1, rfl, by go_num, Hs3, owns_mono Hw4.out (by have := O3.out.size; omega), hc3.out.later B4.out, O3.out.trans (Out.of_below B4.out)⟩
      case measure => have := Hk.out; simp [intOf]; omega
    · have hk' : ¬ (0 : Int) < (k : Int) := by omega
      go_wp2
      go_ret
      exact ⟨ls, g, c, rfl, ⟨by have := Hs.out.1; omega, Hs.out.2⟩, Hw, Hc, Ho⟩
end Go.Proofs.Ytbihhcbbjdjhcaa
