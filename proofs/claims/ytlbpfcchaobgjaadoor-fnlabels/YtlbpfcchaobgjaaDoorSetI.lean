/- impl.LabelSet answers what spec.LabelSet answers. -/
import Derived.Test.YtlbpfcchaobgjaaDoorSetP
namespace Go.Proofs.YtlbpfcchaobgjaaDoor
open Go.RowKit Go.BigFrame
set_option linter.unusedVariables false
theorem setOk_bad {ls : List (ByteArray × ByteArray)} (key val : ByteArray) (h : labelsB ls = false) : setOk ls key val = false := by unfold setOk; rw [h]; rfl
theorem setOk_put {ls : List (ByteArray × ByteArray)} {key : ByteArray} {p : Nat} (val : ByteArray) (h : labelsB ls = true) (hb : between ls key p p) (hp : p ≤ ls.length) : setOk ls key val = labelsB (putL ls p key val) := by
  rw [labelsB_put val h hb hp]; unfold setOk; rw [h, Bool.true_and]
theorem setR_len {ls : List (ByteArray × ByteArray)} (key val : ByteArray) (hl : ls.length ≤ 1048576) : (setR ls key val).1.length ≤ 1048576 := by
  unfold setR
  split
  · rename_i h
    have hb : labelsB ls = true := by unfold setOk at h; simp only [Bool.and_eq_true] at h; exact h.1.1.1
    have h8 := labelsB_len' hb
    have h1 := setTo_len key val ls ([], false)
    have h2 : (setTo key val ls).1.length ≤ 16 := by unfold setTo; simp only [List.length_nil] at h1; omega
    show (setAll key val ls).length ≤ _
    unfold setAll
    split
    · omega
    · rw [List.length_append]; simp only [List.length_cons, List.length_nil]; omega
  · exact hl
theorem labs_of_owns {w : World} {base g n cap : Nat} {e : TypeId} {ls : List (ByteArray × ByteArray)} (h : w.ownsRow base e 2 (.slice (some ⟨g, 0, none⟩) n cap) n (flat ls)) : labsAt w g 0 ls := by
  intro i hi
  obtain ⟨b, off, e, h'⟩ := row_of_owns h (by omega)
  cases e
  exact h' i hi
set_option maxRecDepth 1000000 in
set_option maxHeartbeats 1600000 in
theorem ilabelSet_any (b off cap : Nat) (ls : List (ByteArray × ByteArray)) (key val : ByteArray) (w : World) (hl : ls.length ≤ 1048576) (hrow : labsAt w b off ls) :
    Calls Tryd.prog 10 #[.slice (some ⟨b, off, none⟩) ls.length cap, .string key, .string val] w fun e w' => ∃ g cap', e = .returned (.tuple #[.slice (some ⟨g, 0, none⟩) (setR ls key val).1.length cap', .bool (setR ls key val).2]) ∧
      w'.ownsRow w.heap.size 33 2 (.slice (some ⟨g, 0, none⟩) (setR ls key val).1.length cap') (setR ls key val).1.length (flat (setR ls key val).1) ∧ Below w.heap.size w w' := by
  have hlm : ls.length ≤ maxLen := by unfold maxLen; omega
  have hlab := fun a cap wx => ilabelsOk_any a cap ls wx hlm
  have Hat := hide hrow
  clear hrow
  rcases Bool.eq_false_or_eq_true (labelsB ls) with hb | hb
  · have ha := asc_of hb
    have h8 := labelsB_len' hb
    rw [hb] at hlab
    have Hlab := hide hlab
    have Hlb := hide hb
    clear hlab hb
    go_enter Tryd.func10, Tryd.ntmps10
    go_wp2_with fail
    refine (Hlab.out _ _ _ (fun _ => ⟨b, off, rfl, Hat.out⟩)).mono ?_
    rintro e w1 ⟨rfl, hb1⟩
    have Hb1 := hide hb1
    have Hat1 := hide (Hat.out.below hb1)
    clear hb1 Hlab
    have Hat2 : Hid (labsAt (w1.alloc (.cells #[.string key, .string val] 33)) b off ls) := Hat1.out.below ((Below.refl _ _).alloc (Nat.le_refl _) _)
    have Hv2 : Hid ((w1.alloc (.cells #[.string key, .string val] 33)).cell? ⟨w1.heap.size, 0, none⟩ = some (.string key) ∧ (w1.alloc (.cells #[.string key, .string val] 33)).cell? ⟨w1.heap.size, 1, none⟩ = some (.string val)) := ⟨by simp, by simp⟩
    go_wp2_with fail
    refine (withOne_any b off cap w1.heap.size 1 ls key val _ (by omega) ha Hat2.out Hv2.out).mono ?_
    rintro e w3 ⟨p, g, n, cap3, hbt, hp, hn, rfl, ho3, hb3⟩
    have Hb3 : Hid (Below w.heap.size w w3) := (Hb1.out.alloc Hb1.out.size _).trans (hb3.mono (by have := Hb1.out.size; simp; omega))
    have hok := setOk_put val Hlb.out hbt hp
    have hall := setAll_put val ha hbt hp
    have Hat3 : Hid (labsAt w3 b off ls) := Hat.out.below Hb3.out
    generalize putL ls p key val = P at *
    subst hn
    have Ho3 : Hid (w3.ownsRow w.heap.size 33 2 (.slice (some ⟨g, 0, none⟩) P.length cap3) P.length (flat P)) := owns_base ho3 (by have := Hb1.out.size; simp; omega)
    have hPl : P.length ≤ maxLen := by
      rcases ho3.2 with ⟨h, _⟩ | ⟨_, cp, _, h, _, _, h1, h2, _⟩
      · cases h
      · cases h; omega
    have hlabP := fun a cap wx => ilabelsOk_any a cap P wx hPl
    clear ho3 hb3 hbt hp Hat2 Hv2 Hat1
    rcases Bool.eq_false_or_eq_true (labelsB P) with hP | hP
    · have HR : Hid (setR ls key val = (P, true)) := by show _ = _; unfold setR; rw [hok, hP, if_pos rfl, hall]
      rw [hP] at hlabP
      have HlabP := hide hlabP
      clear hlabP hP hok hall
      go_wp2_with fail
      refine (HlabP.out _ _ _ (row_of_owns Ho3.out)).mono ?_
      rintro e w4 ⟨rfl, hb4⟩
      have Ho4 := hide (owns_below Ho3.out hb4)
      have Hb4 := hide (Hb3.out.trans (hb4.mono Hb3.out.size))
      clear hb4
      go_wp2
      go_ret2
      rw [HR.out]
      exact ⟨g, cap3, rfl, Ho4.out, Hb4.out⟩
    · have HR : Hid (setR ls key val = (ls, false)) := by show _ = _; unfold setR; rw [hok, hP, if_neg (by decide)]
      rw [hP] at hlabP
      have HlabP := hide hlabP
      clear hlabP hP hok hall
      go_wp2_with fail
      refine (HlabP.out _ _ _ (row_of_owns Ho3.out)).mono ?_
      rintro e w4 ⟨rfl, hb4⟩
      have Hat4 := hide (Hat3.out.below hb4)
      have Hb4 := hide (Hb3.out.trans (hb4.mono Hb3.out.size))
      clear hb4
      go_wp2_with fail
      refine (withNone_any b off cap ls _ (by omega) Hat4.out).mono ?_
      rintro e w5 ⟨g5, cap5, rfl, ho5, hb5⟩
      have Ho5 := hide (owns_base ho5 Hb4.out.size)
      have Hb5 := hide (Hb4.out.trans (hb5.mono Hb4.out.size))
      clear ho5 hb5
      go_wp2
      go_ret2
      rw [HR.out]
      exact ⟨g5, cap5, rfl, Ho5.out, Hb5.out⟩
  · have HR : Hid (setR ls key val = (ls, false)) := by show _ = _; unfold setR; rw [setOk_bad key val hb, if_neg (by decide)]
    rw [hb] at hlab
    have Hlab := hide hlab
    clear hlab hb
    go_enter Tryd.func10, Tryd.ntmps10
    go_wp2_with fail
    refine (Hlab.out _ _ _ (fun _ => ⟨b, off, rfl, Hat.out⟩)).mono ?_
    rintro e w4 ⟨rfl, hb4⟩
    have Hat4 := hide (Hat.out.below hb4)
    have Hb4 := hide hb4
    clear hb4
    go_wp2_with fail
    refine (withNone_any b off cap ls _ (by omega) Hat4.out).mono ?_
    rintro e w5 ⟨g5, cap5, rfl, ho5, hb5⟩
    have Ho5 := hide (owns_base ho5 Hb4.out.size)
    have Hb5 := hide (Hb4.out.trans (hb5.mono Hb4.out.size))
    clear ho5 hb5
    go_wp2
    go_ret2
    rw [HR.out]
    exact ⟨g5, cap5, rfl, Ho5.out, Hb5.out⟩
end Go.Proofs.YtlbpfcchaobgjaaDoor
