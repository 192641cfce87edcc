/- impl.allHold, askedValues, termsAbout, canHold, Never. -/
import Derived.Test.YtbadjopaocindaaNeverS
import Derived.Test.YtbadjopaocindaaMatch2
namespace Go.Proofs.Ytbadjopaocindaa
open Go.RowKit Go.BigFrame
set_option linter.unusedVariables false

theorem holdAll_bad {fs : List TD} {v : ByteArray} {has : Bool} {k : Nat} (hk : k < fs.length) (h : holdsB (fs[k]'hk) v has = false) : holdAll fs v has = false := by
  unfold holdAll; rw [List.all_eq_false]; exact ⟨_, List.getElem_mem hk, by rw [h]; simp⟩
theorem holdAll_end {fs : List TD} {v : ByteArray} {has : Bool} (h : ∀ k (hk : k < fs.length), holdsB (fs[k]'hk) v has = true) : holdAll fs v has = true := by
  rw [holdAll_iff]; intro t ht; obtain ⟨i, hi, rfl⟩ := List.getElem_of_mem ht; exact h i hi

theorem iall_any (a : Option Addr) (cap : Nat) (fs : List TD) (v : ByteArray) (has : Bool) (w : World) (hl : fs.length ≤ maxLen) (hf : ∀ t ∈ fs, termB t = true) (hz : ∀ t ∈ fs, t.2.2.length ≤ maxLen) (hrow : ifsOf w a fs) :
    Calls Try.prog 112 #[.slice a fs.length cap, .string v, .bool has] w fun e w' => e = .returned (.bool (holdAll fs v has)) ∧ Below w.heap.size w w' := by
  unfold maxLen at hl
  have Hr := hide hrow
  have Hf := hide hf
  have Hz := hide hz
  clear hrow hf hz
  go_enter Try.func112, Try.ntmps112
  go_wp2
  go_loopw [11] (fun i wr => ∃ (k : Nat), k ≤ fs.length ∧ i = .int .i64 k ∧ Hid (∀ j (hj : j < fs.length), j < k → holdsB (fs[j]'hj) v has = true) ∧ Below w.heap.size w wr) (fun i _ => fs.length - (intOf i).toNat)
  case atStart => exact ⟨0, Nat.zero_le _, rfl, fun j hj h => by omega, Below.refl _ _⟩
  case round =>
    obtain ⟨k, hk, rfl, Hx, hbw⟩ := hrel
    by_cases hlt : k < fs.length
    · obtain ⟨b, off, rfl, hat⟩ := (Hr.out.below hbw) (by omega)
      obtain ⟨u, hc, av, capv, hu, hs⟩ := hat k hlt
      have Hb : Hid (holdsB (fs[k]'hlt) v has = false → holdAll fs v has = false) := fun h => holdAll_bad hlt h
      have Hs : Hid (holdsB (fs[k]'hlt) v has = true → ∀ j (hj : j < fs.length), j < k + 1 → holdsB (fs[j]'hj) v has = true) := fun h j hj hjk => by
        by_cases e : j = k
        · subst e; exact h
        · exact Hx.out j hj (by omega)
      have hcon := iholds_any (fs[k]'hlt) u v has av capv wr (Hf.out _ (List.getElem_mem hlt)) (Hz.out _ (List.getElem_mem hlt)) hu hs.1
      obtain ⟨ty, iv, rfl⟩ := isV_if hu
      clear hat Hx hs hu
      generalize fs[k]'hlt = t at *
      cases hh : holdsB t v has
      · rw [hh] at hcon
        have Hcon := hide hcon
        have Hn := hide (Hb.out hh)
        clear hcon hh Hb Hs
        go_wp2_with fail
        refine Hcon.out.mono ?_
        rintro e w2 ⟨rfl, hb2⟩
        go_wp2
        go_ret
        exact ⟨ret_bool Hn.out.symm, hbw.trans (hb2.mono hbw.size)⟩
      · rw [hh] at hcon
        have Hcon := hide hcon
        have Hn := hide (Hs.out hh)
        clear hcon hh Hb Hs
        go_wp2_with fail
        refine Hcon.out.mono ?_
        rintro e w2 ⟨rfl, hb2⟩
        go_wp2
        go_roundw
        case rel => exact ⟨k + 1, by omega, by go_num, Hn, hbw.trans (hb2.mono hbw.size)⟩
        case measure => simp [intOf]; omega
    · have e : k = fs.length := by omega
      subst e
      have Hn := hide (holdAll_end fun i hi => Hx.out i hi hi)
      clear Hx Hr
      go_wp2
      go_ret
      exact ⟨ret_bool Hn.out.symm, hbw⟩

theorem no_notTerm_inTerm (W : World) (v : Value) : (Instr.typeAssert (.iface 134 v) 81 136 true).run Try.prog W = .ok (.tuple #[.agg #[.string ⟨#[]⟩, .slice none 0 0], .bool false]) W := by kernel_rfl
def askPost (w : World) (L : List ByteArray) (e : Ending) (w' : World) : Prop := ∃ a' cap', e = .returned (.slice a' L.length cap') ∧ strOf w' a' L ∧ Below w.heap.size w w'
theorem askPost_mk {w w' : World} {L : List ByteArray} {a' : Option Addr} {n cap' : Nat} (hn : n = L.length) (h : strOf w' a' L) (hb : Below w.heap.size w w') : askPost w L (.returned (.slice a' n cap')) w' := by
  subst hn; exact ⟨_, _, rfl, h, hb⟩
set_option maxRecDepth 100000 in
theorem iask_any (t : TD) (u : Value) (a : Option Addr) (cap : Nat) (w : World) (hu : isV u t a cap) (hrow : strOf w a t.2.2) :
    Calls Try.prog 113 #[u] w (askPost w (askOf t)) := by
  obtain ⟨kd, key, ss⟩ := t
  have Hr := hide hrow
  clear hrow
  rcases hu with ⟨h1, rfl⟩ | ⟨h1, rfl⟩ | ⟨h1, rfl⟩ | ⟨h1, rfl⟩ | ⟨h1, rfl⟩
  all_goals
    simp only at h1
    subst h1
  · have fy := as_isTerm
    have HA : Hid (askOf (1, key, ss) = [ssAt ss 0]) := rfl
    simp only
    generalize ssAt ss 0 = V at *
    generalize askOf (1, key, ss) = A at *
    obtain rfl := HA.out
    go_enter Try.func113, Try.ntmps113
    go_wp2
    go_ret
    refine askPost_mk rfl ?_ (((Below.refl _ _).alloc (by simp) _).alloc (by simp) _)
    intro _
    refine ⟨w.heap.size + 1, 0, rfl, fun i hi => ?_⟩
    simp only [List.length_cons, List.length_nil] at hi
    have hi0 : i = 0 := by omega
    subst hi0
    simp [go_sem]
  · have f0 := no_notTerm_isTerm
    have f1 := no_notTerm_inTerm
    have HA : Hid (askOf (2, key, ss) = []) := rfl
    simp only
    generalize askOf (2, key, ss) = A at *
    obtain rfl := HA.out
    go_enter Try.func113, Try.ntmps113
    go_wp2
    go_ret
    exact askPost_mk rfl (fun h => by simp at h) (Below.refl _ _)
  · have f0 := no_inTerm_isTerm
    have fy := as_inTerm
    have HA : Hid (askOf (3, key, ss) = ss) := rfl
    simp only
    generalize askOf (3, key, ss) = A at *
    obtain rfl := HA.out
    go_enter Try.func113, Try.ntmps113
    go_wp2
    go_ret
    exact askPost_mk rfl (Hr.out.below ((Below.refl _ _).alloc (by simp) _)) ((Below.refl _ _).alloc (by simp) _)
  · have f0 := no_hasTerm_isTerm
    have f1 := no_hasTerm_inTerm
    have HA : Hid (askOf (4, key, ss) = []) := rfl
    simp only
    generalize askOf (4, key, ss) = A at *
    obtain rfl := HA.out
    go_enter Try.func113, Try.ntmps113
    go_wp2
    go_ret
    exact askPost_mk rfl (fun h => by simp at h) (Below.refl _ _)
  · have f0 := no_lacksTerm_isTerm
    have f1 := no_lacksTerm_inTerm
    have HA : Hid (askOf (5, key, ss) = []) := rfl
    simp only
    generalize askOf (5, key, ss) = A at *
    obtain rfl := HA.out
    go_enter Try.func113, Try.ntmps113
    go_wp2
    go_ret
    exact askPost_mk rfl (fun h => by simp at h) (Below.refl _ _)
end Go.Proofs.Ytbadjopaocindaa
