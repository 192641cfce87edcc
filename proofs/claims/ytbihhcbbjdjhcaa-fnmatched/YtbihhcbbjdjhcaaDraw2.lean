import Derived.Test.YtbihhcbbjdjhcaaDraw1
namespace Go.Proofs.Ytbihhcbbjdjhcaa
open Go.RowKit Go.BigFrame
set_option linter.unusedVariables false
/-- the names that are drawn -/
def drawnNames : List ByteArray := [⟨#[97]⟩, ⟨#[98]⟩, ⟨#[99]⟩, ⟨#[122, 111, 110, 101]⟩, ⟨#[116, 105, 101, 114]⟩, ⟨#[103, 111, 108, 100]⟩, ⟨#[101, 97, 115, 116]⟩, ⟨#[120, 45, 49]⟩, ⟨#[97, 98, 99, 100, 101, 102, 103, 104, 105, 106, 107, 108, 109, 110, 111, 112, 113, 114, 115, 116]⟩]
def drawnOdd : List ByteArray := [⟨#[]⟩, ⟨#[45, 97]⟩, ⟨#[97, 45]⟩, ⟨#[65]⟩, ⟨#[97, 32, 98]⟩, ⟨#[97, 98, 99, 100, 101, 102, 103, 104, 105, 106, 107, 108, 109, 110, 111, 112, 113, 114, 115, 116, 117]⟩, ⟨#[255]⟩, ⟨#[97, 61, 98]⟩]
theorem strAt_lit (w : World) (t : TypeId) (ss : List ByteArray) : strAt (w.alloc (.cells (ss.map Value.string).toArray t)) w.heap.size 0 ss := by
  intro i hi
  refine (World.cell?_alloc_at _ _ _ _ rfl).trans ?_
  simp [hi]
theorem l1Str_lit (d n cap : Nat) (a : Option Addr) (ss : List ByteArray) (w : World) (hn : n ≤ 1048576) (hl : ss.length ≤ 1048576) (h0 : 0 < ss.length) (hd : d < w.heap.size) (hc : CurIn w d a n cap) :
    Calls Try.prog 34 #[.pointer (some ⟨d, 0, none⟩), .slice (some ⟨w.heap.size, 0, none⟩) ss.length ss.length] (w.alloc (.cells (ss.map Value.string).toArray 9)) fun e w' => ∃ s, s ∈ ss ∧ e = .returned (.string s) ∧ Hid (CurIn w' d a n cap) ∧ Out d (d + 1) w w' :=
  (l1Str_any d n cap w.heap.size 0 ss.length a ss _ hn hl h0 (hc.later ((Below.refl _ _).alloc (Nat.le_refl _) _)) (strAt_lit w 9 ss) (by omega)).mono fun e w' ⟨s, h1, h2, h3, h4⟩ => ⟨s, h1, h2, h3, (Out.of_below ((Below.refl _ _).alloc (Nat.le_refl _) _)).trans h4⟩
set_option maxHeartbeats 800000 in
theorem l1Name_any (d n cap : Nat) (a : Option Addr) (w : World) (hn : n ≤ 1048576) (hd : d < w.heap.size) (hc : CurIn w d a n cap) :
    Calls Try.prog 33 #[.pointer (some ⟨d, 0, none⟩)] w fun e w' => ∃ s, s ∈ drawnNames ∧ e = .returned (.string s) ∧ Hid (CurIn w' d a n cap) ∧ Out d (d + 1) w w' := by
  have Hs := hide (l1Str_lit d n cap a drawnNames w hn (by decide) (by decide) hd hc)
  clear hc
  go_enter Try.func33, Try.ntmps33
  go_wp2_with (go_at_call 34; refine Hs.out.mono ?_; rintro e w2 ⟨s, hs, rfl, hc2, ho2⟩)
  go_wp2
  go_ret
  exact ⟨s, hs, rfl, hc2, ho2⟩
theorem CurIn.lt {w : World} {d : Nat} {a : Option Addr} {n cap : Nat} (c : CurIn w d a n cap) : d < w.heap.size := by
  obtain ⟨i, h, c⟩ := c
  exact c.lt
set_option maxHeartbeats 800000 in
theorem l1NameAny_any (d n cap : Nat) (a : Option Addr) (w : World) (hn : n ≤ 1048576) (hc : CurIn w d a n cap) :
    Calls Try.prog 25 #[.pointer (some ⟨d, 0, none⟩)] w fun e w' => ∃ s, s ∈ drawnNames ++ drawnOdd ∧ e = .returned (.string s) ∧ Hid (CurIn w' d a n cap) ∧ Out d (d + 1) w w' := by
  have Hc := hide hc
  clear hc
  go_enter Try.func25, Try.ntmps25
  go_wp2_with (go_at_call 12; refine (l1Once_any d n cap 8 a _ hn (by decide) Hc.out).mono ?_; rintro e w2 ⟨o, rfl, hc2, ho2⟩; have Hs := hide (l1Str_lit d n cap a drawnOdd w2 hn (by decide) (by decide) hc2.out.lt hc2.out); have Hn := hide (l1Name_any d n cap a w2 hn hc2.out.lt hc2.out); cases o)
  · go_wp2_with (go_at_call 33; refine Hn.out.mono ?_; rintro e w3 ⟨s, hs, rfl, hc3, ho3⟩)
    go_wp2
    go_ret
    exact ⟨s, List.mem_append_left _ hs, rfl, hc3, ho2.trans ho3⟩
  · go_wp2_with (go_at_call 34; refine Hs.out.mono ?_; rintro e w3 ⟨s, hs, rfl, hc3, ho3⟩)
    go_wp2
    go_ret
    exact ⟨s, List.mem_append_right _ hs, rfl, hc3, ho2.trans ho3⟩
end Go.Proofs.Ytbihhcbbjdjhcaa
