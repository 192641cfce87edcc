/- HubNew: the helpers of its law at the hub that it answers: its lists are empty. -/
import Derived.Test.YtdnodaoeflbfkaaChecked
import Derived.WalkKit
import Derived.WalkSpells
import Derived.WalkLawsBesides
import Derived.Below
namespace Go.Proofs.Ytdnodaoeflbfkaa
open Go.RowKit Go.BigFrame
set_option linter.unusedVariables false
namespace HN
theorem uhid {p : Prop} (h : p) : Hid p := h
theorem sNew (w : World) : Calls Try.prog 11 #[] w fun e w' => e = .returned (.agg #[.int .i64 0, .int .i64 1, .int .i64 0, .slice none 0 0, .slice none 0 0, .slice none 0 0, .slice none 0 0]) ∧ Below w.heap.size w w' := by
  go_enter Try.func11, Try.ntmps11
  go_wp2
  refine bodyPost_ret (v := .agg #[.int .i64 0, .int .i64 1, .int .i64 0, .slice none 0 0, .slice none 0 0, .slice none 0 0, .slice none 0 0]) ?_ rfl ⟨rfl, ?_⟩
  · simp [results, Try.results11, go_sem]
  · repeat (first | with_reducible exact (Below.refl _ _).alloc (Nat.le_refl _) _ | with_reducible refine Below.setCell ?_ (by simp <;> omega) _)
theorem iNew (w : World) : Calls Try.prog 12 #[] w fun e w' => e = .returned (.agg #[.int .i64 0, .int .i64 1, .int .i64 0, .slice none 0 0, .slice none 0 0, .slice none 0 0, .slice none 0 0]) ∧ Below w.heap.size w w' := by
  go_enter Try.func12, Try.ntmps12
  go_wp2
  refine bodyPost_ret (v := .agg #[.int .i64 0, .int .i64 1, .int .i64 0, .slice none 0 0, .slice none 0 0, .slice none 0 0, .slice none 0 0]) ?_ rfl ⟨rfl, ?_⟩
  · simp [results, Try.results12, go_sem]
  · repeat (first | with_reducible exact (Below.refl _ _).alloc (Nat.le_refl _) _ | with_reducible refine Below.setCell ?_ (by simp <;> omega) _)
set_option maxRecDepth 40000 in
theorem eqJ (w : World) : Calls Try.prog 49 #[.slice none 0 0, .slice none 0 0] w fun e w' => e = .returned (.bool true) ∧ Below w.heap.size w w' := by
  go_enter Try.func49, Try.ntmps49
  go_wp2
  go_loopw [5] (fun i wr => i = .int .i64 0 ∧ wr = w) (fun _ _ => 0)
  case atStart => exact ⟨rfl, rfl⟩
  case round =>
    obtain ⟨rfl, rfl⟩ := hrel
    go_wp2
    go_ret
    exact ⟨rfl, Below.refl _ _⟩
set_option maxRecDepth 40000 in
theorem eqP (w : World) : Calls Try.prog 50 #[.slice none 0 0, .slice none 0 0] w fun e w' => e = .returned (.bool true) ∧ Below w.heap.size w w' := by
  go_enter Try.func50, Try.ntmps50
  go_wp2
  go_loopw [5] (fun i wr => i = .int .i64 0 ∧ wr = w) (fun _ _ => 0)
  case atStart => exact ⟨rfl, rfl⟩
  case round =>
    obtain ⟨rfl, rfl⟩ := hrel
    go_wp2
    go_ret
    exact ⟨rfl, Below.refl _ _⟩
set_option maxRecDepth 40000 in
theorem eqH (w : World) : Calls Try.prog 51 #[.slice none 0 0, .slice none 0 0] w fun e w' => e = .returned (.bool true) ∧ Below w.heap.size w w' := by
  go_enter Try.func51, Try.ntmps51
  go_wp2
  go_loopw [5] (fun i wr => i = .int .i64 0 ∧ wr = w) (fun _ _ => 0)
  case atStart => exact ⟨rfl, rfl⟩
  case round =>
    obtain ⟨rfl, rfl⟩ := hrel
    go_wp2
    go_ret
    exact ⟨rfl, Below.refl _ _⟩
set_option maxRecDepth 40000 in
theorem eqS (w : World) : Calls Try.prog 52 #[.slice none 0 0, .slice none 0 0] w fun e w' => e = .returned (.bool true) ∧ Below w.heap.size w w' := by
  go_enter Try.func52, Try.ntmps52
  go_wp2
  go_loopw [5] (fun i wr => i = .int .i64 0 ∧ wr = w) (fun _ _ => 0)
  case atStart => exact ⟨rfl, rfl⟩
  case round =>
    obtain ⟨rfl, rfl⟩ := hrel
    go_wp2
    go_ret
    exact ⟨rfl, Below.refl _ _⟩
set_option maxRecDepth 40000 in
theorem mkJ (k : Int) (w : World) : Calls Try.prog 53 #[.slice none 0 0, .int .i64 k] w fun e w' => e = .returned (.int .i64 k) ∧ Below w.heap.size w w' := by
  go_enter Try.func53, Try.ntmps53
  go_wp2
  go_loopw [1, 5] (fun s i wr => i = .int .i64 0 ∧ s = .int .i64 k ∧ wr = w) (fun _ _ _ => 0)
  case atStart => exact ⟨rfl, rfl, rfl⟩
  case round =>
    obtain ⟨rfl, rfl, rfl⟩ := hrel
    go_wp2
    go_ret
    exact ⟨rfl, Below.refl _ _⟩
set_option maxRecDepth 40000 in
theorem mkP (k : Int) (w : World) : Calls Try.prog 54 #[.slice none 0 0, .int .i64 k] w fun e w' => e = .returned (.int .i64 k) ∧ Below w.heap.size w w' := by
  go_enter Try.func54, Try.ntmps54
  go_wp2
  go_loopw [1, 5] (fun s i wr => i = .int .i64 0 ∧ s = .int .i64 k ∧ wr = w) (fun _ _ _ => 0)
  case atStart => exact ⟨rfl, rfl, rfl⟩
  case round =>
    obtain ⟨rfl, rfl, rfl⟩ := hrel
    go_wp2
    go_ret
    exact ⟨rfl, Below.refl _ _⟩
set_option maxRecDepth 40000 in
theorem mkH (k : Int) (w : World) : Calls Try.prog 55 #[.slice none 0 0, .int .i64 k] w fun e w' => e = .returned (.int .i64 k) ∧ Below w.heap.size w w' := by
  go_enter Try.func55, Try.ntmps55
  go_wp2
  go_loopw [1, 5] (fun s i wr => i = .int .i64 0 ∧ s = .int .i64 k ∧ wr = w) (fun _ _ _ => 0)
  case atStart => exact ⟨rfl, rfl, rfl⟩
  case round =>
    obtain ⟨rfl, rfl, rfl⟩ := hrel
    go_wp2
    go_ret
    exact ⟨rfl, Below.refl _ _⟩
set_option maxRecDepth 40000 in
theorem mkS (k : Int) (w : World) : Calls Try.prog 56 #[.slice none 0 0, .int .i64 k] w fun e w' => e = .returned (.int .i64 k) ∧ Below w.heap.size w w' := by
  go_enter Try.func56, Try.ntmps56
  go_wp2
  go_loopw [1, 5] (fun s i wr => i = .int .i64 0 ∧ s = .int .i64 k ∧ wr = w) (fun _ _ _ => 0)
  case atStart => exact ⟨rfl, rfl, rfl⟩
  case round =>
    obtain ⟨rfl, rfl, rfl⟩ := hrel
    go_wp2
    go_ret
    exact ⟨rfl, Below.refl _ _⟩
set_option maxRecDepth 40000 in
theorem hdJ (k : Int) (w : World) : Calls Try.prog 57 #[.slice none 0 0, .int .i64 k] w fun e w' => e = .returned (.int .i64 k) ∧ Below w.heap.size w w' := by
  go_enter Try.func57, Try.ntmps57
  go_wp2
  go_loopw [1, 5] (fun s i wr => i = .int .i64 0 ∧ s = .int .i64 k ∧ wr = w) (fun _ _ _ => 0)
  case atStart => exact ⟨rfl, rfl, rfl⟩
  case round =>
    obtain ⟨rfl, rfl, rfl⟩ := hrel
    go_wp2
    go_ret
    exact ⟨rfl, Below.refl _ _⟩
set_option maxRecDepth 40000 in
theorem hdP (k : Int) (w : World) : Calls Try.prog 58 #[.slice none 0 0, .int .i64 k] w fun e w' => e = .returned (.int .i64 k) ∧ Below w.heap.size w w' := by
  go_enter Try.func58, Try.ntmps58
  go_wp2
  go_loopw [1, 5] (fun s i wr => i = .int .i64 0 ∧ s = .int .i64 k ∧ wr = w) (fun _ _ _ => 0)
  case atStart => exact ⟨rfl, rfl, rfl⟩
  case round =>
    obtain ⟨rfl, rfl, rfl⟩ := hrel
    go_wp2
    go_ret
    exact ⟨rfl, Below.refl _ _⟩
set_option maxRecDepth 40000 in
theorem hdH (k : Int) (w : World) : Calls Try.prog 59 #[.slice none 0 0, .int .i64 k] w fun e w' => e = .returned (.int .i64 k) ∧ Below w.heap.size w w' := by
  go_enter Try.func59, Try.ntmps59
  go_wp2
  go_loopw [1, 5] (fun s i wr => i = .int .i64 0 ∧ s = .int .i64 k ∧ wr = w) (fun _ _ _ => 0)
  case atStart => exact ⟨rfl, rfl, rfl⟩
  case round =>
    obtain ⟨rfl, rfl, rfl⟩ := hrel
    go_wp2
    go_ret
    exact ⟨rfl, Below.refl _ _⟩
set_option maxRecDepth 40000 in
theorem hdS (k : Int) (w : World) : Calls Try.prog 60 #[.slice none 0 0, .int .i64 k] w fun e w' => e = .returned (.int .i64 k) ∧ Below w.heap.size w w' := by
  go_enter Try.func60, Try.ntmps60
  go_wp2
  go_loopw [1, 5] (fun s i wr => i = .int .i64 0 ∧ s = .int .i64 k ∧ wr = w) (fun _ _ _ => 0)
  case atStart => exact ⟨rfl, rfl, rfl⟩
  case round =>
    obtain ⟨rfl, rfl, rfl⟩ := hrel
    go_wp2
    go_ret
    exact ⟨rfl, Below.refl _ _⟩
theorem eqB (w : World) : Calls Try.prog 13 #[.agg #[.int .i64 0, .int .i64 1, .int .i64 0, .slice none 0 0, .slice none 0 0, .slice none 0 0, .slice none 0 0], .agg #[.int .i64 0, .int .i64 1, .int .i64 0, .slice none 0 0, .slice none 0 0, .slice none 0 0, .slice none 0 0]] w fun e w' => e = .returned (.bool true) ∧ Below w.heap.size w w' := by
  have H1 := uhid eqJ
  have H2 := uhid eqP
  have H3 := uhid eqH
  have H4 := uhid eqS
  have hA : Hid (∀ o o', Below w.heap.size w ((w.alloc o).alloc o')) := fun o o' => ((Below.refl _ _).alloc (Nat.le_refl _) _).alloc (by simp) _
  go_enter Try.func13, Try.ntmps13
  go_wp2_with fail
  refine (H1.out _).mono ?_
  rintro e w1 ⟨rfl, hb1⟩
  have c1 : ∀ (j : Nat) v, (#[Value.int .i64 0, Value.int .i64 1, Value.int .i64 0, Value.slice none 0 0, Value.slice none 0 0, Value.slice none 0 0, Value.slice none 0 0] : Array Value)[j]? = some v → w1.cell? ⟨w.heap.size, j, none⟩ = some v := fun j v h => (hb1.cell (p := ⟨w.heap.size, j, none⟩) (by simp <;> omega)).trans (by simpa [go_sem] using h)
  have c2 : ∀ (j : Nat) v, (#[Value.int .i64 0, Value.int .i64 1, Value.int .i64 0, Value.slice none 0 0, Value.slice none 0 0, Value.slice none 0 0, Value.slice none 0 0] : Array Value)[j]? = some v → w1.cell? ⟨w.heap.size + 1, j, none⟩ = some v := fun j v h => (hb1.cell (p := ⟨w.heap.size + 1, j, none⟩) (by simp <;> omega)).trans (by simpa [go_sem] using h)
  have hs1 : w.heap.size + 1 < w1.heap.size := by have := hb1.size; simp at this; omega
  have B1 : Hid (Below w.heap.size w w1) := (hA.out _ _).trans (hb1.mono (by simp <;> omega))
  have d4 := c1 4 _ rfl
  have e4 := c2 4 _ rfl
  clear hb1
  have HC1 := uhid c1
  have HC2 := uhid c2
  have HS1 := uhid hs1
  clear c1 c2 hs1
  go_wp2_with fail
  refine (H2.out _).mono ?_
  rintro e w2 ⟨rfl, hb2⟩
  have B2 : Hid (Below w.heap.size w w2) := B1.out.trans (hb2.mono B1.out.size)
  have d5 := (hb2.cell (p := ⟨w.heap.size, 5, none⟩) (by have := HS1.out; simp <;> omega)).trans (HC1.out 5 _ rfl)
  have e5 := (hb2.cell (p := ⟨w.heap.size + 1, 5, none⟩) (by have := HS1.out; simp <;> omega)).trans (HC2.out 5 _ rfl)
  have d6 := uhid ((hb2.cell (p := ⟨w.heap.size, 6, none⟩) (by have := HS1.out; simp <;> omega)).trans (HC1.out 6 _ rfl))
  have e6 := uhid ((hb2.cell (p := ⟨w.heap.size + 1, 6, none⟩) (by have := HS1.out; simp <;> omega)).trans (HC2.out 6 _ rfl))
  have HS2 : Hid (w.heap.size + 1 < w2.heap.size) := Nat.lt_of_lt_of_le HS1.out hb2.size
  clear hb2 d4 e4 HC1 HC2 HS1
  go_wp2_with fail
  refine (H3.out _).mono ?_
  rintro e w3 ⟨rfl, hb3⟩
  have B3 : Hid (Below w.heap.size w w3) := B2.out.trans (hb3.mono B2.out.size)
  have d7 := (hb3.cell (p := ⟨w.heap.size, 6, none⟩) (by have := HS2.out; simp <;> omega)).trans d6.out
  have e7 := (hb3.cell (p := ⟨w.heap.size + 1, 6, none⟩) (by have := HS2.out; simp <;> omega)).trans e6.out
  clear hb3 d5 e5 d6 e6 HS2
  go_wp2_with fail
  refine (H4.out _).mono ?_
  rintro e w4 ⟨rfl, hb4⟩
  have B4 : Hid (Below w.heap.size w w4) := B3.out.trans (hb4.mono B3.out.size)
  clear hb4 d7 e7
  go_wp2
  go_ret
  exact ⟨rfl, B4.out⟩
theorem mkB (k : Int) (w : World) : Calls Try.prog 14 #[.agg #[.int .i64 0, .int .i64 1, .int .i64 0, .slice none 0 0, .slice none 0 0, .slice none 0 0, .slice none 0 0], .int .i64 k] w fun e w' => e = .returned (.int .i64 k) ∧ Below w.heap.size w w' := by
  have H1 := uhid mkJ
  have H2 := uhid mkP
  have H3 := uhid mkH
  have H4 := uhid mkS
  have hA : Hid (∀ o, Below w.heap.size w (w.alloc o)) := fun o => (Below.refl _ _).alloc (Nat.le_refl _) _
  go_enter Try.func14, Try.ntmps14
  go_wp2_with fail
  refine (H1.out _ _).mono ?_
  rintro e w1 ⟨rfl, hb1⟩
  have c1 : Hid (∀ (j : Nat) v, (#[Value.int .i64 0, Value.int .i64 1, Value.int .i64 0, Value.slice none 0 0, Value.slice none 0 0, Value.slice none 0 0, Value.slice none 0 0] : Array Value)[j]? = some v → w1.cell? ⟨w.heap.size, j, none⟩ = some v) := fun j v h => (hb1.cell (p := ⟨w.heap.size, j, none⟩) (by simp <;> omega)).trans (by simpa [go_sem] using h)
  have B1 : Hid (Below w.heap.size w w1) := (hA.out _).trans (hb1.mono (by simp <;> omega))
  have s1 : Hid (w.heap.size < w1.heap.size) := by have := hb1.size; simp at this; exact (show w.heap.size < w1.heap.size by omega)
  have d4 := c1.out 4 _ rfl
  clear hb1
  go_wp2_with fail
  refine (H2.out _ _).mono ?_
  rintro e w2 ⟨rfl, hb2⟩
  have d5 := (hb2.cell (p := ⟨w.heap.size, 5, none⟩) (by have := s1.out; simp <;> omega)).trans (c1.out 5 _ rfl)
  have d6 := uhid ((hb2.cell (p := ⟨w.heap.size, 6, none⟩) (by have := s1.out; simp <;> omega)).trans (c1.out 6 _ rfl))
  have B2 : Hid (Below w.heap.size w w2) := B1.out.trans (hb2.mono B1.out.size)
  have s2 : Hid (w.heap.size < w2.heap.size) := Nat.lt_of_lt_of_le s1.out hb2.size
  clear hb2 d4
  go_wp2_with fail
  refine (H3.out _ _).mono ?_
  rintro e w3 ⟨rfl, hb3⟩
  have d7 := (hb3.cell (p := ⟨w.heap.size, 6, none⟩) (by have := s2.out; simp <;> omega)).trans d6.out
  have B3 : Hid (Below w.heap.size w w3) := B2.out.trans (hb3.mono B2.out.size)
  clear hb3 d5 d6
  go_wp2_with fail
  refine (H4.out _ _).mono ?_
  rintro e w4 ⟨rfl, hb4⟩
  have B4 : Hid (Below w.heap.size w w4) := B3.out.trans (hb4.mono B3.out.size)
  clear hb4 d7
  go_wp2
  go_ret
  exact ⟨rfl, B4.out⟩
theorem hdB (w : World) : Calls Try.prog 15 #[.agg #[.int .i64 0, .int .i64 1, .int .i64 0, .slice none 0 0, .slice none 0 0, .slice none 0 0, .slice none 0 0], .int .i64 1] w fun e w' => e = .returned (.int .i64 1) ∧ Below w.heap.size w w' := by
  have H1 := uhid hdJ
  have H2 := uhid hdP
  have H3 := uhid hdH
  have H4 := uhid hdS
  have hA : Hid (∀ o, Below w.heap.size w (w.alloc o)) := fun o => (Below.refl _ _).alloc (Nat.le_refl _) _
  go_enter Try.func15, Try.ntmps15
  go_wp2_with fail
  refine (H1.out _ _).mono ?_
  rintro e w1 ⟨rfl, hb1⟩
  have c1 : Hid (∀ (j : Nat) v, (#[Value.int .i64 0, Value.int .i64 1, Value.int .i64 0, Value.slice none 0 0, Value.slice none 0 0, Value.slice none 0 0, Value.slice none 0 0] : Array Value)[j]? = some v → w1.cell? ⟨w.heap.size, j, none⟩ = some v) := fun j v h => (hb1.cell (p := ⟨w.heap.size, j, none⟩) (by simp <;> omega)).trans (by simpa [go_sem] using h)
  have B1 : Hid (Below w.heap.size w w1) := (hA.out _).trans (hb1.mono (by simp <;> omega))
  have s1 : Hid (w.heap.size < w1.heap.size) := by have := hb1.size; simp at this; exact (show w.heap.size < w1.heap.size by omega)
  have d4 := c1.out 4 _ rfl
  clear hb1
  go_wp2_with fail
  refine (H2.out _ _).mono ?_
  rintro e w2 ⟨rfl, hb2⟩
  have d5 := (hb2.cell (p := ⟨w.heap.size, 5, none⟩) (by have := s1.out; simp <;> omega)).trans (c1.out 5 _ rfl)
  have d6 := uhid ((hb2.cell (p := ⟨w.heap.size, 6, none⟩) (by have := s1.out; simp <;> omega)).trans (c1.out 6 _ rfl))
  have B2 : Hid (Below w.heap.size w w2) := B1.out.trans (hb2.mono B1.out.size)
  have s2 : Hid (w.heap.size < w2.heap.size) := Nat.lt_of_lt_of_le s1.out hb2.size
  clear hb2 d4
  go_wp2_with fail
  refine (H3.out _ _).mono ?_
  rintro e w3 ⟨rfl, hb3⟩
  have d7 := (hb3.cell (p := ⟨w.heap.size, 6, none⟩) (by have := s2.out; simp <;> omega)).trans d6.out
  have B3 : Hid (Below w.heap.size w w3) := B2.out.trans (hb3.mono B2.out.size)
  clear hb3 d5 d6
  go_wp2_with fail
  refine (H4.out _ _).mono ?_
  rintro e w4 ⟨rfl, hb4⟩
  have B4 : Hid (Below w.heap.size w w4) := B3.out.trans (hb4.mono B3.out.size)
  clear hb4 d7
  go_wp2
  go_ret
  exact ⟨rfl, B4.out⟩
end HN
end Go.Proofs.Ytdnodaoeflbfkaa
