/- impl.termOf: a term that is right, as a value of an interface. -/
import Derived.Test.YtbihhcbbjdjhcaaSel2
namespace Go.Proofs.Ytbihhcbbjdjhcaa
open Go.RowKit Go.BigFrame
set_option linter.unusedVariables false

/-- the value of impl's interface that stands for a right term -/
def isV (v : Value) (t : TD) (a : Option Addr) (cap : Nat) : Prop :=
  (t.1 = 1 ∧ v = .iface 66 (.agg #[.string t.2.1, .string (ssAt t.2.2 0)])) ∨
  (t.1 = 2 ∧ v = .iface 67 (.agg #[.string t.2.1, .string (ssAt t.2.2 0)])) ∨
  (t.1 = 3 ∧ v = .iface 69 (.agg #[.string t.2.1, .slice a t.2.2.length cap])) ∨
  (t.1 = 4 ∧ v = .iface 72 (.agg #[.string t.2.1])) ∨
  (t.1 = 5 ∧ v = .iface 73 (.agg #[.string t.2.1]))
def isIf (w : World) (v : Value) (t : TD) : Prop := ∃ a cap, isV v t a cap ∧ strOf w a t.2.2 ∧ t.2.2.length ≤ cap
theorem isIf.below {w w' : World} {v : Value} {t : TD} (h : isIf w v t) (hb : Below w.heap.size w w') : isIf w' v t := by
  obtain ⟨a, cap, h1, h2⟩ := h
  exact ⟨a, cap, h1, h2.1.below hb, h2.2⟩
theorem termCases (kd : Int) (n : Nat) :
    ((kd == 1) = true ∧ ((n : Int) == 1) = true ∧ Hid (kd = 1 ∧ kindB kd n = true)) ∨
    ((kd == 1) = false ∧ (kd == 2) = true ∧ ((n : Int) == 1) = true ∧ Hid (kd = 2 ∧ kindB kd n = true)) ∨
    ((kd == 1) = false ∧ (kd == 2) = false ∧ (kd == 3) = true ∧ (0 : Int) < (n : Int) ∧ Hid (kd = 3 ∧ (n ≤ 6 → kindB kd n = true))) ∨
    ((kd == 1) = false ∧ (kd == 2) = false ∧ (kd == 3) = false ∧ (kd == 4) = true ∧ ((n : Int) == 0) = true ∧ Hid (kd = 4 ∧ kindB kd n = true)) ∨
    ((kd == 1) = false ∧ (kd == 2) = false ∧ (kd == 3) = false ∧ (kd == 4) = false ∧ (kd == 5) = true ∧ ((n : Int) == 0) = true ∧ Hid (kd = 5 ∧ kindB kd n = true)) ∨
    (Hid (kindB kd n = false) ∧ (((kd == 1) = true ∧ (kd == 2) = false ∧ (kd == 3) = false ∧ (kd == 4) = false ∧ (kd == 5) = false ∧ ((n : Int) == 1) = false) ∨
      ((kd == 1) = false ∧ (kd == 2) = true ∧ (kd == 3) = false ∧ (kd == 4) = false ∧ (kd == 5) = false ∧ ((n : Int) == 1) = false) ∨
      ((kd == 1) = false ∧ (kd == 2) = false ∧ (kd == 3) = true ∧ (kd == 4) = false ∧ (kd == 5) = false ∧ (n : Int) ≤ 0) ∨
      ((kd == 1) = false ∧ (kd == 2) = false ∧ (kd == 3) = false ∧ (kd == 4) = true ∧ (kd == 5) = false ∧ ((n : Int) == 0) = false) ∨
      ((kd == 1) = false ∧ (kd == 2) = false ∧ (kd == 3) = false ∧ (kd == 4) = false ∧ (kd == 5) = true ∧ ((n : Int) == 0) = false) ∨
      ((kd == 1) = false ∧ (kd == 2) = false ∧ (kd == 3) = false ∧ (kd == 4) = false ∧ (kd == 5) = false))) := by
  have kt : (((kd = 1 ∨ kd = 2) ∧ n = 1) ∨ (kd = 3 ∧ 1 ≤ n ∧ n ≤ 6) ∨ ((kd = 4 ∨ kd = 5) ∧ n = 0)) → kindB kd n = true := fun h => by unfold kindB; rw [decide_eq_true_eq]; exact h
  have kf : ¬ (((kd = 1 ∨ kd = 2) ∧ n = 1) ∨ (kd = 3 ∧ 1 ≤ n ∧ n ≤ 6) ∨ ((kd = 4 ∨ kd = 5) ∧ n = 0)) → kindB kd n = false := fun h => by unfold kindB; rw [decide_eq_false_iff_not]; exact h
  have ne : ∀ m : Int, kd ≠ m → (kd == m) = false := fun m h => by rw [beq_eq_false_iff_ne]; exact h
  have eq : ∀ m : Int, kd = m → (kd == m) = true := fun m h => by rw [beq_iff_eq]; exact h
  have nn : ∀ m : Int, (n : Int) ≠ m → ((n : Int) == m) = false := fun m h => by rw [beq_eq_false_iff_ne]; exact h
  have ee : ∀ m : Int, (n : Int) = m → ((n : Int) == m) = true := fun m h => by rw [beq_iff_eq]; exact h
  by_cases h1 : kd = 1
  · by_cases h2 : n = 1
    · exact .inl ⟨eq _ h1, ee _ (by omega), h1, kt (by omega)⟩
    · exact .inr (.inr (.inr (.inr (.inr ⟨kf (by omega), .inl ⟨eq _ h1, ne _ (by omega), ne _ (by omega), ne _ (by omega), ne _ (by omega), nn _ (by omega)⟩⟩))))
  by_cases h2 : kd = 2
  · by_cases h3 : n = 1
    · exact .inr (.inl ⟨ne _ h1, eq _ h2, ee _ (by omega), h2, kt (by omega)⟩)
    · exact .inr (.inr (.inr (.inr (.inr ⟨kf (by omega), .inr (.inl ⟨ne _ h1, eq _ h2, ne _ (by omega), ne _ (by omega), ne _ (by omega), nn _ (by omega)⟩)⟩))))
  by_cases h3 : kd = 3
  · by_cases h4 : n = 0
    · exact .inr (.inr (.inr (.inr (.inr ⟨kf (by omega), .inr (.inr (.inl ⟨ne _ h1, ne _ h2, eq _ h3, ne _ (by omega), ne _ (by omega), by omega⟩))⟩))))
    · exact .inr (.inr (.inl ⟨ne _ h1, ne _ h2, eq _ h3, by omega, h3, fun h6 => kt (by omega)⟩))
  by_cases h4 : kd = 4
  · by_cases h5 : n = 0
    · exact .inr (.inr (.inr (.inl ⟨ne _ h1, ne _ h2, ne _ h3, eq _ h4, ee _ (by omega), h4, kt (by omega)⟩)))
    · exact .inr (.inr (.inr (.inr (.inr ⟨kf (by omega), .inr (.inr (.inr (.inl ⟨ne _ h1, ne _ h2, ne _ h3, eq _ h4, ne _ (by omega), nn _ (by omega)⟩)))⟩))))
  by_cases h5 : kd = 5
  · by_cases h6 : n = 0
    · exact .inr (.inr (.inr (.inr (.inl ⟨ne _ h1, ne _ h2, ne _ h3, ne _ h4, eq _ h5, ee _ (by omega), h5, kt (by omega)⟩))))
    · exact .inr (.inr (.inr (.inr (.inr ⟨kf (by omega), .inr (.inr (.inr (.inr (.inl ⟨ne _ h1, ne _ h2, ne _ h3, ne _ h4, eq _ h5, nn _ (by omega)⟩))))⟩))))
  · exact .inr (.inr (.inr (.inr (.inr ⟨kf (by omega), .inr (.inr (.inr (.inr (.inr ⟨ne _ h1, ne _ h2, ne _ h3, ne _ h4, ne _ h5⟩))))⟩))))
theorem termB_key {kd : Int} {key : ByteArray} {ss : List ByteArray} (h : nameB key = false) : termB (kd, key, ss) = false := by show (valsB ss && nameB key && kindB kd ss.length) = false; rw [h, Bool.and_false, Bool.false_and]
theorem kindB_le {kd : Int} {n : Nat} (h : kindB kd n = true) : n ≤ 6 := by unfold kindB at h; rw [decide_eq_true_eq] at h; omega
theorem termB_vals {kd : Int} {key : ByteArray} {ss : List ByteArray} (h : (decide (ss.length ≤ 6) && valsB ss) = false) : termB (kd, key, ss) = false := by
  show (valsB ss && nameB key && kindB kd ss.length) = false
  cases hk : kindB kd ss.length
  · rw [Bool.and_false]
  · have := kindB_le hk
    rw [decide_eq_true this, Bool.true_and] at h
    rw [h]; rfl
theorem termB_kind {kd : Int} {key : ByteArray} {ss : List ByteArray} (h1 : nameB key = true) (h2 : (decide (ss.length ≤ 6) && valsB ss) = true) : termB (kd, key, ss) = kindB kd ss.length := by
  show (valsB ss && nameB key && kindB kd ss.length) = _
  rw [Bool.and_eq_true] at h2
  rw [h2.2, h1]; rfl

set_option maxHeartbeats 800000 in
theorem iterm_bad (kd : Int) (key : ByteArray) (ss : List ByteArray) (a : Option Addr) (cap : Nat) (w : World) (hl : ss.length ≤ 2 ^ 63 - 1) (Hr : Hid (strOf w a ss)) (HK : Hid (∀ wx, Calls Try.prog 29 #[.string key] wx fun e w' => e = .returned (.bool true) ∧ Below wx.heap.size wx w')) (HV : Hid (∀ wx, strOf wx a ss → Calls Try.prog 36 #[.slice a ss.length cap] wx fun e w' => e = .returned (.bool true) ∧ Below wx.heap.size wx w')) (H6 : Hid (ss.length ≤ 6)) (Hq : Hid (kindB kd ss.length = false)) :
    Calls Try.prog 28 #[.agg #[.int .i64 kd, .string key, .slice a ss.length cap]] w fun e w' => e = .returned (.tuple #[.nilIface, .bool false]) ∧ Below w.heap.size w w' := by
  rcases termCases kd ss.length with ⟨q1, q2, hq⟩ | ⟨q1, q2, q3, hq⟩ | ⟨q1, q2, q3, q4, hq⟩ | ⟨q1, q2, q3, q4, q5, hq⟩ | ⟨q1, q2, q3, q4, q5, q6, hq⟩ | ⟨hq, q⟩
  · have := hq.out.2; rw [Hq.out] at this; cases this
  · have := hq.out.2; rw [Hq.out] at this; cases this
  · have := hq.out.2 H6.out; rw [Hq.out] at this; cases this
  · have := hq.out.2; rw [Hq.out] at this; cases this
  · have := hq.out.2; rw [Hq.out] at this; cases this
  rcases q with ⟨q1, q2, q3, q4, q5, q6⟩ | ⟨q1, q2, q3, q4, q5, q6⟩ | ⟨q1, q2, q3, q4, q5, q6⟩ | ⟨q1, q2, q3, q4, q5, q6⟩ | ⟨q1, q2, q3, q4, q5, q6⟩ | ⟨q1, q2, q3, q4, q5⟩
  all_goals
    go_enter Try.func28, Try.ntmps28
    go_wp2_with fail
    refine (HK.out _).mono ?_
    rintro e w1 ⟨rfl, hb1⟩
    have b0 : w1.cell? ⟨w.heap.size, 0, none⟩ = some (.int .i64 kd) := (hb1.cell (p := ⟨w.heap.size, 0, none⟩) (by simp)).trans (by simp)
    have b1 : w1.cell? ⟨w.heap.size, 1, none⟩ = some (.string key) := (hb1.cell (p := ⟨w.heap.size, 1, none⟩) (by simp)).trans (by simp)
    have b2 : w1.cell? ⟨w.heap.size, 2, none⟩ = some (.slice a ss.length cap) := (hb1.cell (p := ⟨w.heap.size, 2, none⟩) (by simp)).trans (by simp)
    have hw1 : w.heap.size < w1.heap.size := World.block_lt_of_cell? _ _ b0
    have Hb1 := hide hb1
    clear hb1
    go_wp2_with fail
    refine (HV.out w1 (Hr.out.below ((Below.refl _ _).alloc (by simp) _ |>.trans (Hb1.out.mono (by simp))))).mono ?_
    rintro e w2 ⟨rfl, hb2⟩
    have d0 := (hb2.cell (p := ⟨w.heap.size, 0, none⟩) hw1).trans b0
    have d1 := (hb2.cell (p := ⟨w.heap.size, 1, none⟩) hw1).trans b1
    have d2 := (hb2.cell (p := ⟨w.heap.size, 2, none⟩) hw1).trans b2
    have hw2 : w.heap.size < w2.heap.size := World.block_lt_of_cell? _ _ d0
    have Hb : Hid (Below w.heap.size w w2) := ((Below.refl _ _).alloc (by simp) _).trans ((Hb1.out.mono (by simp)).trans (hb2.mono (by omega)))
    clear hb2 b0 b1 b2 hw1 Hb1
    go_wp2
    go_region
    go_wp2
    go_ret2
    exact ⟨rfl, ((Hb.out.alloc (by omega) _).drew)⟩

set_option maxHeartbeats 800000 in
theorem iterm_1 (kd : Int) (key : ByteArray) (ss : List ByteArray) (a : Option Addr) (cap : Nat) (w : World) (hl : ss.length ≤ 2 ^ 63 - 1) (Hr : Hid (strOf w a ss)) (HK : Hid (∀ wx, Calls Try.prog 29 #[.string key] wx fun e w' => e = .returned (.bool true) ∧ Below wx.heap.size wx w')) (HV : Hid (∀ wx, strOf wx a ss → Calls Try.prog 36 #[.slice a ss.length cap] wx fun e w' => e = .returned (.bool true) ∧ Below wx.heap.size wx w')) (q1 : (kd == 1) = true) (hn : ((ss.length : Int) == 1) = true) :
    Calls Try.prog 28 #[.agg #[.int .i64 kd, .string key, .slice a ss.length cap]] w fun e w' => e = .returned (.tuple #[.iface 66 (.agg #[.string key, .string (ssAt ss 0)]), .bool true]) ∧ Below w.heap.size w w' := by
  have h0n : 0 < ss.length := by rw [beq_iff_eq] at hn; omega
  obtain ⟨b, off, rfl, hat⟩ := Hr.out h0n
  have hbb := World.block_lt_of_cell? _ _ (hat 0 h0n)
  have Hc := hide (strAt_cells hat 0 h0n)
  clear hat
  go_enter Try.func28, Try.ntmps28
  go_wp2_with fail
  refine (HK.out _).mono ?_
  rintro e w1 ⟨rfl, hb1⟩
  have b0 : w1.cell? ⟨w.heap.size, 0, none⟩ = some (.int .i64 kd) := (hb1.cell (p := ⟨w.heap.size, 0, none⟩) (by simp)).trans (by simp)
  have b1 : w1.cell? ⟨w.heap.size, 1, none⟩ = some (.string key) := (hb1.cell (p := ⟨w.heap.size, 1, none⟩) (by simp)).trans (by simp)
  have b2 : w1.cell? ⟨w.heap.size, 2, none⟩ = some (.slice (some ⟨b, off, none⟩) ss.length cap) := (hb1.cell (p := ⟨w.heap.size, 2, none⟩) (by simp)).trans (by simp)
  have hw1 : w.heap.size < w1.heap.size := World.block_lt_of_cell? _ _ b0
  have Hb1 := hide hb1
  clear hb1
  go_wp2_with fail
  refine (HV.out w1 (Hr.out.below ((Below.refl _ _).alloc (by simp) _ |>.trans (Hb1.out.mono (by simp))))).mono ?_
  rintro e w2 ⟨rfl, hb2⟩
  have d0 := (hb2.cell (p := ⟨w.heap.size, 0, none⟩) hw1).trans b0
  have d1 := (hb2.cell (p := ⟨w.heap.size, 1, none⟩) hw1).trans b1
  have d2 := (hb2.cell (p := ⟨w.heap.size, 2, none⟩) hw1).trans b2
  have hw2 : w.heap.size < w2.heap.size := World.block_lt_of_cell? _ _ d0
  have Hb : Hid (Below w.heap.size w w2) := ((Below.refl _ _).alloc (by simp) _).trans ((Hb1.out.mono (by simp)).trans (hb2.mono (by omega)))
  clear hb2 b0 b1 b2 hw1 Hb1
  have c0 : w2.cell? ⟨b, off, none⟩ = some (.string (ssAt ss 0)) := (Hb.out.cell (p := ⟨b, off, none⟩) hbb).trans Hc.out
  have hb2 : b < w2.heap.size := Nat.lt_of_lt_of_le hbb Hb.out.size
  go_wp2
  go_region
  go_wp2
  go_region
  go_wp2
  go_ret2
  exact ⟨rfl, ((Hb.out.alloc (by omega) _).drew).drew⟩
set_option maxHeartbeats 800000 in
theorem iterm_2 (kd : Int) (key : ByteArray) (ss : List ByteArray) (a : Option Addr) (cap : Nat) (w : World) (hl : ss.length ≤ 2 ^ 63 - 1) (Hr : Hid (strOf w a ss)) (HK : Hid (∀ wx, Calls Try.prog 29 #[.string key] wx fun e w' => e = .returned (.bool true) ∧ Below wx.heap.size wx w')) (HV : Hid (∀ wx, strOf wx a ss → Calls Try.prog 36 #[.slice a ss.length cap] wx fun e w' => e = .returned (.bool true) ∧ Below wx.heap.size wx w')) (q1 : (kd == 1) = false) (q2 : (kd == 2) = true) (hn : ((ss.length : Int) == 1) = true) :
    Calls Try.prog 28 #[.agg #[.int .i64 kd, .string key, .slice a ss.length cap]] w fun e w' => e = .returned (.tuple #[.iface 67 (.agg #[.string key, .string (ssAt ss 0)]), .bool true]) ∧ Below w.heap.size w w' := by
  have h0n : 0 < ss.length := by rw [beq_iff_eq] at hn; omega
  obtain ⟨b, off, rfl, hat⟩ := Hr.out h0n
  have hbb := World.block_lt_of_cell? _ _ (hat 0 h0n)
  have Hc := hide (strAt_cells hat 0 h0n)
  clear hat
  go_enter Try.func28, Try.ntmps28
  go_wp2_with fail
  refine (HK.out _).mono ?_
  rintro e w1 ⟨rfl, hb1⟩
  have b0 : w1.cell? ⟨w.heap.size, 0, none⟩ = some (.int .i64 kd) := (hb1.cell (p := ⟨w.heap.size, 0, none⟩) (by simp)).trans (by simp)
  have b1 : w1.cell? ⟨w.heap.size, 1, none⟩ = some (.string key) := (hb1.cell (p := ⟨w.heap.size, 1, none⟩) (by simp)).trans (by simp)
  have b2 : w1.cell? ⟨w.heap.size, 2, none⟩ = some (.slice (some ⟨b, off, none⟩) ss.length cap) := (hb1.cell (p := ⟨w.heap.size, 2, none⟩) (by simp)).trans (by simp)
  have hw1 : w.heap.size < w1.heap.size := World.block_lt_of_cell? _ _ b0
  have Hb1 := hide hb1
  clear hb1
  go_wp2_with fail
  refine (HV.out w1 (Hr.out.below ((Below.refl _ _).alloc (by simp) _ |>.trans (Hb1.out.mono (by simp))))).mono ?_
  rintro e w2 ⟨rfl, hb2⟩
  have d0 := (hb2.cell (p := ⟨w.heap.size, 0, none⟩) hw1).trans b0
  have d1 := (hb2.cell (p := ⟨w.heap.size, 1, none⟩) hw1).trans b1
  have d2 := (hb2.cell (p := ⟨w.heap.size, 2, none⟩) hw1).trans b2
  have hw2 : w.heap.size < w2.heap.size := World.block_lt_of_cell? _ _ d0
  have Hb : Hid (Below w.heap.size w w2) := ((Below.refl _ _).alloc (by simp) _).trans ((Hb1.out.mono (by simp)).trans (hb2.mono (by omega)))
  clear hb2 b0 b1 b2 hw1 Hb1
  have c0 : w2.cell? ⟨b, off, none⟩ = some (.string (ssAt ss 0)) := (Hb.out.cell (p := ⟨b, off, none⟩) hbb).trans Hc.out
  have hb2 : b < w2.heap.size := Nat.lt_of_lt_of_le hbb Hb.out.size
  go_wp2
  go_region
  go_wp2
  go_region
  go_wp2
  go_ret2
  exact ⟨rfl, ((Hb.out.alloc (by omega) _).drew).drew⟩
set_option maxHeartbeats 800000 in
theorem iterm_3 (kd : Int) (key : ByteArray) (ss : List ByteArray) (a : Option Addr) (cap : Nat) (w : World) (hl : ss.length ≤ 2 ^ 63 - 1) (Hr : Hid (strOf w a ss)) (HK : Hid (∀ wx, Calls Try.prog 29 #[.string key] wx fun e w' => e = .returned (.bool true) ∧ Below wx.heap.size wx w')) (HV : Hid (∀ wx, strOf wx a ss → Calls Try.prog 36 #[.slice a ss.length cap] wx fun e w' => e = .returned (.bool true) ∧ Below wx.heap.size wx w')) (q1 : (kd == 1) = false) (q2 : (kd == 2) = false) (q3 : (kd == 3) = true) (hn : (0 : Int) < (ss.length : Int)) :
    Calls Try.prog 28 #[.agg #[.int .i64 kd, .string key, .slice a ss.length cap]] w fun e w' => e = .returned (.tuple #[.iface 69 (.agg #[.string key, .slice a ss.length cap]), .bool true]) ∧ Below w.heap.size w w' := by
  go_enter Try.func28, Try.ntmps28
  go_wp2_with fail
  refine (HK.out _).mono ?_
  rintro e w1 ⟨rfl, hb1⟩
  have b0 : w1.cell? ⟨w.heap.size, 0, none⟩ = some (.int .i64 kd) := (hb1.cell (p := ⟨w.heap.size, 0, none⟩) (by simp)).trans (by simp)
  have b1 : w1.cell? ⟨w.heap.size, 1, none⟩ = some (.string key) := (hb1.cell (p := ⟨w.heap.size, 1, none⟩) (by simp)).trans (by simp)
  have b2 : w1.cell? ⟨w.heap.size, 2, none⟩ = some (.slice a ss.length cap) := (hb1.cell (p := ⟨w.heap.size, 2, none⟩) (by simp)).trans (by simp)
  have hw1 : w.heap.size < w1.heap.size := World.block_lt_of_cell? _ _ b0
  have Hb1 := hide hb1
  clear hb1
  go_wp2_with fail
  refine (HV.out w1 (Hr.out.below ((Below.refl _ _).alloc (by simp) _ |>.trans (Hb1.out.mono (by simp))))).mono ?_
  rintro e w2 ⟨rfl, hb2⟩
  have d0 := (hb2.cell (p := ⟨w.heap.size, 0, none⟩) hw1).trans b0
  have d1 := (hb2.cell (p := ⟨w.heap.size, 1, none⟩) hw1).trans b1
  have d2 := (hb2.cell (p := ⟨w.heap.size, 2, none⟩) hw1).trans b2
  have hw2 : w.heap.size < w2.heap.size := World.block_lt_of_cell? _ _ d0
  have Hb : Hid (Below w.heap.size w w2) := ((Below.refl _ _).alloc (by simp) _).trans ((Hb1.out.mono (by simp)).trans (hb2.mono (by omega)))
  clear hb2 b0 b1 b2 hw1 Hb1
  go_wp2
  go_region
  go_wp2
  go_ret2
  exact ⟨rfl, ((Hb.out.alloc (by omega) _).drew)⟩
set_option maxHeartbeats 800000 in
theorem iterm_4 (kd : Int) (key : ByteArray) (ss : List ByteArray) (a : Option Addr) (cap : Nat) (w : World) (hl : ss.length ≤ 2 ^ 63 - 1) (Hr : Hid (strOf w a ss)) (HK : Hid (∀ wx, Calls Try.prog 29 #[.string key] wx fun e w' => e = .returned (.bool true) ∧ Below wx.heap.size wx w')) (HV : Hid (∀ wx, strOf wx a ss → Calls Try.prog 36 #[.slice a ss.length cap] wx fun e w' => e = .returned (.bool true) ∧ Below wx.heap.size wx w')) (q1 : (kd == 1) = false) (q2 : (kd == 2) = false) (q3 : (kd == 3) = false) (q4 : (kd == 4) = true) (hn : ((ss.length : Int) == 0) = true) :
    Calls Try.prog 28 #[.agg #[.int .i64 kd, .string key, .slice a ss.length cap]] w fun e w' => e = .returned (.tuple #[.iface 72 (.agg #[.string key]), .bool true]) ∧ Below w.heap.size w w' := by
  go_enter Try.func28, Try.ntmps28
  go_wp2_with fail
  refine (HK.out _).mono ?_
  rintro e w1 ⟨rfl, hb1⟩
  have b0 : w1.cell? ⟨w.heap.size, 0, none⟩ = some (.int .i64 kd) := (hb1.cell (p := ⟨w.heap.size, 0, none⟩) (by simp)).trans (by simp)
  have b1 : w1.cell? ⟨w.heap.size, 1, none⟩ = some (.string key) := (hb1.cell (p := ⟨w.heap.size, 1, none⟩) (by simp)).trans (by simp)
  have b2 : w1.cell? ⟨w.heap.size, 2, none⟩ = some (.slice a ss.length cap) := (hb1.cell (p := ⟨w.heap.size, 2, none⟩) (by simp)).trans (by simp)
  have hw1 : w.heap.size < w1.heap.size := World.block_lt_of_cell? _ _ b0
  have Hb1 := hide hb1
  clear hb1
  go_wp2_with fail
  refine (HV.out w1 (Hr.out.below ((Below.refl _ _).alloc (by simp) _ |>.trans (Hb1.out.mono (by simp))))).mono ?_
  rintro e w2 ⟨rfl, hb2⟩
  have d0 := (hb2.cell (p := ⟨w.heap.size, 0, none⟩) hw1).trans b0
  have d1 := (hb2.cell (p := ⟨w.heap.size, 1, none⟩) hw1).trans b1
  have d2 := (hb2.cell (p := ⟨w.heap.size, 2, none⟩) hw1).trans b2
  have hw2 : w.heap.size < w2.heap.size := World.block_lt_of_cell? _ _ d0
  have Hb : Hid (Below w.heap.size w w2) := ((Below.refl _ _).alloc (by simp) _).trans ((Hb1.out.mono (by simp)).trans (hb2.mono (by omega)))
  clear hb2 b0 b1 b2 hw1 Hb1
  go_wp2
  go_region
  go_wp2
  go_ret2
  exact ⟨rfl, ((Hb.out.alloc (by omega) _).drew)⟩
set_option maxHeartbeats 800000 in
theorem iterm_5 (kd : Int) (key : ByteArray) (ss : List ByteArray) (a : Option Addr) (cap : Nat) (w : World) (hl : ss.length ≤ 2 ^ 63 - 1) (Hr : Hid (strOf w a ss)) (HK : Hid (∀ wx, Calls Try.prog 29 #[.string key] wx fun e w' => e = .returned (.bool true) ∧ Below wx.heap.size wx w')) (HV : Hid (∀ wx, strOf wx a ss → Calls Try.prog 36 #[.slice a ss.length cap] wx fun e w' => e = .returned (.bool true) ∧ Below wx.heap.size wx w')) (q1 : (kd == 1) = false) (q2 : (kd == 2) = false) (q3 : (kd == 3) = false) (q4 : (kd == 4) = false) (q5 : (kd == 5) = true) (hn : ((ss.length : Int) == 0) = true) :
    Calls Try.prog 28 #[.agg #[.int .i64 kd, .string key, .slice a ss.length cap]] w fun e w' => e = .returned (.tuple #[.iface 73 (.agg #[.string key]), .bool true]) ∧ Below w.heap.size w w' := by
  go_enter Try.func28, Try.ntmps28
  go_wp2_with fail
  refine (HK.out _).mono ?_
  rintro e w1 ⟨rfl, hb1⟩
  have b0 : w1.cell? ⟨w.heap.size, 0, none⟩ = some (.int .i64 kd) := (hb1.cell (p := ⟨w.heap.size, 0, none⟩) (by simp)).trans (by simp)
  have b1 : w1.cell? ⟨w.heap.size, 1, none⟩ = some (.string key) := (hb1.cell (p := ⟨w.heap.size, 1, none⟩) (by simp)).trans (by simp)
  have b2 : w1.cell? ⟨w.heap.size, 2, none⟩ = some (.slice a ss.length cap) := (hb1.cell (p := ⟨w.heap.size, 2, none⟩) (by simp)).trans (by simp)
  have hw1 : w.heap.size < w1.heap.size := World.block_lt_of_cell? _ _ b0
  have Hb1 := hide hb1
  clear hb1
  go_wp2_with fail
  refine (HV.out w1 (Hr.out.below ((Below.refl _ _).alloc (by simp) _ |>.trans (Hb1.out.mono (by simp))))).mono ?_
  rintro e w2 ⟨rfl, hb2⟩
  have d0 := (hb2.cell (p := ⟨w.heap.size, 0, none⟩) hw1).trans b0
  have d1 := (hb2.cell (p := ⟨w.heap.size, 1, none⟩) hw1).trans b1
  have d2 := (hb2.cell (p := ⟨w.heap.size, 2, none⟩) hw1).trans b2
  have hw2 : w.heap.size < w2.heap.size := World.block_lt_of_cell? _ _ d0
  have Hb : Hid (Below w.heap.size w w2) := ((Below.refl _ _).alloc (by simp) _).trans ((Hb1.out.mono (by simp)).trans (hb2.mono (by omega)))
  clear hb2 b0 b1 b2 hw1 Hb1
  go_wp2
  go_region
  go_wp2
  go_ret2
  exact ⟨rfl, ((Hb.out.alloc (by omega) _).drew)⟩

theorem iterm_any (t : TD) (a : Option Addr) (cap : Nat) (w : World) (hl : t.2.2.length ≤ maxLen) (hrow : strOf w a t.2.2) :
    Calls Try.prog 28 #[.agg #[.int .i64 t.1, .string t.2.1, .slice a t.2.2.length cap]] w fun e w' =>
      ((termB t = true ∧ ∃ v, e = .returned (.tuple #[v, .bool true]) ∧ isV v t a cap) ∨ (termB t = false ∧ e = .returned (.tuple #[.nilIface, .bool false]))) ∧ Below w.heap.size w w' := by
  obtain ⟨kd, key, ss⟩ := t
  simp only at hl hrow ⊢
  have hl' := hl
  unfold maxLen at hl
  have Hr := hide hrow
  have hK := fun wx => (iname_any key wx)
  have hV := fun wx => (ivals_any a cap ss wx hl')
  clear hrow
  cases h1 : nameB key
  · rw [h1] at hK
    have HK := hide hK
    have Hn := hide (termB_key (kd := kd) (ss := ss) h1)
    clear hK hV h1 hl'
    go_enter Try.func28, Try.ntmps28
    go_wp2_with fail
    refine (HK.out _).mono ?_
    rintro e w1 ⟨rfl, hb1⟩
    go_wp2
    go_ret2
    exact ⟨.inr ⟨Hn.out, rfl⟩, ((Below.refl _ _).alloc (by simp) _).trans (hb1.mono (by simp))⟩
  rw [h1] at hK
  have HK := hide hK
  cases h2 : (decide (ss.length ≤ 6) && valsB ss)
  · rw [h2] at hV
    have HV := hide hV
    have Hn := hide (termB_vals (kd := kd) (key := key) h2)
    clear hK hV h1 h2 hl'
    go_enter Try.func28, Try.ntmps28
    go_wp2_with fail
    refine (HK.out _).mono ?_
    rintro e w1 ⟨rfl, hb1⟩
    have b2 : w1.cell? ⟨w.heap.size, 2, none⟩ = some (.slice a ss.length cap) := (hb1.cell (p := ⟨w.heap.size, 2, none⟩) (by simp)).trans (by simp)
    have Hb1 := hide hb1
    clear hb1
    go_wp2_with fail
    refine (HV.out w1 (Hr.out.below ((Below.refl _ _).alloc (by simp) _ |>.trans (Hb1.out.mono (by simp))))).mono ?_
    rintro e w2 ⟨rfl, hb2⟩
    go_wp2
    go_ret2
    exact ⟨.inr ⟨Hn.out, rfl⟩, ((Below.refl _ _).alloc (by simp) _).trans ((Hb1.out.mono (by simp)).trans (hb2.mono (by have := Hb1.out.size; simp at this; omega)))⟩
  rw [h2] at hV
  have HV := hide hV
  have hk := termB_kind (kd := kd) h1 h2
  have h6 : ss.length ≤ 6 := by rw [Bool.and_eq_true, decide_eq_true_eq] at h2; exact h2.1
  rcases termCases kd ss.length with ⟨q1, q2, hq⟩ | ⟨q1, q2, q3, hq⟩ | ⟨q1, q2, q3, q4, hq⟩ | ⟨q1, q2, q3, q4, q5, hq⟩ | ⟨q1, q2, q3, q4, q5, q6, hq⟩ | ⟨hq, -⟩
  · exact (iterm_1 kd key ss a cap w hl Hr HK HV q1 q2).mono fun e w' ⟨h, hb⟩ => ⟨.inl ⟨hk.trans hq.out.2, _, h, .inl ⟨hq.out.1, rfl⟩⟩, hb⟩
  · exact (iterm_2 kd key ss a cap w hl Hr HK HV q1 q2 q3).mono fun e w' ⟨h, hb⟩ => ⟨.inl ⟨hk.trans hq.out.2, _, h, .inr (.inl ⟨hq.out.1, rfl⟩)⟩, hb⟩
  · exact (iterm_3 kd key ss a cap w hl Hr HK HV q1 q2 q3 q4).mono fun e w' ⟨h, hb⟩ => ⟨.inl ⟨hk.trans (hq.out.2 h6), _, h, .inr (.inr (.inl ⟨hq.out.1, rfl⟩))⟩, hb⟩
  · exact (iterm_4 kd key ss a cap w hl Hr HK HV q1 q2 q3 q4 q5).mono fun e w' ⟨h, hb⟩ => ⟨.inl ⟨hk.trans hq.out.2, _, h, .inr (.inr (.inr (.inl ⟨hq.out.1, rfl⟩)))⟩, hb⟩
  · exact (iterm_5 kd key ss a cap w hl Hr HK HV q1 q2 q3 q4 q5 q6).mono fun e w' ⟨h, hb⟩ => ⟨.inl ⟨hk.trans hq.out.2, _, h, .inr (.inr (.inr (.inr ⟨hq.out.1, rfl⟩)))⟩, hb⟩
  · exact (iterm_bad kd key ss a cap w hl Hr HK HV h6 hq).mono fun e w' ⟨h, hb⟩ => ⟨.inr ⟨hk.trans hq.out, h⟩, hb⟩
end Go.Proofs.Ytbihhcbbjdjhcaa
