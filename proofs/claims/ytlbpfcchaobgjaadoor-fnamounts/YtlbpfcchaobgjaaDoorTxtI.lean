import Derived.Test.YtlbpfcchaobgjaaDoorTxtS
import Derived.Test.YtlbpfcchaobgjaaDoorShelfD
import Derived.Lib.SmallJoins
namespace Go.Proofs.YtlbpfcchaobgjaaDoor
open Go.RowKit Go.BigFrame
set_option linter.unusedVariables false
/-- the table of units, in the block 0 -/
structure Units (w : World) : Prop where
  u0 : w.cell? ⟨0, 0, none⟩ = some (.string ⟨#[71, 105]⟩)
  u1 : w.cell? ⟨0, 1, none⟩ = some (.int .i64 1073741824000)
  u2 : w.cell? ⟨0, 2, none⟩ = some (.string ⟨#[77, 105]⟩)
  u3 : w.cell? ⟨0, 3, none⟩ = some (.int .i64 1048576000)
  u4 : w.cell? ⟨0, 4, none⟩ = some (.string ⟨#[75, 105]⟩)
  u5 : w.cell? ⟨0, 5, none⟩ = some (.int .i64 1024000)
  u6 : w.cell? ⟨0, 6, none⟩ = some (.string ⟨#[]⟩)
  u7 : w.cell? ⟨0, 7, none⟩ = some (.int .i64 1000)
  u8 : w.cell? ⟨0, 8, none⟩ = some (.string ⟨#[109]⟩)
  u9 : w.cell? ⟨0, 9, none⟩ = some (.int .i64 1)
  u10 : w.cell? ⟨0, 10, none⟩ = some (.string ⟨#[107]⟩)
  u11 : w.cell? ⟨0, 11, none⟩ = some (.int .i64 1000000)
  u12 : w.cell? ⟨0, 12, none⟩ = some (.string ⟨#[77]⟩)
  u13 : w.cell? ⟨0, 13, none⟩ = some (.int .i64 1000000000)
  u14 : w.cell? ⟨0, 14, none⟩ = some (.string ⟨#[71]⟩)
  u15 : w.cell? ⟨0, 15, none⟩ = some (.int .i64 1000000000000)
theorem Units.below {w w' : World} (h : Units w) (hb : Below w.heap.size w w') : Units w' := by
  have hlt : 0 < w.heap.size := World.block_lt_of_cell? w (a := ⟨0, 0, none⟩) h.u0
  have e : ∀ i, w'.cell? ⟨0, i, none⟩ = w.cell? ⟨0, i, none⟩ := fun i => hb.cell (p := ⟨0, i, none⟩) hlt
  obtain ⟨a0, a1, a2, a3, a4, a5, a6, a7, a8, a9, a10, a11, a12, a13, a14, a15⟩ := h
  constructor <;> rw [e] <;> assumption
theorem unit0 (w : World) : (Instr.index 90 (.agg #[.string ⟨#[71, 105]⟩, .int .i64 1073741824000, .string ⟨#[77, 105]⟩, .int .i64 1048576000, .string ⟨#[75, 105]⟩, .int .i64 1024000, .string ⟨#[]⟩, .int .i64 1000, .string ⟨#[109]⟩, .int .i64 1, .string ⟨#[107]⟩, .int .i64 1000000, .string ⟨#[77]⟩, .int .i64 1000000000, .string ⟨#[71]⟩, .int .i64 1000000000000]) (.int .i64 0)).run Tryd.prog w = .ok (.agg #[.string ⟨#[71, 105]⟩, .int .i64 1073741824000]) w := by kernel_rfl
theorem unit1 (w : World) : (Instr.index 90 (.agg #[.string ⟨#[71, 105]⟩, .int .i64 1073741824000, .string ⟨#[77, 105]⟩, .int .i64 1048576000, .string ⟨#[75, 105]⟩, .int .i64 1024000, .string ⟨#[]⟩, .int .i64 1000, .string ⟨#[109]⟩, .int .i64 1, .string ⟨#[107]⟩, .int .i64 1000000, .string ⟨#[77]⟩, .int .i64 1000000000, .string ⟨#[71]⟩, .int .i64 1000000000000]) (.int .i64 1)).run Tryd.prog w = .ok (.agg #[.string ⟨#[77, 105]⟩, .int .i64 1048576000]) w := by kernel_rfl
theorem unit2 (w : World) : (Instr.index 90 (.agg #[.string ⟨#[71, 105]⟩, .int .i64 1073741824000, .string ⟨#[77, 105]⟩, .int .i64 1048576000, .string ⟨#[75, 105]⟩, .int .i64 1024000, .string ⟨#[]⟩, .int .i64 1000, .string ⟨#[109]⟩, .int .i64 1, .string ⟨#[107]⟩, .int .i64 1000000, .string ⟨#[77]⟩, .int .i64 1000000000, .string ⟨#[71]⟩, .int .i64 1000000000000]) (.int .i64 2)).run Tryd.prog w = .ok (.agg #[.string ⟨#[75, 105]⟩, .int .i64 1024000]) w := by kernel_rfl
theorem unit3 (w : World) : (Instr.index 90 (.agg #[.string ⟨#[71, 105]⟩, .int .i64 1073741824000, .string ⟨#[77, 105]⟩, .int .i64 1048576000, .string ⟨#[75, 105]⟩, .int .i64 1024000, .string ⟨#[]⟩, .int .i64 1000, .string ⟨#[109]⟩, .int .i64 1, .string ⟨#[107]⟩, .int .i64 1000000, .string ⟨#[77]⟩, .int .i64 1000000000, .string ⟨#[71]⟩, .int .i64 1000000000000]) (.int .i64 3)).run Tryd.prog w = .ok (.agg #[.string ⟨#[]⟩, .int .i64 1000]) w := by kernel_rfl
theorem unit4 (w : World) : (Instr.index 90 (.agg #[.string ⟨#[71, 105]⟩, .int .i64 1073741824000, .string ⟨#[77, 105]⟩, .int .i64 1048576000, .string ⟨#[75, 105]⟩, .int .i64 1024000, .string ⟨#[]⟩, .int .i64 1000, .string ⟨#[109]⟩, .int .i64 1, .string ⟨#[107]⟩, .int .i64 1000000, .string ⟨#[77]⟩, .int .i64 1000000000, .string ⟨#[71]⟩, .int .i64 1000000000000]) (.int .i64 4)).run Tryd.prog w = .ok (.agg #[.string ⟨#[109]⟩, .int .i64 1]) w := by kernel_rfl
theorem unit5 (w : World) : (Instr.index 90 (.agg #[.string ⟨#[71, 105]⟩, .int .i64 1073741824000, .string ⟨#[77, 105]⟩, .int .i64 1048576000, .string ⟨#[75, 105]⟩, .int .i64 1024000, .string ⟨#[]⟩, .int .i64 1000, .string ⟨#[109]⟩, .int .i64 1, .string ⟨#[107]⟩, .int .i64 1000000, .string ⟨#[77]⟩, .int .i64 1000000000, .string ⟨#[71]⟩, .int .i64 1000000000000]) (.int .i64 5)).run Tryd.prog w = .ok (.agg #[.string ⟨#[107]⟩, .int .i64 1000000]) w := by kernel_rfl
theorem unit6 (w : World) : (Instr.index 90 (.agg #[.string ⟨#[71, 105]⟩, .int .i64 1073741824000, .string ⟨#[77, 105]⟩, .int .i64 1048576000, .string ⟨#[75, 105]⟩, .int .i64 1024000, .string ⟨#[]⟩, .int .i64 1000, .string ⟨#[109]⟩, .int .i64 1, .string ⟨#[107]⟩, .int .i64 1000000, .string ⟨#[77]⟩, .int .i64 1000000000, .string ⟨#[71]⟩, .int .i64 1000000000000]) (.int .i64 6)).run Tryd.prog w = .ok (.agg #[.string ⟨#[77]⟩, .int .i64 1000000000]) w := by kernel_rfl
theorem unit7 (w : World) : (Instr.index 90 (.agg #[.string ⟨#[71, 105]⟩, .int .i64 1073741824000, .string ⟨#[77, 105]⟩, .int .i64 1048576000, .string ⟨#[75, 105]⟩, .int .i64 1024000, .string ⟨#[]⟩, .int .i64 1000, .string ⟨#[109]⟩, .int .i64 1, .string ⟨#[107]⟩, .int .i64 1000000, .string ⟨#[77]⟩, .int .i64 1000000000, .string ⟨#[71]⟩, .int .i64 1000000000000]) (.int .i64 7)).run Tryd.prog w = .ok (.agg #[.string ⟨#[71]⟩, .int .i64 1000000000000]) w := by kernel_rfl
theorem below_grow (w : World) (k : Nat) (os : Array Obj) : Below w.heap.size w (Sort.grow (w.drewN k) os) := by
  refine ⟨rfl, rfl, rfl, ?_, fun i hi => ?_⟩
  · show w.heap.size ≤ (w.heap ++ os).size
    rw [Array.size_append]; omega
  · show (w.heap ++ os)[i]? = w.heap[i]?
    rw [Array.getElem?_append_left hi]
theorem itoa_any (m : Nat) (hm : m < 9223372036854775808) (w : World) (ht : Lib.TabIs Tryd.prog w "internal/strconv.uint64pow10" .u64 Lib.pow10Tab) :
    Calls Tryd.prog 60 #[.int .i64 m] w fun e w' => e = .returned (.string (decB m)) ∧ Below w.heap.size w w' :=
  (Tryd.strconv_Itoa (m : Int) (by omega) (by omega) w ht).mono fun e w' ⟨h1, k, os, h2⟩ => ⟨by rw [h1, Lib.itoa_nonneg]; rfl, by rw [h2]; exact below_grow w k os⟩
theorem tab_later {w w' : World} (h : Lib.TabIs Tryd.prog w "internal/strconv.uint64pow10" .u64 Lib.pow10Tab) (hb : Below w.heap.size w w') : Lib.TabIs Tryd.prog w' "internal/strconv.uint64pow10" .u64 Lib.pow10Tab := by
  obtain ⟨g, hg⟩ : ∃ g, Tryd.prog.globalNamed "internal/strconv.uint64pow10" = some g := ⟨(Tryd.prog.globalNamed "internal/strconv.uint64pow10").getD 0, by kernel_rfl⟩
  exact Go.Joins.tab_stays hg h hb (Nat.le_refl _)
theorem amtL_t0 {n : Nat} (h0 : 0 < n) (h1 : n % 1073741824000 = 0) : amtL n = Lib.decDigits (n / 1073741824000) ++ [71, 105] := by
  unfold amtL
  rw [if_neg (by omega), if_pos h1]
theorem amtL_t1 {n : Nat} (h0 : 0 < n) (h1 : ¬ n % 1073741824000 = 0) (h2 : n % 1048576000 = 0) : amtL n = Lib.decDigits (n / 1048576000) ++ [77, 105] := by
  unfold amtL
  rw [if_neg (by omega), if_neg h1, if_pos h2]
theorem amtL_t2 {n : Nat} (h0 : 0 < n) (h1 : ¬ n % 1073741824000 = 0) (h2 : ¬ n % 1048576000 = 0) (h3 : n % 1024000 = 0) : amtL n = Lib.decDigits (n / 1024000) ++ [75, 105] := by
  unfold amtL
  rw [if_neg (by omega), if_neg h1, if_neg h2, if_pos h3]
theorem amtL_t3 {n : Nat} (h0 : 0 < n) (h1 : ¬ n % 1073741824000 = 0) (h2 : ¬ n % 1048576000 = 0) (h3 : ¬ n % 1024000 = 0) (h4 : n % 1000 = 0) : amtL n = Lib.decDigits (n / 1000) ++ [] := by
  unfold amtL
  rw [if_neg (by omega), if_neg h1, if_neg h2, if_neg h3, if_pos h4]
  simp
theorem amtL_t4 {n : Nat} (h0 : 0 < n) (h1 : ¬ n % 1073741824000 = 0) (h2 : ¬ n % 1048576000 = 0) (h3 : ¬ n % 1024000 = 0) (h4 : ¬ n % 1000 = 0) : amtL n = Lib.decDigits n ++ [109] := by
  unfold amtL
  rw [if_neg (by omega), if_neg h1, if_neg h2, if_neg h3, if_neg h4]
set_option maxRecDepth 100000 in
set_option maxHeartbeats 3200000 in
theorem itext_pos (m : Nat) (hp : 0 < m) (hm : m ≤ 1000000000000000) (w : World) (hu : Units w) (ht : Lib.TabIs Tryd.prog w "internal/strconv.uint64pow10" .u64 Lib.pow10Tab) :
    Calls Tryd.prog 28 #[.int .i64 m] w fun e w' => e = .returned (.string ⟨(amtL m).toArray⟩) ∧ Below w.heap.size w w' := by
  obtain ⟨a0, a1, a2, a3, a4, a5, a6, a7, a8, a9, a10, a11, a12, a13, a14, a15⟩ := hu
  have z1 : ¬ (m : Int) < 0 := by omega
  have z2 : ¬ (1000000000000000 : Int) < (m : Int) := by omega
  have z3 : ((m : Int) == 0) = false := by rw [beq_eq_false_iff_ne]; omega
  by_cases h1 : m % 1073741824000 = 0
  · rw [amtL_t0 hp h1, ← dec_app]
    have hc := fun wx (hb : Below w.heap.size w wx) => itoa_any (m / 1073741824000) (by omega) wx (tab_later ht hb)
    have hs : (decB (m / 1073741824000)).size ≤ 21 := dec_size (by omega)
    rw [show ((m / 1073741824000 : Nat) : Int) = IntKind.i64.wrap ((m : Int) / 1073741824000) by rw [IntKind.wrap_i64]; omega] at hc
    have HC := hide hc
    have g0 : ((m : Int) % 1073741824000 == 0) = true := by rw [beq_iff_eq]; omega
    generalize decB (m / 1073741824000) = U at *
    clear hc ht h1
    have x0 := unit0
    go_enter Tryd.func28, Tryd.ntmps28
    go_wp2_with fail
    refine wp_loop_rounds 9 ?_
    rw [rounds_succ]; go_wp2_with fail
    go_region_with (go_at_call 60; refine (HC.out _ (by repeat (first | with_reducible exact Below.refl _ _ | with_reducible refine Below.drew ?_ | with_reducible refine Below.alloc ?_ (by simp <;> omega) _))).mono ?_; rintro e w2 ⟨rfl, hb⟩; have T2 : Hid (Below w.heap.size w w2) := Below.trans (by repeat (first | with_reducible exact Below.refl _ _ | with_reducible refine Below.drew ?_ | with_reducible refine Below.alloc ?_ (by simp <;> omega) _)) (hb.mono (by simp <;> omega)); have u0 := (hb.cell (p := ⟨w.heap.size, 0, none⟩) (by simp <;> omega)).trans (by simp [go_sem] : _ = some (.string ⟨#[71, 105]⟩)); clear hb)
    all_goals
      go_wp2
      go_ret
      exact ⟨rfl, T2.out⟩
  by_cases h2 : m % 1048576000 = 0
  · rw [amtL_t1 hp h1 h2, ← dec_app]
    have hc := fun wx (hb : Below w.heap.size w wx) => itoa_any (m / 1048576000) (by omega) wx (tab_later ht hb)
    have hs : (decB (m / 1048576000)).size ≤ 21 := dec_size (by omega)
    rw [show ((m / 1048576000 : Nat) : Int) = IntKind.i64.wrap ((m : Int) / 1048576000) by rw [IntKind.wrap_i64]; omega] at hc
    have HC := hide hc
    have g0 : ((m : Int) % 1073741824000 == 0) = false := by rw [beq_eq_false_iff_ne]; omega
    have g1 : ((m : Int) % 1048576000 == 0) = true := by rw [beq_iff_eq]; omega
    generalize decB (m / 1048576000) = U at *
    clear hc ht h1 h2
    have x0 := unit0
    have x1 := unit1
    go_enter Tryd.func28, Tryd.ntmps28
    go_wp2_with fail
    refine wp_loop_rounds 9 ?_
    rw [rounds_succ]; go_wp2_with fail
    rw [rounds_succ]; go_wp2_with fail
    go_region_with (go_at_call 60; refine (HC.out _ (by repeat (first | with_reducible exact Below.refl _ _ | with_reducible refine Below.drew ?_ | with_reducible refine Below.alloc ?_ (by simp <;> omega) _))).mono ?_; rintro e w2 ⟨rfl, hb⟩; have T2 : Hid (Below w.heap.size w w2) := Below.trans (by repeat (first | with_reducible exact Below.refl _ _ | with_reducible refine Below.drew ?_ | with_reducible refine Below.alloc ?_ (by simp <;> omega) _)) (hb.mono (by simp <;> omega)); have u0 := (hb.cell (p := ⟨w.heap.size + 1, 0, none⟩) (by simp <;> omega)).trans (by simp [go_sem] : _ = some (.string ⟨#[77, 105]⟩)); clear hb)
    all_goals
      go_wp2
      go_ret
      exact ⟨rfl, T2.out⟩
  by_cases h3 : m % 1024000 = 0
  · rw [amtL_t2 hp h1 h2 h3, ← dec_app]
    have hc := fun wx (hb : Below w.heap.size w wx) => itoa_any (m / 1024000) (by omega) wx (tab_later ht hb)
    have hs : (decB (m / 1024000)).size ≤ 21 := dec_size (by omega)
    rw [show ((m / 1024000 : Nat) : Int) = IntKind.i64.wrap ((m : Int) / 1024000) by rw [IntKind.wrap_i64]; omega] at hc
    have HC := hide hc
    have g0 : ((m : Int) % 1073741824000 == 0) = false := by rw [beq_eq_false_iff_ne]; omega
    have g1 : ((m : Int) % 1048576000 == 0) = false := by rw [beq_eq_false_iff_ne]; omega
    have g2 : ((m : Int) % 1024000 == 0) = true := by rw [beq_iff_eq]; omega
    generalize decB (m / 1024000) = U at *
    clear hc ht h1 h2 h3
    have x0 := unit0
    have x1 := unit1
    have x2 := unit2
    go_enter Tryd.func28, Tryd.ntmps28
    go_wp2_with fail
    refine wp_loop_rounds 9 ?_
    rw [rounds_succ]; go_wp2_with fail
    rw [rounds_succ]; go_wp2_with fail
    rw [rounds_succ]; go_wp2_with fail
    go_region_with (go_at_call 60; refine (HC.out _ (by repeat (first | with_reducible exact Below.refl _ _ | with_reducible refine Below.drew ?_ | with_reducible refine Below.alloc ?_ (by simp <;> omega) _))).mono ?_; rintro e w2 ⟨rfl, hb⟩; have T2 : Hid (Below w.heap.size w w2) := Below.trans (by repeat (first | with_reducible exact Below.refl _ _ | with_reducible refine Below.drew ?_ | with_reducible refine Below.alloc ?_ (by simp <;> omega) _)) (hb.mono (by simp <;> omega)); have u0 := (hb.cell (p := ⟨w.heap.size + 1 + 1, 0, none⟩) (by simp <;> omega)).trans (by simp [go_sem] : _ = some (.string ⟨#[75, 105]⟩)); clear hb)
    all_goals
      go_wp2
      go_ret
      exact ⟨rfl, T2.out⟩
  by_cases h4 : m % 1000 = 0
  · rw [amtL_t3 hp h1 h2 h3 h4, ← dec_app]
    have hc := fun wx (hb : Below w.heap.size w wx) => itoa_any (m / 1000) (by omega) wx (tab_later ht hb)
    have hs : (decB (m / 1000)).size ≤ 21 := dec_size (by omega)
    rw [show ((m / 1000 : Nat) : Int) = IntKind.i64.wrap ((m : Int) / 1000) by rw [IntKind.wrap_i64]; omega] at hc
    have HC := hide hc
    have g0 : ((m : Int) % 1073741824000 == 0) = false := by rw [beq_eq_false_iff_ne]; omega
    have g1 : ((m : Int) % 1048576000 == 0) = false := by rw [beq_eq_false_iff_ne]; omega
    have g2 : ((m : Int) % 1024000 == 0) = false := by rw [beq_eq_false_iff_ne]; omega
    have g3 : ((m : Int) % 1000 == 0) = true := by rw [beq_iff_eq]; omega
    generalize decB (m / 1000) = U at *
    clear hc ht h1 h2 h3 h4
    have x0 := unit0
    have x1 := unit1
    have x2 := unit2
    have x3 := unit3
    go_enter Tryd.func28, Tryd.ntmps28
    go_wp2_with fail
    refine wp_loop_rounds 9 ?_
    rw [rounds_succ]; go_wp2_with fail
    rw [rounds_succ]; go_wp2_with fail
    rw [rounds_succ]; go_wp2_with fail
    rw [rounds_succ]; go_wp2_with fail
    go_region_with (go_at_call 60; refine (HC.out _ (by repeat (first | with_reducible exact Below.refl _ _ | with_reducible refine Below.drew ?_ | with_reducible refine Below.alloc ?_ (by simp <;> omega) _))).mono ?_; rintro e w2 ⟨rfl, hb⟩; have T2 : Hid (Below w.heap.size w w2) := Below.trans (by repeat (first | with_reducible exact Below.refl _ _ | with_reducible refine Below.drew ?_ | with_reducible refine Below.alloc ?_ (by simp <;> omega) _)) (hb.mono (by simp <;> omega)); have u0 := (hb.cell (p := ⟨w.heap.size + 1 + 1 + 1, 0, none⟩) (by simp <;> omega)).trans (by simp [go_sem] : _ = some (.string ⟨#[]⟩)); clear hb)
    all_goals
      go_wp2
      go_ret
      exact ⟨rfl, T2.out⟩
  · rw [amtL_t4 hp h1 h2 h3 h4, ← dec_app]
    have hc : ∀ wx, Below w.heap.size w wx → Calls Tryd.prog 60 #[.int .i64 (IntKind.i64.wrap (m : Int))] wx fun e w' => e = .returned (.string (decB m)) ∧ Below wx.heap.size wx w' := fun wx hb => by
      rw [show IntKind.i64.wrap (m : Int) = (m : Int) by rw [IntKind.wrap_i64]; omega]
      exact itoa_any m (by omega) wx (tab_later ht hb)
    have hs : (decB m).size ≤ 21 := dec_size (by omega)
    have HC := hide hc
    have g0 : ((m : Int) % 1073741824000 == 0) = false := by rw [beq_eq_false_iff_ne]; omega
    have g1 : ((m : Int) % 1048576000 == 0) = false := by rw [beq_eq_false_iff_ne]; omega
    have g2 : ((m : Int) % 1024000 == 0) = false := by rw [beq_eq_false_iff_ne]; omega
    have g3 : ((m : Int) % 1000 == 0) = false := by rw [beq_eq_false_iff_ne]; omega
    have g4 : ((m : Int) % 1 == 0) = true := by rw [beq_iff_eq]; omega
    generalize decB m = U at *
    clear hc ht h1 h2 h3 h4
    have x0 := unit0
    have x1 := unit1
    have x2 := unit2
    have x3 := unit3
    have x4 := unit4
    go_enter Tryd.func28, Tryd.ntmps28
    go_wp2_with fail
    refine wp_loop_rounds 9 ?_
    rw [rounds_succ]; go_wp2_with fail
    rw [rounds_succ]; go_wp2_with fail
    rw [rounds_succ]; go_wp2_with fail
    rw [rounds_succ]; go_wp2_with fail
    rw [rounds_succ]; go_wp2_with fail
    go_region_with (go_at_call 60; refine (HC.out _ (by repeat (first | with_reducible exact Below.refl _ _ | with_reducible refine Below.drew ?_ | with_reducible refine Below.alloc ?_ (by simp <;> omega) _))).mono ?_; rintro e w2 ⟨rfl, hb⟩; have T2 : Hid (Below w.heap.size w w2) := Below.trans (by repeat (first | with_reducible exact Below.refl _ _ | with_reducible refine Below.drew ?_ | with_reducible refine Below.alloc ?_ (by simp <;> omega) _)) (hb.mono (by simp <;> omega)); have u0 := (hb.cell (p := ⟨w.heap.size + 1 + 1 + 1 + 1, 0, none⟩) (by simp <;> omega)).trans (by simp [go_sem] : _ = some (.string ⟨#[109]⟩)); clear hb)
    all_goals
      go_wp2
      go_ret
      exact ⟨rfl, T2.out⟩
set_option maxRecDepth 100000 in
theorem itext_any (n : Int) (w : World) (hu : Units w) (ht : Lib.TabIs Tryd.prog w "internal/strconv.uint64pow10" .u64 Lib.pow10Tab) :
    Calls Tryd.prog 28 #[.int .i64 n] w fun e w' => e = .returned (.string (amtB n)) ∧ Below w.heap.size w w' := by
  by_cases h0 : n < 0
  · have HR : Hid (amtB n = _) := amtB_out (by unfold inB; rw [decide_eq_false_iff_not]; omega)
    clear hu ht
    generalize amtB n = V at *
    go_enter Tryd.func28, Tryd.ntmps28
    go_wp2_with fail
    go_ret
    exact ⟨by rw [HR.out]; rfl, Below.refl _ _⟩
  by_cases h1 : (1000000000000000 : Int) < n
  · have HR : Hid (amtB n = _) := amtB_out (by unfold inB; rw [decide_eq_false_iff_not]; omega)
    clear hu ht
    generalize amtB n = V at *
    go_enter Tryd.func28, Tryd.ntmps28
    go_wp2_with fail
    go_ret
    exact ⟨by rw [HR.out]; rfl, Below.refl _ _⟩
  by_cases h2 : n = 0
  · subst h2
    have HR : Hid (amtB 0 = ⟨#[48]⟩) := by show _ = _; rw [show (0 : Int) = ((0 : Nat) : Int) from rfl, amtB_in (by decide), amtL_0]
    clear hu ht
    generalize amtB 0 = V at *
    have q : ((0 : Int) == 0) = true := rfl
    go_enter Tryd.func28, Tryd.ntmps28
    go_wp2_with fail
    go_ret
    exact ⟨by rw [HR.out]; rfl, Below.refl _ _⟩
  obtain ⟨m, rfl⟩ : ∃ m : Nat, n = m := ⟨n.toNat, by omega⟩
  rw [amtB_in (by omega)]
  exact itext_pos m (by omega) (by omega) w hu ht
end Go.Proofs.YtlbpfcchaobgjaaDoor
