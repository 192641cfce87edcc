/- Objects: their order, as both ask it; whether one ends and waits for nothing. -/
import Derived.Test.YtdnodaoeflbfkaaOB2
import Derived.Deep.RegionHeld3
namespace Go.Proofs.Ytdnodaoeflbfkaa
open Go.RowKit Go.BigFrame
set_option linter.unusedVariables false
set_option linter.unusedSimpArgs false

def cmpI (a b : Int) : Int := if a < b then -1 else if b < a then 1 else 0
def cmpS (a b : ByteArray) : Int := if Op.bytesLess a.toList b.toList = true then -1 else if a.toList = b.toList then 0 else 1
theorem cmpI_any (a b : Int) (w : World) : Calls Try.prog 238 #[.int .i64 a, .int .i64 b] w fun e w' => e = .returned (.int .i64 (cmpI a b)) ∧ w' = w := by
  have hn : ∀ x : Int, (x != x) = false := fun x => by simp
  rcases Int.lt_trichotomy a b with h | h | h
  · have e : cmpI a b = -1 := by unfold cmpI; rw [if_pos h]
    rw [e]
    go_enter Try.func238, Try.ntmps238
    go_wp2
    go_ret
    exact ⟨rfl, rfl⟩
  · subst h
    have e : cmpI a a = 0 := by unfold cmpI; rw [if_neg (by omega), if_neg (by omega)]
    rw [e]
    have h1 : ¬ a < a := by omega
    go_enter Try.func238, Try.ntmps238
    go_wp2
    go_ret
    exact ⟨rfl, rfl⟩
  · have e : cmpI a b = 1 := by unfold cmpI; rw [if_neg (by omega), if_pos h]
    rw [e]
    have h1 : ¬ a < b := by omega
    go_enter Try.func238, Try.ntmps238
    go_wp2
    go_ret
    exact ⟨rfl, rfl⟩
theorem cmpS_any (a b : ByteArray) (w : World) : Calls Try.prog 239 #[.string a, .string b] w fun e w' => e = .returned (.int .i64 (cmpS a b)) ∧ w' = w := by
  have hn : ∀ x : ByteArray, (x.toList == x.toList) = true := fun x => by simp
  cases h : Op.bytesLess a.toList b.toList with
  | true =>
    have e : cmpS a b = -1 := by unfold cmpS; rw [if_pos h]
    rw [e]
    go_enter Try.func239, Try.ntmps239
    go_wp2
    go_ret
    exact ⟨rfl, rfl⟩
  | false =>
    have e : Hid (cmpS a b = if a.toList = b.toList then 0 else 1) := by show _ = _; unfold cmpS; rw [if_neg (by rw [h]; simp)]
    by_cases h2 : a.toList = b.toList
    · rw [e.out, if_pos h2]
      clear e
      go_enter Try.func239, Try.ntmps239
      go_wp2
      all_goals go_ret
      all_goals (first | exact ⟨rfl, rfl⟩ | (exfalso; simp_all))
    · rw [e.out, if_neg h2]
      clear e
      go_enter Try.func239, Try.ntmps239
      go_wp2
      all_goals go_ret
      all_goals (first | exact ⟨rfl, rfl⟩ | (exfalso; simp_all))
def or2 (c1 c2 : Int) : Int := if c1 = 0 then c2 else c1
theorem or2_any (g cap : Nat) (c1 c2 : Int) (w : World) (h0 : w.cell? ⟨g, 0, none⟩ = some (.int .i64 c1)) (h1 : w.cell? ⟨g, 1, none⟩ = some (.int .i64 c2)) : Calls Try.prog 237 #[.slice (some ⟨g, 0, none⟩) 2 cap] w fun e w' => e = .returned (.int .i64 (or2 c1 c2)) ∧ w' = w := by
  unfold or2
  have H : Hid (∀ x, (x = c1 ∧ c1 ≠ 0) ∨ (c1 = 0 ∧ x = c2) → x = (if c1 = 0 then c2 else c1)) := fun x h => by
    rcases h with ⟨h, g⟩ | ⟨h, g⟩
    · rw [if_neg g]; exact h
    · rw [if_pos h]; exact g
  generalize (if c1 = 0 then c2 else c1) = R at *
  go_enter Try.func237, Try.ntmps237
  go_wp2
  go_loopw [8] (fun i wr => ∃ k : Nat, k ≤ 2 ∧ i = .int .i64 k ∧ Hid (0 < k → c1 = 0) ∧ Hid (1 < k → c2 = 0) ∧ wr = w) (fun i _ => 2 - (intOf i).toNat)
  case atStart => exact ⟨0, by omega, rfl, fun h => by omega, fun h => by omega, by first | rfl | trivial⟩
  case round =>
    obtain ⟨k, hk, rfl, K0, K1, rfl⟩ := hrel
    have hk3 : k = 0 ∨ k = 1 ∨ k = 2 := by omega
    rcases hk3 with rfl | rfl | rfl
    · by_cases h : c1 = 0
      · have h2 : (c1 != 0) = false := by simp [h]
        have HH := uhide h
        clear h
        go_wp2
        go_roundw
        case rel => exact ⟨1, by omega, by go_num, fun _ => HH.out, fun h => by omega, by first | rfl | trivial⟩
        case measure => simp [intOf]
      · have h2 : (c1 != 0) = true := by simpa using h
        have HH := uhide h
        clear h
        go_wp2
        go_ret
        exact ⟨ret_intU (H.out _ (.inl ⟨rfl, HH.out⟩)), rfl⟩
    · by_cases h : c2 = 0
      · have h2 : (c2 != 0) = false := by simp [h]
        have HH := uhide h
        clear h
        go_wp2
        go_roundw
        case rel => exact ⟨2, by omega, by go_num, fun _ => K0.out (by omega), fun _ => HH.out, by first | rfl | trivial⟩
        case measure => simp [intOf]
      · have h2 : (c2 != 0) = true := by simpa using h
        have HH := uhide h
        clear h
        go_wp2
        go_ret
        exact ⟨ret_intU (H.out _ (.inr ⟨K0.out (by omega), rfl⟩)), rfl⟩
    · go_wp2
      go_ret
      exact ⟨ret_intU (H.out _ (.inr ⟨K0.out (by omega), (K1.out (by omega)).symm⟩)), rfl⟩
theorem ends_any (xs : List Value) (z5 : Bool) (n6 : Nat) (a6 : Option Addr) (cp6 : Nat) (w : World) (h5 : xs[5]? = some (.bool z5)) (h6 : xs[6]? = some (.slice a6 n6 cp6)) :
    Calls Try.prog 169 #[.agg xs.toArray] w fun e w' => e = .returned (.bool (z5 && decide (n6 = 0))) ∧ Below w.heap.size w w' := by
  have E5 := uhide h5
  have E6 := uhide h6
  have OA : Hid (objU (w.alloc (.cells xs.toArray 136)) w.heap.size 136 xs) := objU.new2 _ _ rfl
  have BA : Hid (Below w.heap.size w (w.alloc (.cells xs.toArray 136))) := (Below.refl _ _).alloc (Nat.le_refl _) _
  clear h5 h6
  cases z5 with
  | false =>
    go_enter Try.func169, Try.ntmps169
    go_wp2_with (first
      | ((with_reducible refine wpList_load_oneG ?qqg123 4 ?qqx123 ?qqo123 w.heap.size 5 ?qqh123 (.bool false) Try.rObj_bool (OA.out.cell 5 _ E5.out) ?_); (case qqg123 => rfl); (case qqo123 => rfl); (case qqh123 => simp [Act.eval, Act.put]))
      )
    go_ret
    exact ⟨ret_bool (by simp), BA.out⟩
  | true =>
    by_cases h : n6 = 0
    · have h0 : ((n6 : Int) == 0) = true := by simp [h]
      have HH := uhide h
      clear h
      go_enter Try.func169, Try.ntmps169
      go_wp2_with (first
        | ((with_reducible refine wpList_load_oneG ?qqg134 4 ?qqx134 ?qqo134 w.heap.size 5 ?qqh134 (.bool true) Try.rObj_bool (OA.out.cell 5 _ E5.out) ?_); (case qqg134 => rfl); (case qqo134 => rfl); (case qqh134 => simp [Act.eval, Act.put]))
        | ((with_reducible refine wpList_load_oneG ?qqg135 25 ?qqx135 ?qqo135 w.heap.size 6 ?qqh135 (.slice a6 n6 cp6) Try.rObj_Lstring (OA.out.cell 6 _ E6.out) ?_); (case qqg135 => rfl); (case qqo135 => rfl); (case qqh135 => simp [Act.eval, Act.put]))
        )
      go_ret
      exact ⟨ret_bool (by simp [HH.out]), BA.out⟩
    · have h0 : ((n6 : Int) == 0) = false := by simp [h]
      have HH := uhide h
      clear h
      go_enter Try.func169, Try.ntmps169
      go_wp2_with (first
        | ((with_reducible refine wpList_load_oneG ?qqg144 4 ?qqx144 ?qqo144 w.heap.size 5 ?qqh144 (.bool true) Try.rObj_bool (OA.out.cell 5 _ E5.out) ?_); (case qqg144 => rfl); (case qqo144 => rfl); (case qqh144 => simp [Act.eval, Act.put]))
        | ((with_reducible refine wpList_load_oneG ?qqg145 25 ?qqx145 ?qqo145 w.heap.size 6 ?qqh145 (.slice a6 n6 cp6) Try.rObj_Lstring (OA.out.cell 6 _ E6.out) ?_); (case qqg145 => rfl); (case qqo145 => rfl); (case qqh145 => simp [Act.eval, Act.put]))
        )
      go_ret
      exact ⟨ret_bool (by simp [HH.out]), BA.out⟩
end Go.Proofs.Ytdnodaoeflbfkaa
