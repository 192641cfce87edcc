/- Objects: their order, as both ask it. -/
import Derived.Test.YtdnodaoeflbfkaaOB4
namespace Go.Proofs.Ytdnodaoeflbfkaa
open Go.RowKit Go.BigFrame
set_option linter.unusedVariables false
set_option linter.unusedSimpArgs false

def lessO (z0 u0 : Int) (z1 u1 : ByteArray) : Bool := decide (z0 < u0) || (decide (z0 = u0) && Op.bytesLess z1.toList u1.toList)
def ordO (z0 u0 : Int) (z1 u1 : ByteArray) : Int := if cmpI z0 u0 = 0 then cmpS z1 u1 else cmpI z0 u0
theorem ordO_less (z0 u0 : Int) (z1 u1 : ByteArray) : decide (ordO z0 u0 z1 u1 ≥ 0) = !(lessO z0 u0 z1 u1) := by
  unfold ordO lessO cmpI cmpS
  rcases Int.lt_trichotomy z0 u0 with h | h | h
  · rw [if_pos h]; simp [h]
  · subst h
    simp
    cases h : Op.bytesLess z1.toList u1.toList with
    | true => simp
    | false => simp; split <;> decide
  · have h1 : ¬ z0 < u0 := by omega
    have h2 : ¬ z0 = u0 := by omega
    rw [if_neg h1, if_pos h]; simp [h1, h2]
theorem l7Less_any (xs ys : List Value) (z0 u0 : Int) (z1 u1 : ByteArray) (w : World) (h0 : xs[0]? = some (.int .i64 z0)) (h1 : xs[1]? = some (.string z1)) (g0 : ys[0]? = some (.int .i64 u0)) (g1 : ys[1]? = some (.string u1)) :
    Calls Try.prog 161 #[.agg xs.toArray, .agg ys.toArray] w fun e w' => e = .returned (.bool (lessO z0 u0 z1 u1)) ∧ Below w.heap.size w w' := by
  have E0 := uhide h0
  have E1 := uhide h1
  have D0 := uhide g0
  have D1 := uhide g1
  have OA : Hid (objU ((w.alloc (.cells xs.toArray 136)).alloc (.cells ys.toArray 136)) w.heap.size 136 xs) := (objU.new2 _ _ rfl).old _
  have OB : Hid (objU ((w.alloc (.cells xs.toArray 136)).alloc (.cells ys.toArray 136)) (w.heap.size + 1) 136 ys) := objU.new2 _ _ (by simp)
  have BA : Hid (Below w.heap.size w ((w.alloc (.cells xs.toArray 136)).alloc (.cells ys.toArray 136))) := ((Below.refl _ _).alloc (Nat.le_refl _) _).alloc (by simp) _
  clear h0 h1 g0 g1
  unfold lessO
  rcases Int.lt_trichotomy z0 u0 with h | h | h
  · have HH := uhide h
    go_enter Try.func161, Try.ntmps161
    go_wp2_with (first
      | ((with_reducible refine wpList_load_oneG ?qqg36 3 ?qqx36 ?qqo36 w.heap.size 0 ?qqh36 (.int .i64 z0) Try.rObj_int (OA.out.cell 0 _ E0.out) ?_); (case qqg36 => rfl); (case qqo36 => rfl); (case qqh36 => simp [Act.eval, Act.put]))
      | ((with_reducible refine wpList_load_oneG ?qqg37 3 ?qqx37 ?qqo37 (w.heap.size + 1) 0 ?qqh37 (.int .i64 u0) Try.rObj_int (OB.out.cell 0 _ D0.out) ?_); (case qqg37 => rfl); (case qqo37 => rfl); (case qqh37 => simp [Act.eval, Act.put]))
      | ((with_reducible refine wpList_load_oneG ?qqg38 9 ?qqx38 ?qqo38 w.heap.size 1 ?qqh38 (.string z1) Try.rObj_string (OA.out.cell 1 _ E1.out) ?_); (case qqg38 => rfl); (case qqo38 => rfl); (case qqh38 => simp [Act.eval, Act.put]))
      | ((with_reducible refine wpList_load_oneG ?qqg39 9 ?qqx39 ?qqo39 (w.heap.size + 1) 1 ?qqh39 (.string u1) Try.rObj_string (OB.out.cell 1 _ D1.out) ?_); (case qqg39 => rfl); (case qqo39 => rfl); (case qqh39 => simp [Act.eval, Act.put]))
      | ((with_reducible refine wpList_load_oneG ?qqg40 3 ?qqx40 ?qqo40 w.heap.size 0 ?qqh40 (.int .i64 z0) Try.rObj_int (OA.out.cell 0 _ E0.out) ?_); (case qqg40 => rfl); (case qqo40 => rfl); (case qqh40 => simp [Act.eval, Act.put]))
      | ((with_reducible refine wpList_load_oneG ?qqg41 3 ?qqx41 ?qqo41 (w.heap.size + 1) 0 ?qqh41 (.int .i64 u0) Try.rObj_int (OB.out.cell 0 _ D0.out) ?_); (case qqg41 => rfl); (case qqo41 => rfl); (case qqh41 => simp [Act.eval, Act.put]))
      | ((with_reducible refine wpList_load_oneG ?qqg42 9 ?qqx42 ?qqo42 w.heap.size 1 ?qqh42 (.string z1) Try.rObj_string (OA.out.cell 1 _ E1.out) ?_); (case qqg42 => rfl); (case qqo42 => rfl); (case qqh42 => simp [Act.eval, Act.put]))
      | ((with_reducible refine wpList_load_oneG ?qqg43 9 ?qqx43 ?qqo43 (w.heap.size + 1) 1 ?qqh43 (.string u1) Try.rObj_string (OB.out.cell 1 _ D1.out) ?_); (case qqg43 => rfl); (case qqo43 => rfl); (case qqh43 => simp [Act.eval, Act.put]))
      )
    go_ret
    exact ⟨ret_bool (by simp [HH.out]), BA.out⟩
  · subst h
    have h1 : ¬ z0 < z0 := by omega
    cases hb : Op.bytesLess z1.toList u1.toList with
    | true =>
      go_enter Try.func161, Try.ntmps161
      go_wp2_with (first
        | ((with_reducible refine wpList_load_oneG ?qqg53 3 ?qqx53 ?qqo53 w.heap.size 0 ?qqh53 (.int .i64 z0) Try.rObj_int (OA.out.cell 0 _ E0.out) ?_); (case qqg53 => rfl); (case qqo53 => rfl); (case qqh53 => simp [Act.eval, Act.put]))
        | ((with_reducible refine wpList_load_oneG ?qqg54 3 ?qqx54 ?qqo54 (w.heap.size + 1) 0 ?qqh54 (.int .i64 z0) Try.rObj_int (OB.out.cell 0 _ D0.out) ?_); (case qqg54 => rfl); (case qqo54 => rfl); (case qqh54 => simp [Act.eval, Act.put]))
        | ((with_reducible refine wpList_load_oneG ?qqg55 9 ?qqx55 ?qqo55 w.heap.size 1 ?qqh55 (.string z1) Try.rObj_string (OA.out.cell 1 _ E1.out) ?_); (case qqg55 => rfl); (case qqo55 => rfl); (case qqh55 => simp [Act.eval, Act.put]))
        | ((with_reducible refine wpList_load_oneG ?qqg56 9 ?qqx56 ?qqo56 (w.heap.size + 1) 1 ?qqh56 (.string u1) Try.rObj_string (OB.out.cell 1 _ D1.out) ?_); (case qqg56 => rfl); (case qqo56 => rfl); (case qqh56 => simp [Act.eval, Act.put]))
        | ((with_reducible refine wpList_load_oneG ?qqg57 3 ?qqx57 ?qqo57 w.heap.size 0 ?qqh57 (.int .i64 z0) Try.rObj_int (OA.out.cell 0 _ E0.out) ?_); (case qqg57 => rfl); (case qqo57 => rfl); (case qqh57 => simp [Act.eval, Act.put]))
        | ((with_reducible refine wpList_load_oneG ?qqg58 3 ?qqx58 ?qqo58 (w.heap.size + 1) 0 ?qqh58 (.int .i64 z0) Try.rObj_int (OB.out.cell 0 _ D0.out) ?_); (case qqg58 => rfl); (case qqo58 => rfl); (case qqh58 => simp [Act.eval, Act.put]))
        | ((with_reducible refine wpList_load_oneG ?qqg59 9 ?qqx59 ?qqo59 w.heap.size 1 ?qqh59 (.string z1) Try.rObj_string (OA.out.cell 1 _ E1.out) ?_); (case qqg59 => rfl); (case qqo59 => rfl); (case qqh59 => simp [Act.eval, Act.put]))
        | ((with_reducible refine wpList_load_oneG ?qqg60 9 ?qqx60 ?qqo60 (w.heap.size + 1) 1 ?qqh60 (.string u1) Try.rObj_string (OB.out.cell 1 _ D1.out) ?_); (case qqg60 => rfl); (case qqo60 => rfl); (case qqh60 => simp [Act.eval, Act.put]))
        )
      go_ret
      exact ⟨ret_bool (by simp), BA.out⟩
    | false =>
      go_enter Try.func161, Try.ntmps161
      go_wp2_with (first
        | ((with_reducible refine wpList_load_oneG ?qqg67 3 ?qqx67 ?qqo67 w.heap.size 0 ?qqh67 (.int .i64 z0) Try.rObj_int (OA.out.cell 0 _ E0.out) ?_); (case qqg67 => rfl); (case qqo67 => rfl); (case qqh67 => simp [Act.eval, Act.put]))
        | ((with_reducible refine wpList_load_oneG ?qqg68 3 ?qqx68 ?qqo68 (w.heap.size + 1) 0 ?qqh68 (.int .i64 z0) Try.rObj_int (OB.out.cell 0 _ D0.out) ?_); (case qqg68 => rfl); (case qqo68 => rfl); (case qqh68 => simp [Act.eval, Act.put]))
        | ((with_reducible refine wpList_load_oneG ?qqg69 9 ?qqx69 ?qqo69 w.heap.size 1 ?qqh69 (.string z1) Try.rObj_string (OA.out.cell 1 _ E1.out) ?_); (case qqg69 => rfl); (case qqo69 => rfl); (case qqh69 => simp [Act.eval, Act.put]))
        | ((with_reducible refine wpList_load_oneG ?qqg70 9 ?qqx70 ?qqo70 (w.heap.size + 1) 1 ?qqh70 (.string u1) Try.rObj_string (OB.out.cell 1 _ D1.out) ?_); (case qqg70 => rfl); (case qqo70 => rfl); (case qqh70 => simp [Act.eval, Act.put]))
        | ((with_reducible refine wpList_load_oneG ?qqg71 3 ?qqx71 ?qqo71 w.heap.size 0 ?qqh71 (.int .i64 z0) Try.rObj_int (OA.out.cell 0 _ E0.out) ?_); (case qqg71 => rfl); (case qqo71 => rfl); (case qqh71 => simp [Act.eval, Act.put]))
        | ((with_reducible refine wpList_load_oneG ?qqg72 3 ?qqx72 ?qqo72 (w.heap.size + 1) 0 ?qqh72 (.int .i64 z0) Try.rObj_int (OB.out.cell 0 _ D0.out) ?_); (case qqg72 => rfl); (case qqo72 => rfl); (case qqh72 => simp [Act.eval, Act.put]))
        | ((with_reducible refine wpList_load_oneG ?qqg73 9 ?qqx73 ?qqo73 w.heap.size 1 ?qqh73 (.string z1) Try.rObj_string (OA.out.cell 1 _ E1.out) ?_); (case qqg73 => rfl); (case qqo73 => rfl); (case qqh73 => simp [Act.eval, Act.put]))
        | ((with_reducible refine wpList_load_oneG ?qqg74 9 ?qqx74 ?qqo74 (w.heap.size + 1) 1 ?qqh74 (.string u1) Try.rObj_string (OB.out.cell 1 _ D1.out) ?_); (case qqg74 => rfl); (case qqo74 => rfl); (case qqh74 => simp [Act.eval, Act.put]))
        )
      go_ret
      exact ⟨ret_bool (by simp), BA.out⟩
  · have h1 : ¬ z0 < u0 := by omega
    have h2 : (z0 == u0) = false := by simp; omega
    have h2' : ¬ z0 = u0 := by omega
    have HH := uhide h2'
    clear h2'
    go_enter Try.func161, Try.ntmps161
    go_wp2_with (first
      | ((with_reducible refine wpList_load_oneG ?qqg85 3 ?qqx85 ?qqo85 w.heap.size 0 ?qqh85 (.int .i64 z0) Try.rObj_int (OA.out.cell 0 _ E0.out) ?_); (case qqg85 => rfl); (case qqo85 => rfl); (case qqh85 => simp [Act.eval, Act.put]))
      | ((with_reducible refine wpList_load_oneG ?qqg86 3 ?qqx86 ?qqo86 (w.heap.size + 1) 0 ?qqh86 (.int .i64 u0) Try.rObj_int (OB.out.cell 0 _ D0.out) ?_); (case qqg86 => rfl); (case qqo86 => rfl); (case qqh86 => simp [Act.eval, Act.put]))
      | ((with_reducible refine wpList_load_oneG ?qqg87 9 ?qqx87 ?qqo87 w.heap.size 1 ?qqh87 (.string z1) Try.rObj_string (OA.out.cell 1 _ E1.out) ?_); (case qqg87 => rfl); (case qqo87 => rfl); (case qqh87 => simp [Act.eval, Act.put]))
      | ((with_reducible refine wpList_load_oneG ?qqg88 9 ?qqx88 ?qqo88 (w.heap.size + 1) 1 ?qqh88 (.string u1) Try.rObj_string (OB.out.cell 1 _ D1.out) ?_); (case qqg88 => rfl); (case qqo88 => rfl); (case qqh88 => simp [Act.eval, Act.put]))
      | ((with_reducible refine wpList_load_oneG ?qqg89 3 ?qqx89 ?qqo89 w.heap.size 0 ?qqh89 (.int .i64 z0) Try.rObj_int (OA.out.cell 0 _ E0.out) ?_); (case qqg89 => rfl); (case qqo89 => rfl); (case qqh89 => simp [Act.eval, Act.put]))
      | ((with_reducible refine wpList_load_oneG ?qqg90 3 ?qqx90 ?qqo90 (w.heap.size + 1) 0 ?qqh90 (.int .i64 u0) Try.rObj_int (OB.out.cell 0 _ D0.out) ?_); (case qqg90 => rfl); (case qqo90 => rfl); (case qqh90 => simp [Act.eval, Act.put]))
      | ((with_reducible refine wpList_load_oneG ?qqg91 9 ?qqx91 ?qqo91 w.heap.size 1 ?qqh91 (.string z1) Try.rObj_string (OA.out.cell 1 _ E1.out) ?_); (case qqg91 => rfl); (case qqo91 => rfl); (case qqh91 => simp [Act.eval, Act.put]))
      | ((with_reducible refine wpList_load_oneG ?qqg92 9 ?qqx92 ?qqo92 (w.heap.size + 1) 1 ?qqh92 (.string u1) Try.rObj_string (OB.out.cell 1 _ D1.out) ?_); (case qqg92 => rfl); (case qqo92 => rfl); (case qqh92 => simp [Act.eval, Act.put]))
      )
    go_ret
    exact ⟨ret_bool (by simp [HH.out]; omega), BA.out⟩
set_option maxHeartbeats 1600000 in
theorem iord_any (xs ys : List Value) (z0 u0 : Int) (z1 u1 : ByteArray) (w : World) (h0 : xs[0]? = some (.int .i64 z0)) (h1 : xs[1]? = some (.string z1)) (g0 : ys[0]? = some (.int .i64 u0)) (g1 : ys[1]? = some (.string u1)) :
    Calls Try.prog 210 #[.agg xs.toArray, .agg ys.toArray] w fun e w' => e = .returned (.int .i64 (ordO z0 u0 z1 u1)) ∧ Below w.heap.size w w' := by
  have E0 := uhide h0
  have E1 := uhide h1
  have D0 := uhide g0
  have D1 := uhide g1
  have OA : Hid (objU ((w.alloc (.cells xs.toArray 136)).alloc (.cells ys.toArray 136)) w.heap.size 136 xs) := (objU.new2 _ _ rfl).old _
  have OB : Hid (objU ((w.alloc (.cells xs.toArray 136)).alloc (.cells ys.toArray 136)) (w.heap.size + 1) 136 ys) := objU.new2 _ _ (by simp)
  have BA : Hid (Below w.heap.size w ((w.alloc (.cells xs.toArray 136)).alloc (.cells ys.toArray 136))) := ((Below.refl _ _).alloc (Nat.le_refl _) _).alloc (by simp) _
  clear h0 h1 g0 g1
  have a0 := OA.out.cell 0 _ E0.out
  have a1 := OA.out.cell 1 _ E1.out
  have b0 := OB.out.cell 0 _ D0.out
  have b1 := OB.out.cell 1 _ D1.out
  have HI := uhide cmpI_any
  have HS := uhide cmpS_any
  have HO := uhide or2_any
  rw [show ordO z0 u0 z1 u1 = or2 (cmpI z0 u0) (cmpS z1 u1) from rfl]
  clear OA OB E0 E1 D0 D1

  go_enter Try.func210, Try.ntmps210
  go_wp2
  go_region_held3 (fun w' => w'.cell? ⟨w.heap.size, 0, none⟩ = some (.int .i64 z0) ∧ w'.cell? ⟨w.heap.size, 1, none⟩ = some (.string z1) ∧ w'.cell? ⟨w.heap.size + 1, 0, none⟩ = some (.int .i64 u0) ∧ w'.cell? ⟨w.heap.size + 1, 1, none⟩ = some (.string u1)) (first | assumption | exact ⟨a0, a1, b0, b1⟩ | go_keep)
    (first | (go_at_call 238; refine (HI.out _ _ _).mono ?_; rintro e w2 ⟨rfl, rfl⟩) | (go_at_call 239; refine (HS.out _ _ _).mono ?_; rintro e w2 ⟨rfl, rfl⟩) | (go_at_call 237; refine (HO.out _ _ (cmpI z0 u0) (cmpS z1 u1) _ (by simp [go_sem]) (by simp [go_sem])).mono ?_; rintro e w2 ⟨rfl, rfl⟩))
  all_goals go_wp2
  all_goals go_ret
  all_goals exact ⟨ret_intU rfl, by repeat (first | with_reducible exact BA.out | with_reducible refine Below.drew ?_ | with_reducible refine below_drewN ?_ _ | with_reducible refine Below.alloc ?_ (by simp <;> omega) _)⟩
end Go.Proofs.Ytdnodaoeflbfkaa
