/- FnExactLabelSet holds: at every slice of labels every key and every value impl.LabelSet answers what spec.LabelSet answers, in memory of its own, and writes nothing. No conditions. -/
import Derived.Test.YtdcknajakmjniaaRows
import Derived.Test.YtdcknajakmjniaaSetI
import Derived.WalkKit
import Derived.ProofKit
import Derived.OpenShut
import Derived.ShutString
import Derived.ChangeOld
import Derived.Below
namespace Go.Proofs.Ytdcknajakmjniaa
open Go.ChangeShapes Go.WideShapes Go.ChangeAt Go.RowKit
open Go.ChangeMaps (open_string shut_string)
set_option linter.unusedVariables false
namespace LLabelSet
theorem laidOut : laidOutB Try.prog = true := by kernel_rfl
theorem own : ownKnob Try.prog.godebug = none := by kernel_rfl

set_option maxHeartbeats 1600000 in
theorem walk (a : Option Addr) (cap : Nat) (ls : List (ByteArray × ByteArray)) (key val : ByteArray) (w : World) (hl : ls.length ≤ maxLen) (hkey : key.size ≤ maxLen) (hval : val.size ≤ maxLen) (hz : okSizes ls) (hrow : rowOf w a ls) :
    Calls Try.prog 6 #[.slice a ls.length cap, .string key, .string val] w fun e w' => e = .returned (.bool true) ∧ Below w.heap.size w w' := by
  have Hr := hide hrow
  have Hz := hide hz
  have Hlow := hide hrow.low
  clear hrow hz
  by_cases hbig : (1048576 : Int) < (key.size : Int)
  · go_enter Try.func6, Try.ntmps6
    go_wp2
    go_ret
    exact ⟨rfl, Below.refl _ _⟩
  by_cases hbig2 : (1048576 : Int) < (val.size : Int)
  · go_enter Try.func6, Try.ntmps6
    go_wp2
    go_ret
    exact ⟨rfl, Below.refl _ _⟩
  by_cases hs : szS ls 1048576 < 0
  · go_enter Try.func6, Try.ntmps6
    go_wp2_with fail
    refine (szLabelS_any a cap ls _ _ hl Hz.out (by decide) (by decide) Hr.out).mono ?_
    rintro e w1 ⟨rfl, hb1⟩
    go_wp2
    go_ret
    exact ⟨rfl, hb1⟩
  have hlen : ls.length ≤ 1048576 := by have := szS_ok hs; omega
  have hdl := setR_len key val hlen
  have hsd := fun b off cap wx => slabelSet_any b off cap ls key val wx hlen Hz.out hkey hval
  have hid := fun b off cap wx => ilabelSet_any b off cap ls key val wx hlen
  have hdd : decide (ls = ls) = true := by simp
  generalize (setR ls key val).1 = D at *
  generalize (setR ls key val).2 = Q at *
  have hdm : D.length ≤ maxLen := by unfold maxLen; omega
  have hde : decide (D = D) = true := by simp
  have hqq : (Q != Q) = false := by simp
  have Hsd := hide hsd
  have Hid' := hide hid
  clear hsd hid
  go_enter Try.func6, Try.ntmps6
  go_wp2_with fail
  refine (szLabelS_any a cap ls _ _ hl Hz.out (by decide) (by decide) Hr.out).mono ?_
  rintro e w1 ⟨rfl, hb1⟩
  have Hr1 := hide (Hr.out.below hb1)
  go_wp2_with fail
  refine (toLabelS_any a cap ls _ hlen Hr1.out).mono ?_
  rintro e w2 ⟨g2, rfl, hr2, hb2⟩
  have Hr2 := hide (Hr1.out.below hb2)
  have Hx2 := hide (labs_of_owns hr2)
  clear hr2
  go_wp2_with fail
  refine (Hsd.out _ _ _ _ Hx2.out).mono ?_
  rintro e w3 ⟨g3, cap3, rfl, ho3, hb3⟩
  have Hr3 := hide (Hr2.out.below hb3)
  have Ho3 := hide ho3
  clear ho3
  go_wp2_with fail
  refine (toLabelS_any a cap ls _ hlen Hr3.out).mono ?_
  rintro e w4 ⟨g4, rfl, ho4, hb4⟩
  have Hr4 := hide (Hr3.out.below hb4)
  have Ho34 := hide (owns_below Ho3.out hb4)
  have Ho4 := hide ho4
  clear ho4
  go_wp2_with fail
  refine (Hid'.out _ _ _ _ (labs_of_owns Ho4.out)).mono ?_
  rintro e w5 ⟨g5, cap5, rfl, ho5, hb5⟩
  have Hr5 := hide (Hr4.out.below hb5)
  have Ho35 := hide (owns_below Ho34.out hb5)
  have Ho45 := hide (owns_below Ho4.out hb5)
  have Ho5 := hide ho5
  clear ho5
  go_wp2_with fail
  refine (eqLabelS_any _ _ _ _ D D _ hdm hdm (row_of_owns Ho5.out) (row_of_owns Ho35.out)).mono ?_
  rintro e w6 ⟨rfl, hb6⟩
  have Hr6 := hide (Hr5.out.below hb6)
  have Ho36 := hide (owns_below Ho35.out hb6)
  have Ho46 := hide (owns_below Ho45.out hb6)
  have Ho56 := hide (owns_below Ho5.out hb6)
  go_wp2_with fail
  refine (toLabelS_row a cap ls _ hlen Hr6.out).mono ?_
  rintro e w7 ⟨g7, rfl, hr7, hb7⟩
  have Hr7 := hide (Hr6.out.below hb7)
  have Ho37 := hide (owns_below Ho36.out hb7)
  have Ho47 := hide (owns_below Ho46.out hb7)
  have Ho57 := hide (owns_below Ho56.out hb7)
  have Hx7 := hide hr7
  clear hr7
  go_wp2_with fail
  refine (eqLabelS_any _ _ _ _ ls ls _ hl hl (row_of_owns Ho47.out) Hx7.out).mono ?_
  rintro e w8 ⟨rfl, hb8⟩
  have Hr8 := hide (Hr7.out.below hb8)
  have Ho38 := hide (owns_below Ho37.out hb8)
  have Ho48 := hide (owns_below Ho47.out hb8)
  have Ho58 := hide (owns_below Ho57.out hb8)
  have l3 := owns_lt Ho3.out
  have l4 := owns_lt Ho4.out
  have l5 := owns_lt Ho5.out
  have s1 := hb1.size
  have s2 := hb2.size
  have s3 := hb3.size
  have s4 := hb4.size
  have s5 := hb5.size
  have Hs : Hid (g3 ≠ g4 ∧ g5 ≠ g4 ∧ g3 ≠ g5 ∧ w.heap.size ≤ g4 ∧ w.heap.size ≤ g5) := ⟨by omega, by omega, by omega, by omega, by omega⟩
  have Hb8 : Hid (Below w.heap.size w w8) := hb1.trans ((hb2.trans ((hb3.trans ((hb4.trans ((hb5.trans ((hb6.trans ((hb7.trans (hb8.mono hb7.size)).mono hb6.size)).mono hb5.size)).mono hb4.size)).mono hb3.size)).mono hb2.size)).mono hb1.size)
  clear l3 l4 l5 s1 s2 s3 s4 s5 hb1 hb2 hb3 hb4 hb5 hb6 hb7 hb8 Ho3 Ho34 Ho35 Ho36 Ho37 Ho4 Ho45 Ho46 Ho47 Ho5 Ho56 Ho57 Hr Hr1 Hr2 Hr3 Hr4 Hr5 Hr6 Hr7 Hx2 Hx7
  go_wp2_with fail
  refine (markLabelS_any _ _ _ _ 1 _ _ hlen (by decide) (by decide) Ho48.out).mono ?_
  rintro e w9 ⟨rfl, ho49, hb9⟩
  have Hr9 := hide (Hr8.out.ex hb9 (Nat.le_refl _) (fun b off h e => by have := Hlow.out b off h e; have := Hs.out; omega))
  have Ho39 := hide (owns_ex Ho38.out hb9 (Nat.le_refl _) Hs.out.1)
  have Ho59 := hide (owns_ex Ho58.out hb9 (Nat.le_refl _) Hs.out.2.1)
  have Hb9 := hide (Hb8.out.trans ((hb9.mono Hb8.out.size).below Hs.out.2.2.2.1))
  clear ho49 hb9 Ho38 Ho58 Ho48 Hr8 Hb8
  go_wp2_with fail
  refine (eqLabelS_any _ _ _ _ D D _ hdm hdm (row_of_owns Ho59.out) (row_of_owns Ho39.out)).mono ?_
  rintro e w10 ⟨rfl, hb10⟩
  have Hr10 := hide (Hr9.out.below hb10)
  have Ho310 := hide (owns_below Ho39.out hb10)
  have Ho510 := hide (owns_below Ho59.out hb10)
  have Hb10 := hide (Hb9.out.trans (hb10.mono Hb9.out.size))
  clear hb10 Ho39 Ho59 Hr9 Hb9
  go_wp2_with fail
  refine (markLabelS_any _ _ _ _ 1 _ _ hdl (by decide) (by decide) Ho510.out).mono ?_
  rintro e w11 ⟨rfl, ho511, hb11⟩
  have Hr11 := hide (Hr10.out.ex hb11 (Nat.le_refl _) (fun b off h e => by have := Hlow.out b off h e; have := Hs.out; omega))
  have Ho311 := hide (owns_ex Ho310.out hb11 (Nat.le_refl _) Hs.out.2.2.1)
  have Ho511 := hide ho511
  have Hb11 := hide (Hb10.out.trans ((hb11.mono Hb10.out.size).below Hs.out.2.2.2.2))
  clear ho511 hb11 Ho310 Ho510 Hr10 Hb10
  go_wp2_with fail
  refine (heldLabelS_any _ _ _ 1 _ hdl (by decide) (by decide) (row_of_owns Ho511.out)).mono ?_
  rintro e w12 ⟨rfl, hb12⟩
  have Hr12 := hide (Hr11.out.below hb12)
  have Ho312 := hide (owns_below Ho311.out hb12)
  have Ho512 := hide (owns_below Ho511.out hb12)
  have Hb12 := hide (Hb11.out.trans (hb12.mono Hb11.out.size))
  clear hb12 Ho311 Ho511 Hr11 Hb11
  have hq1 : (((1 + D.length * 2 : Nat) : Int) != ((1 + D.length * 2 : Nat) : Int)) = false := by simp
  have hq2 : ¬ ((1 + D.length * 2 : Nat) : Int) < 0 := by omega
  go_wp2_with fail
  refine (toLabelS_any a cap ls _ hlen Hr12.out).mono ?_
  rintro e w13 ⟨g13, rfl, hr13, hb13⟩
  have Ho313 := hide (owns_below Ho312.out hb13)
  have Ho513 := hide (owns_below Ho512.out hb13)
  have Hx13 := hide (labs_of_owns hr13)
  have Hb13 := hide (Hb12.out.trans (hb13.mono Hb12.out.size))
  clear hr13 hb13 Ho312 Ho512 Hr12 Hb12
  go_wp2_with fail
  refine (Hid'.out _ _ _ _ Hx13.out).mono ?_
  rintro e w14 ⟨g14, cap14, rfl, ho14, hb14⟩
  have Ho314 := hide (owns_below Ho313.out hb14)
  have Ho514 := hide (owns_below Ho513.out hb14)
  have Ho14 := hide ho14
  have Hb14 := hide (Hb13.out.trans (hb14.mono Hb13.out.size))
  clear ho14 hb14 Ho313 Ho513 Hx13 Hb13
  go_wp2_with fail
  refine (eqLabelS_any _ _ _ _ D D _ hdm hdm (row_of_owns Ho14.out) (row_of_owns Ho314.out)).mono ?_
  rintro e w15 ⟨rfl, hb15⟩
  have Ho515 := hide (owns_below Ho514.out hb15)
  have Hb15 := hide (Hb14.out.trans (hb15.mono Hb14.out.size))
  clear hb15 Ho514 Ho314 Ho14 Hb14
  go_wp2_with fail
  refine (heldLabelS_any _ _ _ 1 _ hdl (by decide) (by decide) (row_of_owns Ho515.out)).mono ?_
  rintro e w16 ⟨rfl, hb16⟩
  have Hb16 := hide (Hb15.out.trans (hb16.mono Hb15.out.size))
  clear hb16 Ho515 Hb15
  go_wp2
  go_ret
  exact ⟨rfl, Hb16.out⟩

set_option maxRecDepth 100000 in
theorem lifted (os : Os) (started : os.Started) (H : Type) (enc : TypeId × Value → H) :
    ReturnsInHanded {} Try.checked os 6 .any (Rows.fnExactLabelSetSpec.pre6 enc Try.prog Try.f6 Rows.fnExactLabelSetRow.domain false) (Rows.fnExactLabelSetSpec.post enc Try.prog Try.f6 false true false false) := by
  refine returnsInHanded_of_change (C := Try.checked) own started (by kernel_rfl) Try.func6
    (ChangeSpec.witness6 (enc := enc) (C := Try.checked) false ⟨#[], #[.slice none 0 0, .string ByteArray.empty, .string ByteArray.empty], []⟩ 8 (by kernel_rfl) (by kernel_rfl) (by kernel_rfl) (by kernel_rfl)) ?_
  intro W base args ds gs before hval0 hW hcnd _
  have hval : ∀ (j : Nat) t v, Try.f6.params[j]? = some t → args[j]? = some v → Value.okWide Try.prog W .any base t v := hval0
  have hW' := hW
  obtain ⟨p, q, hA0, hV, rfl, hfz, hnd⟩ := hW
  have hA : DataW.TrodAll enc Try.prog W 0 (fun _ => true) true Try.f6.params.toList args.toList ds p := hA0
  rw [Try.params6] at hA hval
  obtain ⟨v0, vs0, d0, ds0, p0, q0, hargs, rfl, rfl, h0, r0⟩ := trodAll_cons hA
  obtain ⟨v1, vs1, d1, ds1, p1, q1, rfl, rfl, rfl, h1, r1⟩ := trodAll_cons r0
  obtain ⟨v2, vs2, d2, ds2, p2, q2, rfl, rfl, rfl, h2, r2⟩ := trodAll_cons r1
  obtain ⟨rfl, rfl, rfl⟩ := trodAll_nil r2
  obtain rfl : args = #[v0, v1, v2] := by cases args; simp_all
  obtain ⟨rfl, rfl⟩ := trodVars_none hV
  obtain ⟨a0, len0, cap0, rfl⟩ := okWide_slice Try.underlying23 (hval 0 23 v0 rfl rfl)
  have k0 := h0
  have lt0 : ∀ x ∈ p0, x.block < W.heap.size := by obtain ⟨m, hm⟩ := k0; exact DataW.trod_lt m _ _ _ hm
  obtain ⟨fuel0, hf0⟩ := h0
  obtain ⟨ls, rfl, hl, hz, hrow⟩ := open_labs (by simpa [Value.cells] using hf0)
  obtain ⟨a1, rfl, rfl, rfl, w1⟩ := open_string Try.underlying9 (hval 1 9 v1 rfl rfl) h1
  obtain ⟨a2, rfl, rfl, rfl, w2⟩ := open_string Try.underlying9 (hval 2 9 v2 rfl rfl) h2
  clear hA0 hval0
  refine (walk a0 cap0 ls a1 a2 W hl w1 w2 hz hrow).mono fun e W' ⟨he, bel⟩ => ?_
  subst he
  exact ⟨_, rfl, _, _, _, [], _, [], hW', trodAll_mk1 (shut_bool Try.underlying4 _), (trodAll_cons_mk (Below.trod laidOut (by kernel_rfl) (of_decide_eq_true (by kernel_rfl)) k0 bel lt0) (trodAll_cons_mk (shut_string Try.underlying9 w1) (trodAll_cons_mk (shut_string Try.underlying9 w2) trodAll_mk0))), rfl, bel.frame _, fun h => by cases h⟩
end LLabelSet
theorem labelSet_holds : Rows.FnExactLabelSetSaid :=
  OpenClaim.holds_of_wide 6 Try.f6 rfl rfl rfl rfl rfl rfl rfl ⟨rfl, rfl, rfl, rfl, rfl⟩ rfl rfl rfl rfl rfl (by kernel_rfl) Try.func6 (by kernel_rfl)
    (of_decide_eq_true (by kernel_rfl)) (by unfold Func.isWrapper; first | (rw [if_pos (by decide +kernel)]; kernel_rfl) | (rw [if_neg (by decide +kernel)]; exact ⟨rfl, rfl⟩))
    (fun os started H enc _ => LLabelSet.lifted os started H enc)
#print axioms labelSet_holds
end Go.Proofs.Ytdcknajakmjniaa
