/- FnAmounts holds: at every code the drawn amount comes back of its text. No conditions but the tied tables. -/
import Derived.Test.YtlbpfcchaobgjaaDoorCards
import Derived.Test.YtlbpfcchaobgjaaDoorTie
import Derived.Test.YtlbpfcchaobgjaaDoorParB
import Derived.Test.YtlbpfcchaobgjaaDoorLaid
import Derived.Test.YtlbpfcchaobgjaaDoorDrawA
import Derived.WalkKit
import Derived.ProofKit
import Derived.OpenShut
import Derived.ShutString
import Derived.ChangeOld
import Derived.Below
import Derived.Deep.DeepHandedRow
import Derived.Lib.LaidTab
import Derived.Lay
import Derived.OpenVars
namespace Go.Proofs.YtlbpfcchaobgjaaDoor
open Go.ChangeShapes Go.WideShapes Go.ChangeAt Go.RowKit
open Go.ChangeMaps (open_string shut_string)
set_option linter.unusedVariables false
namespace LFnAmounts
theorem own : ownKnob Tryd.prog.godebug = none := by kernel_rfl
theorem laidOut : laidOutB Tryd.prog = true := by kernel_rfl
theorem amt_none : amtR [] = (0, false) := by rfl
theorem amt_len {m : Nat} : (amtL m).length ≠ 0 := by
  have h : ∀ k u, (Lib.decDigits k ++ u).length ≠ 0 := fun k u => by
    rw [List.length_append, Lib.decDigits_length]
    have := Lib.nDigits_pos k
    omega
  have h' : ∀ k, (Lib.decDigits k).length ≠ 0 := fun k => by have := h k []; rwa [List.append_nil] at this
  unfold amtL
  split
  · simp
  split
  · exact h _ _
  split
  · exact h _ _
  split
  · exact h _ _
  split
  · exact h' _
  · exact h _ _
theorem amt_len_le {m : Nat} (hm : m ≤ 1000000000000000) : (amtL m).length ≤ 23 := by
  have h' : ∀ k, k ≤ 1000000000000000 → (Lib.decDigits k).length ≤ 21 := fun k hk => by
    have := dec_size (m := k) (by omega)
    exact this
  have h : ∀ k u, k ≤ 1000000000000000 → List.length u ≤ 2 → (Lib.decDigits k ++ u).length ≤ 23 := fun k u hk hu => by
    rw [List.length_append]
    have := h' k hk
    omega
  unfold amtL
  split
  · decide
  split
  · exact h _ _ (by omega) (by decide)
  split
  · exact h _ _ (by omega) (by decide)
  split
  · exact h _ _ (by omega) (by decide)
  split
  · have := h' (m / 1000) (by omega); omega
  · exact h _ _ (by omega) (by decide)
set_option maxRecDepth 100000 in
set_option maxHeartbeats 1600000 in
theorem walk (n cap : Nat) (a : Option Addr) (w : World) (hl : n ≤ maxLen) (hc : codeAll w a n) (hu : Units w) (ht : Lib.TabIs Tryd.prog w "internal/strconv.uint64pow10" .u64 Lib.pow10Tab) :
    Calls Tryd.prog 5 #[.slice a n cap] w fun e w' => e = .returned (.bool true) ∧ Below w.heap.size w w' := by
  have hbig := fun wx => big_any n cap a wx
  by_cases hb : 1048576 < n
  · rw [decide_eq_true hb] at hbig
    have HB := hide hbig
    clear hbig hu ht hc hl
    go_enter Tryd.func5, Tryd.ntmps5
    go_wp2_with (go_at_call 8; refine (HB.out _).mono ?_; rintro e w ⟨rfl, rfl⟩)
    go_ret
    exact ⟨rfl, Below.refl _ _⟩
  rw [decide_eq_false hb] at hbig
  have HB := hide hbig
  have HD := hide (drawText_any n cap a w (by omega) hc)
  have HU := hide hu
  have HT := hide ht
  clear hbig hu ht hc hl hb
  go_enter Tryd.func5, Tryd.ntmps5
  go_wp2_with (first | (go_at_call 8; refine (HB.out _).mono ?_; rintro e w ⟨rfl, rfl⟩) | (go_at_call 27; refine HD.out.mono ?_; rintro e w1 ⟨x, rfl, hb1⟩))
  have T1 := hide hb1
  clear hb1
  go_wp2_with fail
  refine (itext_any x w1 (HU.out.below T1.out) (tab_later HT.out T1.out)).mono ?_
  rintro e w2 ⟨rfl, hb2⟩
  have T2 := hide (T1.out.trans (hb2.mono T1.out.size))
  clear hb2
  by_cases hx : 0 ≤ x ∧ x ≤ 1000000000000000
  · obtain ⟨m, rfl⟩ : ∃ m : Nat, x = m := ⟨x.toNat, by omega⟩
    have hm : m ≤ 1000000000000000 := by omega
    have hp := ipar_any ⟨(amtL m).toArray⟩ w2 (by
      show (amtL m).length ≤ _
      have := amt_len_le hm
      omega) (HU.out.below T2.out)
    rw [show ((⟨(amtL m).toArray⟩ : ByteArray).data.toList) = amtL m by simp, amt_back hm] at hp
    have HP := hide hp
    have hlen : (0 : Int) < (((⟨(amtL m).toArray⟩ : ByteArray).size : Nat) : Int) := by
      show (0 : Int) < (((amtL m).length : Nat) : Int)
      have := @amt_len m
      omega
    rw [amtB_in hm]
    have z1 : ¬ (m : Int) < 0 := by omega
    have z2 : ¬ (1000000000000000 : Int) < (m : Int) := by omega
    have z3 : ((m : Int) == (m : Int)) = true := by simp
    clear hp hx hm
    generalize (⟨(amtL m).toArray⟩ : ByteArray) = V at *
    go_wp2_with fail
    refine HP.out.mono ?_
    rintro e w3 ⟨rfl, hb3⟩
    have T3 := hide (T2.out.trans (hb3.mono T2.out.size))
    clear hb3
    have hv : 0 < V.size := by omega
    go_wp2
    go_ret
    exact ⟨by first | rfl | simp, T3.out⟩
  · have hv : amtB x = ⟨#[]⟩ := amtB_out (by unfold inB; rw [decide_eq_false_iff_not]; exact hx)
    have hp := ipar_any ⟨#[]⟩ w2 (by show 0 ≤ _; decide) (HU.out.below T2.out)
    rw [show ((⟨#[]⟩ : ByteArray).data.toList) = [] from rfl, amt_none] at hp
    have HP := hide hp
    rw [hv]
    clear hp hv
    have hs : ((⟨#[]⟩ : ByteArray).toList.isEmpty) = true := by rw [empty_iff]; rfl
    by_cases h1 : x < 0
    · clear hx
      go_wp2_with fail
      refine HP.out.mono ?_
      rintro e w3 ⟨rfl, hb3⟩
      have T3 := hide (T2.out.trans (hb3.mono T2.out.size))
      clear hb3
      go_wp2
      go_ret
      exact ⟨rfl, T3.out⟩
    · have h2 : (1000000000000000 : Int) < x := by omega
      clear hx
      go_wp2_with fail
      refine HP.out.mono ?_
      rintro e w3 ⟨rfl, hb3⟩
      have T3 := hide (T2.out.trans (hb3.mono T2.out.size))
      clear hb3
      go_wp2
      go_ret
      exact ⟨rfl, T3.out⟩
theorem vars_one {H : Type} {enc : TypeId × Value → H} {P : Program} {W : World} {sp : Nat → Bool} {n : String} {gs : List (DataW H)} {q : List MemPlace} (h : DataW.TrodVars enc P W sp [n] gs q) : ∃ g1, gs = [g1] := by
  cases gs with
  | nil => exact h.elim
  | cons g r =>
    cases r with
    | nil => exact ⟨g, rfl⟩
    | cons g2 r2 => obtain ⟨_, _, _, _, _, _, _, _, _, _, h2, _⟩ := h; exact h2.elim
set_option maxRecDepth 100000 in
theorem contract (H : Type) (enc : TypeId × Value → H) (W : World) (base : Nat) (args : Array Value) (ds gs : List (DataW H)) (before : List MemPlace)
    (hval0 : ∀ (j : Nat) t v, Tryd.f5.params[j]? = some t → args[j]? = some v → Value.okWide Tryd.prog W .any base t v)
    (hW : DataW.Whole enc Tryd.prog Tryd.f5.params.toList Rows.fnAmountsSpec.vars false W args.toList ds gs before) (hL : laidMet Tryd.prog Rows.fnAmountsRow.laid W) :
    Calls Tryd.prog 5 args W fun e W' => ∃ v, e = .returned v ∧ Rows.fnAmountsSpec.post enc Tryd.prog Tryd.f5 false true false false W args v W' := by
  have hval : ∀ (j : Nat) t v, Tryd.f5.params[j]? = some t → args[j]? = some v → Value.okWide Tryd.prog W .any base t v := hval0
  have hW' := hW
  obtain ⟨p, q, hA0, hV, rfl, hfz, hnd⟩ := hW
  have hA : DataW.TrodAll enc Tryd.prog W 0 (fun _ => true) true Tryd.f5.params.toList args.toList ds p := hA0
  rw [Tryd.params5] at hA hval
  obtain ⟨v0, vs0, d0, ds0, p0, q0, hargs, rfl, rfl, h0, r0⟩ := trodAll_cons hA
  obtain ⟨rfl, rfl, rfl⟩ := trodAll_nil r0
  obtain rfl : args = #[v0] := by cases args; simp_all
  obtain ⟨g1, rfl⟩ := vars_one hV
  obtain ⟨a0, len0, cap0, rfl⟩ := okWide_slice Tryd.underlying22 (hval 0 22 v0 rfl rfl)
  have k0 := h0
  have lt0 : ∀ x ∈ p0, x.block < W.heap.size := by obtain ⟨m, hm⟩ := k0; exact DataW.trod_lt m _ _ _ hm
  obtain ⟨fuel0, hf0⟩ := h0
  obtain ⟨hcode, hlen⟩ := open_code (by simpa [Value.cells] using hf0)
  clear hA0 hval0
  have f0 := units_of_reads (Lib.laidMet.reads hL (.tail _ (.tail _ (.tail _ (.head _)))))
  have f1 := tab_of_reads (Lib.laidMet.reads hL (.tail _ (.tail _ (.head _))))
  refine (walk len0 cap0 a0 W hlen hcode f0 f1).mono fun e W' ⟨he, bel⟩ => ?_
  subst he
  exact ⟨_, rfl, _, _, _, [], _, q, hW', trodAll_mk1 (shut_bool Tryd.underlying4 _), (trodAll_cons_mk (Below.trod laidOut (by kernel_rfl) (of_decide_eq_true (by kernel_rfl)) k0 bel lt0) trodAll_mk0), bel.trodVars laidOut (by kernel_rfl) hV, bel.frame _, fun h => by cases h⟩
theorem laid_met (os : Os) : laidMet Tryd.prog Rows.fnAmountsRow.laid ((World.laidAll Tryd.prog os Rows.fnAmountsRow.laid).forCall (fun _ _ => 0) ⟨#[], #[.slice none 0 0], []⟩).memory :=
  laidMet_laidAll _ (by kernel_rfl) (by kernel_rfl)
theorem reads (os : Os) {H : Type} (enc : TypeId × Value → H) : ∃ x, DataW.whole enc Tryd.prog ((World.laidAll Tryd.prog os Rows.fnAmountsRow.laid).forCall (fun _ _ => 0) ⟨#[], #[.slice none 0 0], []⟩).memory Tryd.f5.params.toList Rows.fnAmountsSpec.vars false #[.slice none 0 0].toList 8 = some x :=
  Option.isSome_iff_exists.1 (by kernel_rfl)
set_option maxRecDepth 100000 in
theorem lifted (os : Os) (started : os.Started) (H : Type) (enc : TypeId × Value → H) (F : Stop.Interp) :
    ReturnsInHanded {} Tryd.checked os 5 .any ((OpenSpec.ofChange Rows.fnAmountsSpec).preRow enc Tryd.prog Tryd.f5 Rows.fnAmountsRow.domain false Rows.fnAmountsRow.laid) (((OpenSpec.ofChange Rows.fnAmountsSpec).at F).post enc Tryd.prog Tryd.f5 false true false false) := by
  obtain ⟨x, hx⟩ := reads os enc
  refine returnsInHanded_of_row (C := Tryd.checked) (s := OpenSpec.ofChange Rows.fnAmountsSpec) own started (by kernel_rfl) Tryd.func5
    (witness_row_at (enc := enc) (C := Tryd.checked) false (World.laidAll Tryd.prog os Rows.fnAmountsRow.laid) #[.slice none 0 0] (World.laidAll_os _ _ _) (by kernel_rfl) (by kernel_rfl) (by kernel_rfl)
      (OpenSpec.preRow_of_cond 8 hx (by kernel_rfl) (fun k hk => by cases hk) (by kernel_rfl) (laid_met os))) ?_
  intro W base args ds gs before hval hW _ _ _ hL hsh _
  exact contract H enc W base args ds gs before hval hW hL

theorem said : Rows.FnAmountsSaid :=
  OpenClaim.holds_of_cond 5 Tryd.f5 rfl rfl rfl rfl rfl rfl rfl ⟨rfl, rfl, rfl, rfl, rfl⟩ rfl rfl rfl rfl rfl (by kernel_rfl) Tryd.func5 (by kernel_rfl)
    (of_decide_eq_true (by kernel_rfl)) (by unfold Func.isWrapper; first | (rw [if_pos (by decide +kernel)]; kernel_rfl) | (rw [if_neg (by decide +kernel)]; exact ⟨rfl, rfl⟩))
    (fun os started H enc _ F => by rw [OpenClaim.pre_eq_preRow]; exact lifted os started H enc F)

theorem plain (f : FuncId) (fn : Func) (hf : Tryd.pinned.checked.prog.funcNamed "loop.example/g00119/laws.FnAmounts" = some f) (hfn : Tryd.pinned.checked.prog.funcs[f]? = some fn) :
    true = Tryd.pinned.checked.prog.looks [] ∧ ∀ (j : Nat) t, fn.params[j]? = some t → Tryd.pinned.checked.prog.wantsStandIn t = false := by
  obtain rfl : f = 5 := Option.some.inj ((show Tryd.prog.funcNamed "loop.example/g00119/laws.FnAmounts" = some 5 by kernel_rfl).symm.trans hf) |>.symm
  obtain rfl : fn = Tryd.f5 := (Option.some.inj (Tryd.func5.symm.trans hfn)).symm
  refine ⟨by kernel_rfl, fun j t ht => ?_⟩
  rw [Tryd.params5] at ht
  obtain rfl : t = 22 := by simpa using Array.mem_of_getElem? ht
  exact (show Tryd.prog.wantsStandIn 22 = false by kernel_rfl)
end LFnAmounts
theorem amounts_holds : Rows.FnAmountsCardSaid :=
  Claim7.holds_tied_plain_at .later [] _ _ _ _ LFnAmounts.said (fun _ h => by cases h) (by kernel_rfl) (fun _ h => by cases h) fnAmounts_row_tie rfl ⟨rfl, rfl⟩ (by kernel_rfl) rfl LFnAmounts.plain (by kernel_rfl)
#print axioms amounts_holds
end Go.Proofs.YtlbpfcchaobgjaaDoor
