/- Numbers of at most nine digits: the plain reading, impl.parseDigits at 9, spec.l4Number. -/
import Derived.Test.YtkdiinjkpmkcpaaDoorNames
import Derived.Lib.ItoaNum
import Derived.Lib.Strings
import Derived.Handy
import Derived.LoopN
import Derived.BigQuiet
import Derived.Deep.QuietTactic
namespace Go.Proofs.YtkdiinjkpmkcpaaDoor
namespace Dg
open Go.RowKit Go.BigFrame
set_option linter.unusedVariables false
def isD (c : UInt8) : Bool := decide (48 ≤ c.toNat ∧ c.toNat ≤ 57)
def dstep (n : Nat) (c : UInt8) : Nat := n * 10 + (c.toNat - 48)
def dval (L : List UInt8) : Nat := L.foldl dstep 0
theorem dval_snoc (L : List UInt8) (c : UInt8) : dval (L ++ [c]) = dval L * 10 + (c.toNat - 48) := by
  unfold dval; rw [List.foldl_append]; rfl
theorem dfold_lt : ∀ (L : List UInt8) (a : Nat), (∀ c ∈ L, isD c = true) → L.foldl dstep a < (a + 1) * 10 ^ L.length
  | [], a, _ => by simp
  | c :: L, a, h => by
    have h2 := h c (by simp)
    unfold isD at h2
    simp only [decide_eq_true_eq] at h2
    have ih := dfold_lt L (dstep a c) (fun x hx => h x (by simp [hx]))
    rw [List.foldl_cons, List.length_cons, Nat.pow_succ, Nat.mul_comm (10 ^ L.length) 10, ← Nat.mul_assoc]
    exact Nat.lt_of_lt_of_le ih (Nat.mul_le_mul_right _ (by unfold dstep; omega))
theorem dval_lt (L : List UInt8) (h : ∀ c ∈ L, isD c = true) : dval L < 10 ^ L.length := by
  have := dfold_lt L 0 h
  rw [Nat.zero_add, Nat.one_mul] at this
  exact this
def numB (D : List UInt8) : Bool := decide (1 ≤ D.length ∧ D.length ≤ 9) && (decide (D.length ≤ 1) || D.head? != some 48) && D.all isD
def okD (s : ByteArray) (k : Nat) : Prop := (s.data.toList.take k).all isD = true
def valD (s : ByteArray) (k : Nat) : Nat := dval (s.data.toList.take k)
theorem take_one (s : ByteArray) (k : Nat) (h : k < s.size) : s.data.toList.take (k + 1) = s.data.toList.take k ++ [s[k]'h] := by
  have h' : k < s.data.toList.length := by simpa using h
  rw [List.take_add_one, List.getElem?_eq_getElem h']
  rfl
theorem okD_succ {s : ByteArray} {k : Nat} (hk : k < s.size) (h : okD s k) (hd : isD (s[k]'hk) = true) : okD s (k + 1) := by
  unfold okD at *
  rw [take_one s k hk, List.all_append, h]
  simp [hd]
theorem valD_succ {s : ByteArray} {k : Nat} (hk : k < s.size) : valD s (k + 1) = valD s k * 10 + ((s[k]'hk).toNat - 48) := by
  unfold valD
  rw [take_one s k hk, dval_snoc]
theorem valD_lt {s : ByteArray} {k : Nat} (h : okD s k) (hk : k ≤ s.size) : valD s k < 10 ^ k := by
  have := dval_lt (s.data.toList.take k) (fun c hc => by unfold okD at h; rw [List.all_eq_true] at h; exact h c hc)
  rw [List.length_take] at this
  have e : min k s.data.toList.length = k := by
    have : s.data.toList.length = s.size := by rw [Array.length_toList]; rfl
    omega
  rw [e] at this
  exact this
theorem okD_bad {s : ByteArray} {k : Nat} (hk : k < s.size) (hd : isD (s[k]'hk) = false) : s.data.toList.all isD = false := by
  rw [List.all_eq_false]
  exact ⟨s[k]'hk, by
    have h' : k < s.data.toList.length := by simpa using hk
    have : s.data.toList[k]'h' = s[k]'hk := rfl
    rw [← this]; exact List.getElem_mem h', by rw [hd]; simp⟩
/-- what parseDigits answers, of 16 digits at most -/
def pdR (s : ByteArray) : Nat × Bool := if numB s.data.toList = true then (dval s.data.toList, true) else (0, false)
theorem pd_no {s : ByteArray} (h : numB s.data.toList = false) : pdR s = (0, false) := by unfold pdR; rw [h]; rfl
theorem pd_yes {s : ByteArray} (h : numB s.data.toList = true) : pdR s = (dval s.data.toList, true) := by unfold pdR; rw [h]; rfl
theorem len_size (s : ByteArray) : s.data.toList.length = s.size := by rw [Array.length_toList]; rfl
theorem numB_len {s : ByteArray} (h : ¬ (1 ≤ s.size ∧ s.size ≤ 9)) : numB s.data.toList = false := by
  unfold numB
  rw [len_size, decide_eq_false h]
  rfl
theorem head_get {s : ByteArray} (h : 0 < s.size) : s.data.toList.head? = some (s[0]'h) := by
  have h' : 0 < s.data.toList.length := by rw [len_size]; exact h
  rw [List.head?_eq_getElem?, List.getElem?_eq_getElem h']
  rfl
theorem numB_zero {s : ByteArray} (h0 : 0 < s.size) (h1 : 1 < s.size) (h : ((s[0]'h0).toNat : Int) = 48) : numB s.data.toList = false := by
  have e : s[0]'h0 = 48 := UInt8.toNat_inj.1 (by rw [show (48 : UInt8).toNat = 48 from rfl]; omega)
  unfold numB
  rw [len_size, head_get h0, e, decide_eq_false (show ¬ s.size ≤ 1 by omega)]
  simp
theorem numB_all {s : ByteArray} (h : s.data.toList.all isD = false) : numB s.data.toList = false := by
  unfold numB
  rw [h, Bool.and_false]
theorem numB_ok {s : ByteArray} (h0 : 0 < s.size) (h1 : s.size ≤ 9) (h2 : s.size ≤ 1 ∨ ((s[0]'h0).toNat : Int) ≠ 48) (h : s.data.toList.all isD = true) : numB s.data.toList = true := by
  unfold numB
  rw [len_size, head_get h0, h]
  simp only [Bool.and_true, Bool.and_eq_true, Bool.or_eq_true, decide_eq_true_eq, bne_iff_ne, ne_eq, Option.some.injEq]
  refine ⟨by omega, ?_⟩
  rcases h2 with h2 | h2
  · exact .inl h2
  · right
    intro e
    rw [e] at h2
    exact h2 rfl
theorem rune_dig (s : ByteArray) (pos : Nat) (h : pos < s.size) : (isD (s[pos]'h) = true ∧ (Utf8.decode s pos).1 = (s[pos]'h).toNat ∧ (Utf8.decode s pos).2 = 1 ∧ 48 ≤ (s[pos]'h).toNat ∧ (s[pos]'h).toNat ≤ 57) ∨ (isD (s[pos]'h) = false ∧ ((Utf8.decode s pos).1 < 48 ∨ 57 < (Utf8.decode s pos).1)) := by
  by_cases ha : (s[pos]'h).toNat < 128
  · rw [decode_ascii s pos h ha]
    unfold isD
    by_cases hn : 48 ≤ (s[pos]'h).toNat ∧ (s[pos]'h).toNat ≤ 57
    · exact .inl ⟨decide_eq_true hn, rfl, rfl, hn.1, hn.2⟩
    · exact .inr ⟨decide_eq_false hn, by show (s[pos]'h).toNat < 48 ∨ 57 < (s[pos]'h).toNat; omega⟩
  · have hd := (decode_high s pos h (by omega)).1
    right
    unfold isD
    exact ⟨decide_eq_false (by omega), by omega⟩
def numI (s : ByteArray) : Int := if (pdR s).2 then ((pdR s).1 : Int) else -1
theorem rI {a b : Int} (h : a = b) : Ending.returned (.int .i64 a) = .returned (.int .i64 b) := by rw [h]
theorem numI_no {s : ByteArray} (h : numB s.data.toList = false) : numI s = -1 := by unfold numI; rw [pd_no h]; rfl
theorem numI_yes {s : ByteArray} (h : numB s.data.toList = true) : numI s = (dval s.data.toList : Nat) := by unfold numI; rw [pd_yes h]; rfl
theorem inB_dig (s : ByteArray) (k : Nat) (h : k < s.size) : inB ((s[k]'h).toNat : Int) 48 57 = isD (s[k]'h) := by unfold inB isD; rw [decide_eq_decide]; omega
theorem inB_len (n : Nat) : inB (n : Int) 1 9 = decide (1 ≤ n ∧ n ≤ 9) := by unfold inB; rw [decide_eq_decide]; omega
set_option maxRecDepth 100000 in
set_option maxHeartbeats 800000 in
theorem l4Number_any (s : ByteArray) (w : World) (hs : s.size ≤ maxLen) : Calls Tryd.prog 34 #[.string s] w fun e w' => e = .returned (.int .i64 (numI s)) ∧ w' = w := by
  unfold maxLen at hs
  have hin := fun wx => l1In_any (s.size : Int) 1 9 wx
  rw [inB_len] at hin
  by_cases hl : 1 ≤ s.size ∧ s.size ≤ 9
  · rw [decide_eq_true hl] at hin
    have Hin := hide hin
    have h0 : 0 < s.size := by omega
    have hbits : (s[0]'h0).toNat < 256 := UInt8.toNat_lt _
    have key : ∀ {P : Prop}, (¬ 1 < (s.size : Int) → P) → (1 < (s.size : Int) → (((s[0]'h0).toNat : Int) == 48) = false → P) → (1 < (s.size : Int) → (((s[0]'h0).toNat : Int) == 48) = true → P) → P := fun a b c => by
      by_cases g : 1 < s.size
      · cases h : (((s[0]'h0).toNat : Int) == 48)
        · exact b (by omega) h
        · exact c (by omega) h
      · exact a (by omega)
    have Hend : Hid ((s.size ≤ 1 ∨ ((s[0]'h0).toNat : Int) ≠ 48) → okD s s.size → numI s = (valD s s.size : Nat)) := fun hd h => by
      have e : s.data.toList.take s.size = s.data.toList := by rw [← len_size, List.take_length]
      unfold okD at h
      unfold valD
      rw [e] at h ⊢
      exact numI_yes (numB_ok h0 hl.2 hd h)
    have Hbad : Hid (∀ k (hk : k < s.size), isD (s[k]'hk) = false → numI s = -1) := fun k hk h => numI_no (numB_all (okD_bad hk h))
    have Hz : Hid (1 < s.size → ((s[0]'h0).toNat : Int) = 48 → numI s = -1) := fun a b => numI_no (numB_zero h0 a b)
    have hl9 : s.size ≤ 9 := hl.2
    have Hb := hide (fun (k : Nat) (h : k < s.size) => UInt8.toNat_lt (s[k]'h))
    clear hl hin
    generalize numI s = R at *
    refine key (fun g1 => ?_) (fun g1 g2 => ?_) (fun g1 g2 => ?_)
    rotate_left 2
    · have HR : Hid (R = -1) := Hz.out (by omega) (by simpa using g2)
      clear key Hend Hbad Hz Hb
      go_enter Tryd.func34, Tryd.ntmps34
      go_wp2_with (go_at_call 18; refine (Hin.out _).mono ?_; rintro e w' ⟨rfl, rfl⟩)
      go_ret
      exact ⟨rI HR.out.symm, rfl⟩
    all_goals
      have HE : Hid (okD s s.size → R = (valD s s.size : Nat)) := Hend.out (by first | exact .inl (by omega) | exact .inr (by simpa using g2))
      clear key Hend Hz
      go_enter Tryd.func34, Tryd.ntmps34
      go_wp2_with (go_at_call 18; refine (Hin.out _).mono ?_; rintro e w' ⟨rfl, rfl⟩)
      go_loop [3, 4] (fun n i => ∃ k : Nat, k ≤ s.size ∧ i = .int .i64 k ∧ n = .int .i64 (valD s k) ∧ okD s k) (fun _ i => s.size - (intOf i).toNat)
      case atStart => exact ⟨0, Nat.zero_le _, rfl, rfl, rfl⟩
      case round =>
        obtain ⟨k, hk, rfl, rfl, hok⟩ := hrel
        by_cases hlt : k < s.size
        · have hb := Hb.out k hlt
          have hcon := fun wx => l1In_any (((s[k]'hlt).toNat : Nat) : Int) 48 57 wx
          rw [inB_dig s k hlt] at hcon
          have Hs : Hid (isD (s[k]'hlt) = true → okD s (k + 1)) := okD_succ hlt hok
          have Hv : Hid (valD s (k + 1) = valD s k * 10 + ((s[k]'hlt).toNat - 48)) := valD_succ hlt
          have Hn : Hid (isD (s[k]'hlt) = false → R = -1) := Hbad.out k hlt
          have hv := valD_lt hok hk
          have hp10 : 10 ^ k ≤ 10 ^ 9 := Nat.pow_le_pow_right (by decide) (by omega)
          have hv0 : valD s k < 1000000000 := by omega
          clear hok hv hp10 Hbad HE Hb
          cases hc : isD (s[k]'hlt)
          · rw [hc] at hcon
            have Hcon := hide hcon
            have HR := hide (Hn.out hc)
            clear hcon Hs Hv Hn hc
            go_wp2_with (go_at_call 18; refine (Hcon.out _).mono ?_; rintro e w' ⟨rfl, rfl⟩)
            go_ret
            exact ⟨rI HR.out.symm, rfl⟩
          · rw [hc] at hcon
            have Hcon := hide hcon
            have HS := hide (Hs.out hc)
            have hcc : 48 ≤ (s[k]'hlt).toNat ∧ (s[k]'hlt).toNat ≤ 57 := by unfold isD at hc; rwa [decide_eq_true_eq] at hc
            obtain ⟨hc1, hc2⟩ := hcc
            clear hcon Hs Hn hc
            generalize valD s k = v at *
            go_wp2_with (go_at_call 18; refine (Hcon.out _).mono ?_; rintro e w' ⟨rfl, rfl⟩)
            go_round
            case rel => exact ⟨k + 1, by omega, by go_num, by rw [Hv.out]; go_num, HS.out⟩
            case measure => simp [intOf]; omega
        · have e : k = s.size := by omega
          subst e
          have HR := hide (HE.out hok)
          clear hok HE Hbad Hb
          go_wp2
          go_ret
          exact ⟨rI HR.out.symm, rfl⟩
  · rw [decide_eq_false hl] at hin
    have Hin := hide hin
    have HR : Hid (numI s = -1) := numI_no (numB_len hl)
    clear hin hl
    go_enter Tryd.func34, Tryd.ntmps34
    go_wp2_with (go_at_call 18; refine (Hin.out _).mono ?_; rintro e w' ⟨rfl, rfl⟩)
    go_ret
    exact ⟨rI HR.out.symm, rfl⟩
end Dg
end Go.Proofs.YtkdiinjkpmkcpaaDoor
