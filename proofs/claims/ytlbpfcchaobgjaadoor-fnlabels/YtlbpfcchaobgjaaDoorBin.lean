/- slices.BinarySearchFunc at labels that ascend, with impl.labelOrder. -/
import Derived.Test.YtlbpfcchaobgjaaDoorSetS
import Derived.Test.YtlbpfcchaobgjaaDoorShelf
namespace Go.Proofs.YtlbpfcchaobgjaaDoor
open Go.RowKit Go.BigFrame
set_option linter.unusedVariables false
def cmpL (K key : ByteArray) : Int := Lib.compareBytes K.data.toList key.data.toList
theorem labelOrder_any (K V key : ByteArray) (w : World) :
    Calls Tryd.prog 69 #[.agg #[.string K, .string V], .string key] w fun e w' => e = .returned (.int .i64 (cmpL K key)) ∧ Below w.heap.size w w' := by
  go_enter Tryd.func69, Tryd.ntmps69
  go_wp2_with (go_at_call 86; refine (Tryd.strings_Compare _ _ _).mono ?_; rintro e w' ⟨rfl, rfl⟩)
  go_ret
  exact ⟨rfl, (Below.refl _ _).alloc (Nat.le_refl _) _⟩
theorem cmp_list : ∀ (a b : List UInt8), (Lib.compareBytes a b < 0 ↔ Op.bytesLess a b = true) ∧ (Lib.compareBytes a b = 0 ↔ a = b)
  | [], [] => by simp [Lib.compareBytes, Op.bytesLess]
  | [], _ :: _ => by simp [Lib.compareBytes, Op.bytesLess]
  | _ :: _, [] => by simp [Lib.compareBytes, Op.bytesLess]
  | a :: x, b :: y => by
    have ih := cmp_list x y
    unfold Lib.compareBytes Op.bytesLess
    by_cases h1 : a < b
    · have hne : a ≠ b := by intro e; rw [e] at h1; exact absurd h1 (UInt8.lt_irrefl _)
      simp [h1, hne]
    · by_cases h2 : b < a
      · have hne : a ≠ b := by intro e; rw [e] at h2; exact absurd h2 (UInt8.lt_irrefl _)
        simp [h1, h2, hne]
      · have e : a = b := by
          apply UInt8.toNat_inj.1
          rw [UInt8.lt_iff_toNat_lt] at h1 h2
          omega
        subst e
        simp [h1, ih.1, ih.2]
theorem cmpL_neg (K key : ByteArray) : cmpL K key < 0 ↔ Op.bytesLess K.toList key.toList = true := by
  unfold cmpL; rw [Lib.toList_data, Lib.toList_data]; exact (cmp_list _ _).1
theorem cmpL_zero (K key : ByteArray) : cmpL K key = 0 ↔ K = key := by
  unfold cmpL
  rw [(cmp_list _ _).2]
  constructor
  · intro h; exact ByteArray.ext (Array.ext' h)
  · intro h; rw [h]
def asc (ls : List (ByteArray × ByteArray)) : Prop := ∀ i j, i < j → j < ls.length → Op.bytesLess (keyAt ls i).toList (keyAt ls j).toList = true
theorem less_trans {a b c : List UInt8} (h1 : Op.bytesLess a b = true) (h2 : Op.bytesLess b c = true) : Op.bytesLess a c = true := by
  revert a b c
  intro a
  induction a with
  | nil =>
    intro b c h1 h2
    cases c with
    | nil => cases b <;> simp [Op.bytesLess] at h2
    | cons _ _ => rfl
  | cons x a ih =>
    intro b c h1 h2
    match b, c, h1, h2 with
    | y :: b, z :: c, h1, h2 =>
      simp only [Op.bytesLess, Bool.or_eq_true, Bool.and_eq_true, decide_eq_true_eq, beq_iff_eq] at *
      rcases h1 with h1 | ⟨rfl, h1⟩
      · rcases h2 with h2 | ⟨rfl, h2⟩
        · exact .inl (UInt8.lt_trans h1 h2)
        · exact .inl h1
      · rcases h2 with h2 | ⟨rfl, h2⟩
        · exact .inl h2
        · exact .inr ⟨rfl, ih h1 h2⟩
theorem asc_of {ls : List (ByteArray × ByteArray)} (h : labelsB ls = true) : asc ls := by
  unfold labelsB at h
  rw [decide_eq_true_eq] at h
  intro i j hij
  induction j with
  | zero => omega
  | succ j ih =>
    intro hj
    have hs := (h.2 (j + 1) hj).2.2 (by omega)
    unfold ltS at hs
    rw [Nat.add_sub_cancel] at hs
    by_cases e : i = j
    · rw [e]; exact hs
    · exact less_trans (ih (by omega) (by omega)) hs
/-- where the search stands -/
def between (ls : List (ByteArray × ByteArray)) (key : ByteArray) (lo hi : Nat) : Prop :=
  (∀ t, t < lo → Op.bytesLess (keyAt ls t).toList key.toList = true) ∧ ∀ t, hi ≤ t → t < ls.length → Op.bytesLess (keyAt ls t).toList key.toList = false
theorem between_up {ls : List (ByteArray × ByteArray)} {key : ByteArray} {lo hi m : Nat} (ha : asc ls) (h : between ls key lo hi) (hm : m < ls.length) (hc : Op.bytesLess (keyAt ls m).toList key.toList = true) : between ls key (m + 1) hi := by
  refine ⟨fun t ht => ?_, h.2⟩
  by_cases e : t = m
  · rw [e]; exact hc
  · exact less_trans (ha t m (by omega) hm) hc
theorem between_down {ls : List (ByteArray × ByteArray)} {key : ByteArray} {lo hi m : Nat} (ha : asc ls) (h : between ls key lo hi) (hm : m < ls.length) (hc : Op.bytesLess (keyAt ls m).toList key.toList = false) : between ls key lo m := by
  refine ⟨h.1, fun t ht hl => ?_⟩
  by_cases e : t = m
  · rw [e]; exact hc
  · cases hx : Op.bytesLess (keyAt ls t).toList key.toList with
    | false => rfl
    | true => rw [less_trans (ha m t (by omega) hl) hx] at hc; cases hc
theorem ret_ib {i j : Nat} {p q : Bool} (h : i = j ∧ p = q) : Ending.returned (.tuple #[.int .i64 (i : Int), .bool p]) = .returned (.tuple #[.int .i64 (j : Int), .bool q]) := by rw [h.1, h.2]

set_option maxHeartbeats 1600000 in
theorem search_any (a : Option Addr) (cap : Nat) (ls : List (ByteArray × ByteArray)) (key : ByteArray) (w : World) (hl : ls.length ≤ 1048576) (ha : asc ls) (hrow : rowOf w a ls) :
    Calls Tryd.prog 68 #[.slice a ls.length cap, .string key, .func (.func 69) #[] #[]] w fun e w' =>
      ∃ i : Nat, i ≤ ls.length ∧ e = .returned (.tuple #[.int .i64 i, .bool (decide (i < ls.length ∧ keyAt ls i = key))]) ∧ between ls key i i ∧ Below w.heap.size w w' := by
  have Hr := hide hrow
  have Ha := hide ha
  clear hrow ha
  go_enter Tryd.func68, Tryd.ntmps68
  go_wp2
  go_loopw [9, 10] (fun i j wr => ∃ lo hi : Nat, lo ≤ hi ∧ hi ≤ ls.length ∧ i = .int .i64 lo ∧ j = .int .i64 hi ∧ Hid (between ls key lo hi) ∧ Below w.heap.size w wr) (fun i j _ => (intOf j).toNat - (intOf i).toNat)
  case atStart => exact ⟨0, ls.length, by omega, by omega, rfl, rfl, ⟨fun t ht => by omega, fun t h1 h2 => by omega⟩, Below.refl _ _⟩
  case round =>
    obtain ⟨lo, hi, h1, h2, rfl, rfl, Hbt, hbw⟩ := hrel
    by_cases hlt : lo < hi
    · have hm : (lo + hi) / 2 < ls.length := by omega
      obtain ⟨b, off, rfl, hat⟩ := Hr.out (by omega)
      have hbb : b < w.heap.size := World.block_lt_of_cell? _ _ (hat _ hm).1
      have hcc := cellsOf_of hat _ hm
      have c0 := (hbw.cell (p := ⟨b, off + (lo + hi) / 2 * 2, none⟩) hbb).trans hcc.1
      have c1 := (hbw.cell (p := ⟨b, off + (lo + hi) / 2 * 2 + 1, none⟩) hbb).trans hcc.2
      have hcon : ∀ wx, Calls Tryd.prog 69 #[.agg #[.string (keyAt ls ((lo + hi) / 2)), .string (valAt ls ((lo + hi) / 2))], .string key] wx fun e w' => e = .returned (.int .i64 (cmpL (keyAt ls ((lo + hi) / 2)) key)) ∧ Below wx.heap.size wx w' := fun wx => labelOrder_any _ _ _ _
      have Hcn := hide (cmpL_neg (keyAt ls ((lo + hi) / 2)) key)
      have Hup : Hid (Op.bytesLess (keyAt ls ((lo + hi) / 2)).toList key.toList = true → between ls key ((lo + hi) / 2 + 1) hi) := fun hc => between_up Ha.out Hbt.out hm hc
      have Hdn : Hid (Op.bytesLess (keyAt ls ((lo + hi) / 2)).toList key.toList = false → between ls key lo ((lo + hi) / 2)) := fun hc => between_down Ha.out Hbt.out hm hc
      have Hcon := hide hcon
      clear hat hcc hcon Hr Ha
      generalize keyAt ls ((lo + hi) / 2) = K at *
      generalize valAt ls ((lo + hi) / 2) = V at *
      generalize cmpL K key = q at *
      by_cases hq : q < 0
      · have Hn := hide (Hup.out (Hcn.out.1 hq))
        clear Hup Hdn Hcn
        go_wp2_with (go_at_call 69; refine (Hcon.out _).mono ?_; rintro e w3 ⟨rfl, hb3⟩)
        go_roundw
        case rel => exact ⟨(lo + hi) / 2 + 1, hi, by omega, h2, by go_num, rfl, Hn, hbw.trans (hb3.mono hbw.size)⟩
        case measure => simp [intOf]; omega
      · have hqf : Op.bytesLess K.toList key.toList = false := by
          cases hx : Op.bytesLess K.toList key.toList with
          | false => rfl
          | true => exact absurd (Hcn.out.2 hx) hq
        have Hn := hide (Hdn.out hqf)
        clear Hup Hdn Hcn hqf
        go_wp2_with (go_at_call 69; refine (Hcon.out _).mono ?_; rintro e w3 ⟨rfl, hb3⟩)
        go_roundw
        case rel => exact ⟨lo, (lo + hi) / 2, by omega, by omega, rfl, by go_num, Hn, hbw.trans (hb3.mono hbw.size)⟩
        case measure => simp [intOf]; omega
    · have e : hi = lo := by omega
      subst e
      by_cases hin : hi < ls.length
      · obtain ⟨b, off, rfl, hat⟩ := Hr.out (by omega)
        have hbb : b < w.heap.size := World.block_lt_of_cell? _ _ (hat _ hin).1
        have hcc := cellsOf_of hat _ hin
        have c0 := (hbw.cell (p := ⟨b, off + hi * 2, none⟩) hbb).trans hcc.1
        have c1 := (hbw.cell (p := ⟨b, off + hi * 2 + 1, none⟩) hbb).trans hcc.2
        have hcon : ∀ wx, Calls Tryd.prog 69 #[.agg #[.string (keyAt ls hi), .string (valAt ls hi)], .string key] wx fun e w' => e = .returned (.int .i64 (cmpL (keyAt ls hi) key)) ∧ Below wx.heap.size wx w' := fun wx => labelOrder_any _ _ _ _
        obtain ⟨q, hq⟩ : ∃ q, q = cmpL (keyAt ls hi) key := ⟨_, rfl⟩
        have Hz : Hid (decide (hi < ls.length ∧ keyAt ls hi = key) = decide (q = 0)) := by
          show _ = _
          rw [decide_eq_decide, hq, cmpL_zero]
          exact ⟨fun h => h.2, fun h => ⟨hin, h⟩⟩
        rw [← hq] at hcon
        have Hcon := hide hcon
        clear hat hcc hcon Hr Ha hq
        go_wp2_with (go_at_call 69; refine (Hcon.out _).mono ?_; rintro e w3 ⟨rfl, hb3⟩)
        go_ret2
        exact ⟨hi, by omega, ret_ib ⟨rfl, by rw [Hz.out, Bool.eq_iff_iff]; simp⟩, Hbt.out, hbw.trans (hb3.mono hbw.size)⟩
      · have Hz : Hid (decide (hi < ls.length ∧ keyAt ls hi = key) = false) := by
          show _ = _
          rw [decide_eq_false_iff_not]
          exact fun h => hin h.1
        have hge : decide ((hi : Int) < (ls.length : Int)) = false := by rw [decide_eq_false_iff_not]; omega
        clear Hr Ha
        go_wp2
        go_ret2
        exact ⟨hi, by omega, ret_ib ⟨rfl, Hz.out.symm⟩, Hbt.out, hbw⟩
end Go.Proofs.YtlbpfcchaobgjaaDoor
