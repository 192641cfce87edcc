/- Contracts of the two NameOk and what they call: both answer 'nameB', for every string. -/
import Derived.Test.YtbihhcbbjdjhcaaChecked
import Derived.WalkKit
import Derived.WalkSpells
import Derived.WalkLawsBesides
import Derived.Lib.OthersKept
import Derived.BigQuiet
import Derived.Deep.QuietTactic
import Derived.Lib.Strings
namespace Go.Proofs.Ytbihhcbbjdjhcaa
open Go.RowKit

theorem hide {p : Prop} (h : p) : Hid p := h
def inB (x a b : Int) : Bool := decide (a ≤ x ∧ x ≤ b)
def nbI (x : Int) : Bool := decide ((97 ≤ x ∧ x ≤ 122) ∨ (48 ≤ x ∧ x ≤ 57) ∨ x = 45)
/-- the byte at a place, as a number -/
def byt (s : ByteArray) (i : Nat) : Int := ((s.data.toList[i]?.getD 0).toNat : Int)
def okTo (s : ByteArray) (k : Nat) : Prop := ∀ j, j < k → nbI (byt s j) = true
def nameB (s : ByteArray) : Bool := decide ((∀ j, j < s.size → nbI (byt s j) = true) ∧ 1 ≤ s.size ∧ s.size ≤ 20 ∧ byt s 0 ≠ 45 ∧ byt s (s.size - 1) ≠ 45)

theorem byt_get (s : ByteArray) (i : Nat) (h : i < s.size) : byt s i = ((s[i]'h).toNat : Int) := by
  unfold byt
  have h' : i < s.data.toList.length := by simpa using h
  rw [List.getElem?_eq_getElem h']
  rfl
theorem byt_bd (s : ByteArray) (i : Nat) : 0 ≤ byt s i ∧ byt s i < 256 := by
  unfold byt
  have := (s.data.toList[i]?.getD 0).toNat_lt
  omega
theorem okTo_succ {s : ByteArray} {k : Nat} (h : okTo s k) (hk : nbI (byt s k) = true) : okTo s (k + 1) := by
  intro j hj
  by_cases e : j = k
  · rw [e]; exact hk
  · exact h j (by omega)
theorem nameB_bad {s : ByteArray} {k : Nat} (hk : k < s.size) (h : nbI (byt s k) = false) : nameB s = false := by
  unfold nameB
  rw [decide_eq_false_iff_not]
  rintro ⟨h1, -⟩
  have := h1 k hk
  rw [h] at this
  cases this

theorem ret_bool {a b : Bool} (h : a = b) : Ending.returned (.bool a) = .returned (.bool b) := by rw [h]

theorem l1In_any (x a b : Int) (w : World) : Calls Try.prog 27 #[.int .i64 x, .int .i64 a, .int .i64 b] w fun e w' => e = .returned (.bool (inB x a b)) ∧ w' = w := by
  go_enter Try.func27, Try.ntmps27
  go_wp2
  all_goals go_ret
  all_goals exact ⟨ret_bool (by rw [Bool.eq_iff_iff]; simp [inB]; omega), rfl⟩
theorem nameRune_any (x : Int) (w : World) : Calls Try.prog 37 #[.int .i32 x] w fun e w' => e = .returned (.bool (nbI x)) ∧ w' = w := by
  go_enter Try.func37, Try.ntmps37
  go_wp2
  all_goals go_ret
  all_goals exact ⟨ret_bool (by rw [Bool.eq_iff_iff]; simp [nbI]; omega), rfl⟩

theorem cls (c : Int) : (inB c 97 122 = true ∧ Hid (nbI c = true)) ∨ (inB c 97 122 = false ∧ inB c 48 57 = true ∧ Hid (nbI c = true)) ∨
    (inB c 97 122 = false ∧ inB c 48 57 = false ∧ (c != 45) = false ∧ Hid (nbI c = true)) ∨ (inB c 97 122 = false ∧ inB c 48 57 = false ∧ (c != 45) = true ∧ Hid (nbI c = false)) := by
  unfold Hid inB nbI
  simp only [decide_eq_true_eq, decide_eq_false_iff_not, bne_iff_ne, bne_eq_false_iff_eq]
  omega
/-- the last row of both, the bytes being right -/
theorem nameB_end {s : ByteArray} (hok : okTo s s.size) : (inB s.size 1 20 = false ∧ Hid (nameB s = false)) ∨
    ∃ (h0 : 0 < s.size) (h1 : s.size - 1 < s.size), inB s.size 1 20 = true ∧ s.size ≤ 20 ∧ ((((s[0]'h0).toNat : Int) != 45) = false ∧ Hid (nameB s = false) ∨ (((s[0]'h0).toNat : Int) != 45) = true ∧
      ((((s[s.size - 1]'h1).toNat : Int) != 45) = false ∧ Hid (nameB s = false) ∨ (((s[s.size - 1]'h1).toNat : Int) != 45) = true ∧ Hid (nameB s = true))) := by
  by_cases hz : inB s.size 1 20 = true
  · right
    have hz' := hz
    unfold inB at hz'
    simp only [decide_eq_true_eq] at hz'
    have h0 : 0 < s.size := by omega
    have h1 : s.size - 1 < s.size := by omega
    refine ⟨h0, h1, hz, by omega, ?_⟩
    have e0 := byt_get s 0 h0
    have e1 := byt_get s (s.size - 1) h1
    simp only [← e0, ← e1, Hid, nameB, bne_iff_ne, bne_eq_false_iff_eq, decide_eq_true_eq, decide_eq_false_iff_not, ne_eq]
    by_cases a : byt s 0 = 45
    · left; exact ⟨a, fun h => h.2.2.2.1 a⟩
    · right
      refine ⟨a, ?_⟩
      by_cases b : byt s (s.size - 1) = 45
      · left; exact ⟨b, fun h => h.2.2.2.2 b⟩
      · right; exact ⟨b, hok, by omega, by omega, a, b⟩
  · left
    have hz' : inB s.size 1 20 = false := by simpa using hz
    refine ⟨hz', ?_⟩
    unfold inB at hz
    simp only [decide_eq_true_eq] at hz
    unfold Hid nameB
    rw [decide_eq_false_iff_not]
    rintro ⟨-, a, b, -⟩
    omega

theorem sname_any (s : ByteArray) (w : World) (hs : s.size ≤ maxLen) : Calls Try.prog 16 #[.string s] w fun e w' => e = .returned (.bool (nameB s)) ∧ w' = w := by
  unfold maxLen at hs
  go_enter Try.func16, Try.ntmps16
  go_wp2
  go_loop [3] (fun i => ∃ k : Nat, k ≤ s.size ∧ i = .int .i64 k ∧ okTo s k) (fun i => s.size - (intOf i).toNat)
  case atStart => exact ⟨0, Nat.zero_le _, rfl, fun j hj => by omega⟩
  case round =>
    obtain ⟨k, hk, rfl, hok⟩ := hrel
    by_cases hlt : k < s.size
    · have hb := byt_bd s k
      rw [byt_get s k hlt] at hb
      have hsucc := fun h => okTo_succ hok (k := k) h
      have hbad := fun h => nameB_bad (s := s) hlt h
      have hc := cls (byt s k)
      rw [byt_get s k hlt] at hsucc hbad hc
      clear hok
      have Hs : Hid (nbI (s[k]'hlt).toNat = true → okTo s (k + 1)) := hsucc
      have Hb : Hid (nbI (s[k]'hlt).toNat = false → nameB s = false) := hbad
      clear hsucc hbad
      rcases hc with ⟨h1, hn⟩ | ⟨h1, h2, hn⟩ | ⟨h1, h2, h3, hn⟩ | ⟨h1, h2, h3, hn⟩
      all_goals
        go_wp2_with (go_at_call 27; refine (l1In_any _ _ _ _).mono ?_; rintro e w' ⟨rfl, rfl⟩)
      · go_round
        case rel => exact ⟨k + 1, by omega, by go_num, Hs.out hn.out⟩
        case measure => simp [intOf]; omega
      · go_round
        case rel => exact ⟨k + 1, by omega, by go_num, Hs.out hn.out⟩
        case measure => simp [intOf]; omega
      · go_round
        case rel => exact ⟨k + 1, by omega, by go_num, Hs.out hn.out⟩
        case measure => simp [intOf]; omega
      · go_ret
        exact ⟨ret_bool (Hb.out hn.out).symm, rfl⟩
    · have e : k = s.size := by omega
      subst e
      rcases nameB_end hok with ⟨h1, hn⟩ | ⟨h0, h01, h1, h20, ⟨h2, hn⟩ | ⟨h2, ⟨h3, hn⟩ | ⟨h3, hn⟩⟩⟩
      all_goals clear hok
      all_goals
        go_wp2_with (go_at_call 27; refine (l1In_any _ _ _ _).mono ?_; rintro e w' ⟨rfl, rfl⟩)
      all_goals (go_ret; exact ⟨ret_bool hn.out.symm, rfl⟩)

theorem width_pos (s : ByteArray) (pos : Nat) (h : pos < s.size) : 1 ≤ (Utf8.decode s pos).2 := by
  by_cases ha : (s[pos]'h).toNat < 128
  · rw [decode_ascii s pos h ha]
    exact Nat.le_refl _
  · exact (decode_high s pos h (by omega)).2
theorem rune_is (s : ByteArray) (pos : Nat) (h : pos < s.size) : (nbI ((Utf8.decode s pos).1 : Int) = true ∧ Hid (nbI (byt s pos) = true ∧ (Utf8.decode s pos).2 = 1)) ∨ (nbI ((Utf8.decode s pos).1 : Int) = false ∧ Hid (nbI (byt s pos) = false)) := by
  by_cases ha : (s[pos]'h).toNat < 128
  · rw [decode_ascii s pos h ha, byt_get s pos h]
    by_cases hn : nbI ((s[pos]'h).toNat : Int) = true
    · exact .inl ⟨hn, hn, rfl⟩
    · have hn' : nbI ((s[pos]'h).toNat : Int) = false := by simpa using hn
      exact .inr ⟨hn', hn'⟩
  · have hd := (decode_high s pos h (by omega)).1
    right
    rw [byt_get s pos h]
    unfold Hid nbI
    simp only [decide_eq_false_iff_not]
    omega
theorem nameB_long {s : ByteArray} (h : 20 < s.size) : nameB s = false := by
  unfold nameB; rw [decide_eq_false_iff_not]; omega
theorem nameB_none {s : ByteArray} (h : s.size = 0) : nameB s = false := by
  unfold nameB; rw [decide_eq_false_iff_not]; omega

theorem empty_iff (s : ByteArray) : s.toList.isEmpty = decide (s.size = 0) := by
  rw [Lib.toList_data, Bool.eq_iff_iff, List.isEmpty_iff, decide_eq_true_eq]
  constructor
  · intro h; have := congrArg List.length h; simpa using this
  · intro h; exact List.eq_nil_of_length_eq_zero (by simpa using h)

set_option maxRecDepth 1000000 in
theorem iname_any (s : ByteArray) (w : World) : Calls Try.prog 29 #[.string s] w fun e w' => e = .returned (.bool (nameB s)) ∧ Below w.heap.size w w' := by
  by_cases hz : s.size = 0
  · have he : s.toList.isEmpty = true := by rw [empty_iff, decide_eq_true hz]
    have hn : Hid (nameB s = false) := nameB_none hz
    clear hz
    go_enter Try.func29, Try.ntmps29
    go_wp2
    go_ret
    exact ⟨ret_bool hn.out.symm, Below.refl _ _⟩
  have he : s.toList.isEmpty = false := by rw [empty_iff, decide_eq_false hz]
  by_cases hl : 20 < s.size
  · have hn : Hid (nameB s = false) := nameB_long hl
    have hl' : (20 : Int) < (s.size : Int) := by omega
    clear hz hl
    go_enter Try.func29, Try.ntmps29
    go_wp2
    go_ret
    exact ⟨ret_bool hn.out.symm, Below.refl _ _⟩
  have hl' : ¬ (20 : Int) < (s.size : Int) := by omega
  go_enter Try.func29, Try.ntmps29
  go_wp2
  go_loopw [] (fun wr => ∃ pos : Nat, pos ≤ s.size ∧ wr.heap[w.heap.size]? = some (.stringIter s pos) ∧ Below w.heap.size w wr ∧ okTo s pos) (fun wr => s.size - wr.iterPos w.heap.size)
  case atStart => exact ⟨0, Nat.zero_le _, World.iter_heap w s 0, (Below.refl _ _).alloc (Nat.le_refl _) _, fun j hj => by omega⟩
  case round =>
    obtain ⟨pos, hpos, hit, hbw, hok⟩ := hrel
    have hpos0 : wr.iterPos w.heap.size = pos := by simp [World.iterPos, hit]
    by_cases hp : pos < s.size
    · have hnx : ∀ ty, (Instr.next (.pointer (some ⟨w.heap.size, 0, none⟩)) true ty).run Try.prog wr = _ := fun ty => Lib.run_next_any_at wr w.heap.size s pos ty hit hp
      have hit2 := Lib.iterAt_heap wr w.heap.size s pos (pos + (Utf8.decode s pos).2) hit
      have hbw2 := Lib.below_iterAt hbw (k := w.heap.size) (Nat.le_refl _) s (pos + (Utf8.decode s pos).2)
      have hpos2 : (wr.iterAt w.heap.size s (pos + (Utf8.decode s pos).2)).iterPos w.heap.size = pos + (Utf8.decode s pos).2 := by simp [World.iterPos, hit2]
      obtain ⟨W1, hW1⟩ : ∃ W1, W1 = wr.iterAt w.heap.size s (pos + (Utf8.decode s pos).2) := ⟨_, rfl⟩
      rw [← hW1] at hnx hit2 hbw2 hpos2
      have Hp : Hid (W1.iterPos w.heap.size = pos + (Utf8.decode s pos).2) := hpos2
      have Hp0 : Hid (wr.iterPos w.heap.size = pos) := hpos0
      have Hi : Hid (W1.heap[w.heap.size]? = some (.stringIter s (pos + (Utf8.decode s pos).2))) := hit2
      have Hs : Hid (nbI (byt s pos) = true → okTo s (pos + 1)) := fun h => okTo_succ hok (k := pos) h
      have Hb : Hid (nbI (byt s pos) = false → nameB s = false) := fun h => nameB_bad (s := s) hp h
      clear hW1 hit hbw hpos2 hit2 hok hpos0
      rcases rune_is s pos hp with ⟨h1, hn⟩ | ⟨h1, hn⟩
      all_goals
        go_wp2_with (go_at_call 37; refine (nameRune_any _ _).mono ?_; rintro e w' ⟨rfl, rfl⟩)
      · go_roundw
        case rel => exact ⟨pos + (Utf8.decode s pos).2, by rw [hn.out.2]; omega, Hi.out, hbw2, by rw [hn.out.2]; exact Hs.out hn.out.1⟩
        case measure => rw [Hp.out, Hp0.out, hn.out.2]; omega
      · go_ret
        exact ⟨ret_bool (Hb.out hn.out).symm, hbw2⟩
    · have e : pos = s.size := by omega
      subst e
      have hnx : ∀ ty, (Instr.next (.pointer (some ⟨w.heap.size, 0, none⟩)) true ty).run Try.prog wr = _ := fun ty => Lib.run_next_end_at wr w.heap.size s s.size ty hit hp
      rcases nameB_end hok with ⟨h1, hn⟩ | ⟨h0, h01, h1, h20, ⟨h2, hn⟩ | ⟨h2, ⟨h3, hn⟩ | ⟨h3, hn⟩⟩⟩
      · exfalso; unfold inB at h1; simp only [decide_eq_false_iff_not] at h1; omega
      all_goals clear hok hpos0 hit
      all_goals go_wp2
      all_goals (go_ret; exact ⟨ret_bool hn.out.symm, hbw⟩)
end Go.Proofs.Ytbihhcbbjdjhcaa
