import Derived.Test.YtlbpfcchaobgjaaDoorAmt
import Derived.Handy
import Derived.LoopN
import Derived.BigQuiet
import Derived.Deep.QuietTactic
namespace Go.Proofs.YtlbpfcchaobgjaaDoor
open Go.RowKit Go.BigFrame
set_option linter.unusedVariables false
/-! parseDigits -/
def okD (s : ByteArray) (k : Nat) : Prop := (s.data.toList.take k).all isD = true
def valD (s : ByteArray) (k : Nat) : Nat := dval (s.data.toList.take k)
theorem take_one (s : ByteArray) (k : Nat) (h : k < s.size) : s.data.toList.take (k + 1) = s.data.toList.take k ++ [s[k]'h] := by
  have h' : k < s.data.toList.length := by simpa using h
  rw [List.take_add_one, List.getElem?_eq_getElem h']
  rfl
theorem okD_succ {s : ByteArray} {k : Nat} (hk : k < s.size) (h : okD s k) (hd : isD (s[k]'hk) = true) : okD s (k + 1) := by
  unfold okD at *
  rw [take_one s k hk, List.all_append, h]
  simp [hd]
theorem valD_succ {s : ByteArray} {k : Nat} (hk : k < s.size) : valD s (k + 1) = valD s k * 10 + ((s[k]'hk).toNat - 48) := by
  unfold valD
  rw [take_one s k hk, dval_snoc]
theorem valD_lt {s : ByteArray} {k : Nat} (h : okD s k) (hk : k ≤ s.size) : valD s k < 10 ^ k := by
  have := dval_lt (s.data.toList.take k) (fun c hc => by unfold okD at h; rw [List.all_eq_true] at h; exact h c hc)
  rw [List.length_take] at this
  have e : min k s.data.toList.length = k := by
    have : s.data.toList.length = s.size := by rw [Array.length_toList]; rfl
    omega
  rw [e] at this
  exact this
theorem okD_bad {s : ByteArray} {k : Nat} (hk : k < s.size) (hd : isD (s[k]'hk) = false) : s.data.toList.all isD = false := by
  rw [List.all_eq_false]
  exact ⟨s[k]'hk, by
    have h' : k < s.data.toList.length := by simpa using hk
    have : s.data.toList[k]'h' = s[k]'hk := rfl
    rw [← this]; exact List.getElem_mem h', by rw [hd]; simp⟩
/-- what parseDigits answers, of 16 digits at most -/
def pdR (s : ByteArray) : Nat × Bool := if numB s.data.toList = true then (dval s.data.toList, true) else (0, false)
theorem pd_no {s : ByteArray} (h : numB s.data.toList = false) : pdR s = (0, false) := by unfold pdR; rw [h]; rfl
theorem pd_yes {s : ByteArray} (h : numB s.data.toList = true) : pdR s = (dval s.data.toList, true) := by unfold pdR; rw [h]; rfl
theorem len_size (s : ByteArray) : s.data.toList.length = s.size := by rw [Array.length_toList]; rfl
theorem numB_len {s : ByteArray} (h : ¬ (1 ≤ s.size ∧ s.size ≤ 16)) : numB s.data.toList = false := by
  unfold numB
  rw [len_size, decide_eq_false h]
  rfl
theorem head_get {s : ByteArray} (h : 0 < s.size) : s.data.toList.head? = some (s[0]'h) := by
  have h' : 0 < s.data.toList.length := by rw [len_size]; exact h
  rw [List.head?_eq_getElem?, List.getElem?_eq_getElem h']
  rfl
theorem numB_zero {s : ByteArray} (h0 : 0 < s.size) (h1 : 1 < s.size) (h : ((s[0]'h0).toNat : Int) = 48) : numB s.data.toList = false := by
  have e : s[0]'h0 = 48 := UInt8.toNat_inj.1 (by rw [show (48 : UInt8).toNat = 48 from rfl]; omega)
  unfold numB
  rw [len_size, head_get h0, e, decide_eq_false (show ¬ s.size ≤ 1 by omega)]
  simp
theorem numB_all {s : ByteArray} (h : s.data.toList.all isD = false) : numB s.data.toList = false := by
  unfold numB
  rw [h, Bool.and_false]
theorem numB_ok {s : ByteArray} (h0 : 0 < s.size) (h1 : s.size ≤ 16) (h2 : s.size ≤ 1 ∨ ((s[0]'h0).toNat : Int) ≠ 48) (h : s.data.toList.all isD = true) : numB s.data.toList = true := by
  unfold numB
  rw [len_size, head_get h0, h]
  simp only [Bool.and_true, Bool.and_eq_true, Bool.or_eq_true, decide_eq_true_eq, bne_iff_ne, ne_eq, Option.some.injEq]
  refine ⟨by omega, ?_⟩
  rcases h2 with h2 | h2
  · exact .inl h2
  · right
    intro e
    rw [e] at h2
    exact h2 rfl
theorem rune_dig (s : ByteArray) (pos : Nat) (h : pos < s.size) : (isD (s[pos]'h) = true ∧ (Utf8.decode s pos).1 = (s[pos]'h).toNat ∧ (Utf8.decode s pos).2 = 1 ∧ 48 ≤ (s[pos]'h).toNat ∧ (s[pos]'h).toNat ≤ 57) ∨ (isD (s[pos]'h) = false ∧ ((Utf8.decode s pos).1 < 48 ∨ 57 < (Utf8.decode s pos).1)) := by
  by_cases ha : (s[pos]'h).toNat < 128
  · rw [decode_ascii s pos h ha]
    unfold isD
    by_cases hn : 48 ≤ (s[pos]'h).toNat ∧ (s[pos]'h).toNat ≤ 57
    · exact .inl ⟨decide_eq_true hn, rfl, rfl, hn.1, hn.2⟩
    · exact .inr ⟨decide_eq_false hn, by show (s[pos]'h).toNat < 48 ∨ 57 < (s[pos]'h).toNat; omega⟩
  · have hd := (decode_high s pos h (by omega)).1
    right
    unfold isD
    exact ⟨decide_eq_false (by omega), by omega⟩
set_option maxRecDepth 1000000 in
set_option maxHeartbeats 1600000 in
theorem pd_any (s : ByteArray) (w : World) : Calls Tryd.prog 62 #[.string s, .int .i64 16] w fun e w' => e = .returned (.tuple #[.int .i64 ((pdR s).1 : Nat), .bool (pdR s).2]) ∧ Below w.heap.size w w' := by
  by_cases hz : s.size = 0
  · have he : s.toList.isEmpty = true := by rw [empty_iff, decide_eq_true hz]
    rw [pd_no (numB_len (by omega))]
    clear hz
    go_enter Tryd.func62, Tryd.ntmps62
    go_wp2
    go_ret2
    exact ⟨rfl, Below.refl _ _⟩
  have he : s.toList.isEmpty = false := by rw [empty_iff, decide_eq_false hz]
  by_cases hl : 16 < s.size
  · rw [pd_no (numB_len (by omega))]
    have hl' : (16 : Int) < (s.size : Int) := by omega
    clear hz hl
    go_enter Tryd.func62, Tryd.ntmps62
    go_wp2
    go_ret2
    exact ⟨rfl, Below.refl _ _⟩
  have hl' : ¬ (16 : Int) < (s.size : Int) := by omega
  have h0 : 0 < s.size := by omega
  by_cases hd : 1 < s.size ∧ ((s[0]'h0).toNat : Int) = 48
  · rw [pd_no (numB_zero h0 hd.1 hd.2)]
    have h1 : (1 : Int) < (s.size : Int) := by omega
    have h2 : (((s[0]'h0).toNat : Int) == 48) = true := by rw [beq_iff_eq]; exact hd.2
    clear hz hl hd
    go_enter Tryd.func62, Tryd.ntmps62
    go_wp2
    go_ret2
    exact ⟨rfl, Below.refl _ _⟩
  have hd' : s.size ≤ 1 ∨ ((s[0]'h0).toNat : Int) ≠ 48 := by
    by_cases g : 1 < s.size
    · exact .inr (fun e => hd ⟨g, e⟩)
    · exact .inl (by omega)
  have Hend : Hid (okD s s.size → pdR s = (valD s s.size, true)) := fun h => by
    have e : s.data.toList.take s.size = s.data.toList := by rw [← len_size, List.take_length]
    unfold okD at h
    unfold valD
    rw [e] at h ⊢
    exact pd_yes (numB_ok h0 (by omega) hd' h)
  have Hbad : Hid (∀ k (hk : k < s.size), isD (s[k]'hk) = false → pdR s = (0, false)) := fun k hk h => pd_no (numB_all (okD_bad hk h))
  have hsz : s.size ≤ 16 := by omega
  generalize pdR s = R at *
  have key : ∀ {P : Prop}, ((s.size : Int) ≤ 1 → P) → (1 < (s.size : Int) → (((s[0]'h0).toNat : Int) == 48) = false → P) → P := fun a b => by
    by_cases g : 1 < s.size
    · exact b (by omega) (by rw [beq_eq_false_iff_ne]; rcases hd' with q | q; omega; exact q)
    · exact a (by omega)
  refine key (fun g1 => ?_) (fun g1 g2 => ?_)
  all_goals
    clear key hd hd' hz
    go_enter Tryd.func62, Tryd.ntmps62
    go_wp2
    go_loopw [6] (fun nv wr => ∃ pos : Nat, pos ≤ s.size ∧ nv = .int .i64 (valD s pos) ∧ wr.heap[w.heap.size]? = some (.stringIter s pos) ∧ Below w.heap.size w wr ∧ okD s pos) (fun _ wr => s.size - wr.iterPos w.heap.size)
    case atStart => exact ⟨0, Nat.zero_le _, rfl, World.iter_heap w s 0, (Below.refl _ _).alloc (Nat.le_refl _) _, rfl⟩
    case round =>
      obtain ⟨pos, hpos, rfl, hit, hbw, hok⟩ := hrel
      have hpos0 : wr.iterPos w.heap.size = pos := by simp [World.iterPos, hit]
      by_cases hp : pos < s.size
      · have hnx : ∀ ty, (Instr.next (.pointer (some ⟨w.heap.size, 0, none⟩)) true ty).run Tryd.prog wr = _ := fun ty => Lib.run_next_any_at wr w.heap.size s pos ty hit hp
        have hit2 := Lib.iterAt_heap wr w.heap.size s pos (pos + (Utf8.decode s pos).2) hit
        have hbw2 := Lib.below_iterAt hbw (k := w.heap.size) (Nat.le_refl _) s (pos + (Utf8.decode s pos).2)
        have hpos2 : (wr.iterAt w.heap.size s (pos + (Utf8.decode s pos).2)).iterPos w.heap.size = pos + (Utf8.decode s pos).2 := by simp [World.iterPos, hit2]
        obtain ⟨W1, hW1⟩ : ∃ W1, W1 = wr.iterAt w.heap.size s (pos + (Utf8.decode s pos).2) := ⟨_, rfl⟩
        rw [← hW1] at hnx hit2 hbw2 hpos2
        have Hp : Hid (W1.iterPos w.heap.size = pos + (Utf8.decode s pos).2) := hpos2
        have Hp0 : Hid (wr.iterPos w.heap.size = pos) := hpos0
        have Hi : Hid (W1.heap[w.heap.size]? = some (.stringIter s (pos + (Utf8.decode s pos).2))) := hit2
        have Hs : Hid (isD (s[pos]'hp) = true → okD s (pos + 1)) := fun h => okD_succ hp hok h
        have Hv : Hid (valD s (pos + 1) = valD s pos * 10 + ((s[pos]'hp).toNat - 48)) := valD_succ hp
        have Hb : Hid (isD (s[pos]'hp) = false → R = (0, false)) := Hbad.out pos hp
        have hlt := valD_lt hok hpos
        have hp10 : 10 ^ pos ≤ 10 ^ 15 := Nat.pow_le_pow_right (by decide) (by omega)
        have hv0 : valD s pos < 1000000000000000 := by omega
        clear hW1 hit hbw hpos2 hit2 hok hpos0 hlt hp10 Hbad
        generalize valD s pos = v at *
        rcases rune_dig s pos hp with ⟨hn, hr, hw, hc1, hc2⟩ | ⟨hn, hr⟩
        · rw [hw] at Hi Hp
          have Hn := hide hn
          generalize (s[pos]'hp).toNat = c at *
          generalize (Utf8.decode s pos).1 = r at *
          subst hr
          go_wp2
          go_roundw
          case rel => exact ⟨pos + 1, by omega, by rw [Hv.out]; go_num, Hi.out, hbw2, Hs.out Hn.out⟩
          case measure => rw [Hp.out, Hp0.out]; omega
        · have HR := hide (Hb.out hn)
          clear Hb Hs hn
          generalize (Utf8.decode s pos).1 = r at *
          rcases hr with hr | hr
          · have r1 : ((r : Int) < 48) := by omega
            go_wp2
            go_ret2
            exact ⟨by rw [HR.out]; rfl, hbw2⟩
          · have r1 : ¬ ((r : Int) < 48) := by omega
            have r2 : ((57 : Int) < (r : Int)) := by omega
            go_wp2
            go_ret2
            exact ⟨by rw [HR.out]; rfl, hbw2⟩
      · have e : pos = s.size := by omega
        subst e
        have hnx : ∀ ty, (Instr.next (.pointer (some ⟨w.heap.size, 0, none⟩)) true ty).run Tryd.prog wr = _ := fun ty => Lib.run_next_end_at wr w.heap.size s s.size ty hit hp
        have HR := hide (Hend.out hok)
        clear hok hpos0 hit Hbad
        go_wp2
        go_ret2
        exact ⟨by rw [HR.out]; rfl, hbw⟩
end Go.Proofs.YtlbpfcchaobgjaaDoor
