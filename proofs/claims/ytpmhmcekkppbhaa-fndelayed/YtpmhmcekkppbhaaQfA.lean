/- Queues: small functions of both sides that only read: places of names, room, delays. -/
import Derived.Test.YtpmhmcekkppbhaaQuP
namespace Go.Proofs.Ytpmhmcekkppbhaa
open Go.RowKit Go.BigFrame
set_option linter.unusedVariables false

/-- a row of items that can be read, one by one -/
theorem rdR.itAt {w : World} {L : List It} {a : Option Addr} {n cap : Nat} (h : rdR w 3 (.slice a n cap) (L.map encI)) {q : Nat} (hq : q < L.length) : ∃ b o, a = some ⟨b, o, none⟩ ∧ b < w.heap.size ∧ w.cell? ⟨b, o + q * 3, none⟩ = some (.string (L[q].1)) ∧ w.cell? ⟨b, o + q * 3 + 1, none⟩ = some (.int .i64 (L[q].2.1)) ∧ w.cell? ⟨b, o + q * 3 + 2, none⟩ = some (.int .i64 (L[q].2.2)) := by
  obtain ⟨a', cap', e, h2, h3, h4⟩ := h
  cases e
  obtain ⟨b, o, rfl, hc⟩ := h4 (by rw [List.length_map]; omega)
  have hr : (L.map encI)[q]? = some (encI L[q]) := by rw [List.getElem?_map, List.getElem?_eq_getElem hq]; rfl
  exact ⟨b, o, rfl, World.block_lt_of_cell? _ _ (hc q _ 0 _ hr rfl), hc q _ 0 _ hr rfl, hc q _ 1 _ hr rfl, hc q _ 2 _ hr rfl⟩
theorem rdR.stAt {w : World} {L : List ByteArray} {a : Option Addr} {n cap : Nat} (h : rdR w 1 (.slice a n cap) (L.map encS)) {q : Nat} (hq : q < L.length) : ∃ b o, a = some ⟨b, o, none⟩ ∧ b < w.heap.size ∧ w.cell? ⟨b, o + q, none⟩ = some (.string (L[q])) := by
  obtain ⟨a', cap', e, h2, h3, h4⟩ := h
  cases e
  obtain ⟨b, o, rfl, hc⟩ := h4 (by rw [List.length_map]; omega)
  have hr : (L.map encS)[q]? = some (encS L[q]) := by rw [List.getElem?_map, List.getElem?_eq_getElem hq]; rfl
  have := hc q _ 0 _ hr rfl
  rw [Nat.mul_one, Nat.add_zero] at this
  exact ⟨b, o, rfl, World.block_lt_of_cell? _ _ this, this⟩
theorem rdR.itS {w : World} {L : List It} {c : Value} (h : rdR w 3 c (L.map encI)) : ∃ a cap, c = .slice a L.length cap ∧ L.length ≤ cap ∧ (a = none → cap = 0) := by
  obtain ⟨a, cap, rfl, h2, h3, _⟩ := h
  rw [List.length_map] at h2 ⊢
  exact ⟨a, cap, rfl, h2, h3⟩
theorem rdR.stS {w : World} {L : List ByteArray} {c : Value} (h : rdR w 1 c (L.map encS)) : ∃ a cap, c = .slice a L.length cap ∧ L.length ≤ cap ∧ (a = none → cap = 0) := by
  obtain ⟨a, cap, rfl, h2, h3, _⟩ := h
  rw [List.length_map] at h2 ⊢
  exact ⟨a, cap, rfl, h2, h3⟩
def noI (L : List It) (s : ByteArray) (k : Nat) : Prop := ∀ j (h : j < L.length), j < k → (L[j]'h).1 ≠ s
theorem noI_succ {L : List It} {s : ByteArray} {k : Nat} (h : noI L s k) (hk : k < L.length) (hne : (L[k]'hk).1 ≠ s) : noI L s (k + 1) := fun j hj hjk => by
  by_cases e : j = k
  · subst e; exact hne
  · exact h j hj (by omega)
theorem noI_hit {L : List It} {s : ByteArray} {k : Nat} (h : noI L s k) (hk : k < L.length) (he : (L[k]'hk).1 = s) : plcI L s = (k : Int) := fndI_hit hk he (fun j hj => h j (by omega) hj)
theorem noI_miss {L : List It} {s : ByteArray} (h : noI L s L.length) : plcI L s = -1 := fndI_miss (fun j hj => h j hj hj)
theorem l9Find_any (L : List It) (s : ByteArray) (c : Value) (w : World) (hx : rdR w 3 c (L.map encI)) (hn : L.length ≤ 4000000) :
    Calls Try.prog 93 #[c, .string s] w fun e w' => e = .returned (.int .i64 (plcI L s)) ∧ w' = w := by
  obtain ⟨a, cap, rfl, -, -⟩ := hx.itS
  have Hx := hide hx
  clear hx
  go_enter Try.func93, Try.ntmps93
  go_wp2
  go_loop [5] (fun i => ∃ (k : Nat), k ≤ L.length ∧ i = .int .i64 k ∧ Hid (noI L s k)) (fun i => L.length - (intOf i).toNat)
  case atStart => exact ⟨0, Nat.zero_le _, rfl, fun j hj h => by omega⟩
  case round =>
    obtain ⟨k, hk, rfl, Ho⟩ := hrel
    by_cases hlt : k < L.length
    · obtain ⟨b, off, rfl, -, c0, -, -⟩ := Hx.out.itAt hlt
      have he := beq_str (L[k].1) s
      have Hh : Hid (L[k].1 = s → plcI L s = (k : Int)) := noI_hit Ho.out hlt
      have Hm : Hid (L[k].1 ≠ s → noI L s (k + 1)) := noI_succ Ho.out hlt
      clear Hx Ho
      generalize L[k].1 = K at *
      by_cases hq : K = s
      · rw [decide_eq_true hq] at he
        have Hn := hide (Hh.out hq)
        clear hq Hh Hm
        go_wp2
        go_ret
        exact ⟨ret_int Hn.out.symm, rfl⟩
      · rw [decide_eq_false hq] at he
        have Hn := hide (Hm.out hq)
        clear hq Hh Hm
        go_wp2
        go_round
        case rel => exact ⟨k + 1, by omega, by go_num, Hn⟩
        case measure => simp [intOf]; omega
    · have e : k = L.length := by omega
      subst e
      have Hn := hide (noI_miss Ho.out)
      clear Ho Hx
      go_wp2
      go_ret
      exact ⟨ret_int Hn.out.symm, rfl⟩
def noS (A : List ByteArray) (s : ByteArray) (k : Nat) : Prop := ∀ j (h : j < A.length), j < k → (A[j]'h) ≠ s
theorem noS_succ {L : List ByteArray} {s : ByteArray} {k : Nat} (h : noS L s k) (hk : k < L.length) (hne : (L[k]'hk) ≠ s) : noS L s (k + 1) := fun j hj hjk => by
  by_cases e : j = k
  · subst e; exact hne
  · exact h j hj (by omega)
theorem noS_miss {L : List ByteArray} {s : ByteArray} (h : noS L s L.length) : inA L s = false := by
  rw [← Bool.not_eq_true, inA_iff]
  intro hm
  obtain ⟨j, hj, rfl⟩ := List.mem_iff_getElem.1 hm
  exact h j hj hj rfl
theorem noS_hit {L : List ByteArray} {s : ByteArray} {k : Nat} (hk : k < L.length) (he : (L[k]'hk) = s) : inA L s = true := inA_iff.2 (he ▸ List.getElem_mem hk)
theorem l2AmongQ_any (L : List ByteArray) (s : ByteArray) (c : Value) (w : World) (hx : rdR w 1 c (L.map encS)) (hn : L.length ≤ 4000000) :
    Calls Try.prog 60 #[c, .string s] w fun e w' => e = .returned (.bool (inA L s)) ∧ w' = w := by
  obtain ⟨a, cap, rfl, -, -⟩ := hx.stS
  have Hx := hide hx
  clear hx
  go_enter Try.func60, Try.ntmps60
  go_wp2
  go_loop [5] (fun i => ∃ (k : Nat), k ≤ L.length ∧ i = .int .i64 k ∧ Hid (noS L s k)) (fun i => L.length - (intOf i).toNat)
  case atStart => exact ⟨0, Nat.zero_le _, rfl, fun j hj h => by omega⟩
  case round =>
    obtain ⟨k, hk, rfl, Ho⟩ := hrel
    by_cases hlt : k < L.length
    · obtain ⟨b, off, rfl, -, c0⟩ := Hx.out.stAt hlt
      have he := beq_str (L[k]) s
      have Hh : Hid (L[k] = s → inA L s = true) := noS_hit hlt
      have Hm : Hid (L[k] ≠ s → noS L s (k + 1)) := noS_succ Ho.out hlt
      clear Hx Ho
      generalize L[k] = K at *
      by_cases hq : K = s
      · rw [decide_eq_true hq] at he
        have Hn := hide (Hh.out hq)
        clear hq Hh Hm
        go_wp2
        go_ret
        exact ⟨ret_bool Hn.out.symm, rfl⟩
      · rw [decide_eq_false hq] at he
        have Hn := hide (Hm.out hq)
        clear hq Hh Hm
        go_wp2
        go_round
        case rel => exact ⟨k + 1, by omega, by go_num, Hn⟩
        case measure => simp [intOf]; omega
    · have e : k = L.length := by omega
      subst e
      have Hn := hide (noS_miss Ho.out)
      clear Ho Hx
      go_wp2
      go_ret
      exact ⟨ret_bool Hn.out.symm, rfl⟩
/-- the first place of a text -/
def plcS (A : List ByteArray) (s : ByteArray) (r : Int) : Prop := (r = -1 ∧ inA A s = false) ∨ ∃ (k : Nat) (h : k < A.length), r = (k : Int) ∧ A[k] = s ∧ noS A s k
theorem ixStr_any (L : List ByteArray) (s : ByteArray) (c : Value) (w : World) (hx : rdR w 1 c (L.map encS)) (hn : L.length ≤ 4000000) :
    Calls Try.prog 152 #[c, .string s] w fun e w' => ∃ r : Int, e = .returned (.int .i64 r) ∧ plcS L s r ∧ w' = w := by
  obtain ⟨a, cap, rfl, -, -⟩ := hx.stS
  have Hx := hide hx
  clear hx
  go_enter Try.func152, Try.ntmps152
  go_wp2
  go_loop [8] (fun i => ∃ (k : Nat), k ≤ L.length ∧ i = .int .i64 k ∧ Hid (noS L s k)) (fun i => L.length - (intOf i).toNat)
  case atStart => exact ⟨0, Nat.zero_le _, rfl, fun j hj h => by omega⟩
  case round =>
    obtain ⟨k, hk, rfl, Ho⟩ := hrel
    by_cases hlt : k < L.length
    · obtain ⟨b, off, rfl, -, c0⟩ := Hx.out.stAt hlt
      have he := beq_str s (L[k])
      have Hh : Hid (L[k] = s → plcS L s (k : Int)) := fun e => .inr ⟨k, hlt, rfl, e, Ho.out⟩
      have Hm : Hid (L[k] ≠ s → noS L s (k + 1)) := noS_succ Ho.out hlt
      clear Hx Ho
      generalize L[k] = K at *
      by_cases hq : K = s
      · rw [decide_eq_true hq.symm] at he
        have Hn := hide (Hh.out hq)
        clear hq Hh Hm
        go_wp2
        go_ret
        exact ⟨k, rfl, Hn.out, rfl⟩
      · rw [decide_eq_false (fun e => hq e.symm)] at he
        have Hn := hide (Hm.out hq)
        clear hq Hh Hm
        go_wp2
        go_round
        case rel => exact ⟨k + 1, by omega, by go_num, Hn⟩
        case measure => simp [intOf]; omega
    · have e : k = L.length := by omega
      subst e
      have Hn : Hid (plcS L s (-1)) := .inl ⟨rfl, noS_miss Ho.out⟩
      clear Ho Hx
      go_wp2
      go_ret
      exact ⟨-1, rfl, Hn.out, rfl⟩
theorem coStr_any (L : List ByteArray) (s : ByteArray) (c : Value) (w : World) (hx : rdR w 1 c (L.map encS)) (hn : L.length ≤ 4000000) :
    Calls Try.prog 117 #[c, .string s] w fun e w' => e = .returned (.bool (inA L s)) ∧ w' = w := by
  have HC := hide (ixStr_any L s c w hx hn)
  obtain ⟨a, cap, rfl, -, -⟩ := hx.stS
  clear hx
  go_enter Try.func117, Try.ntmps117
  go_wp2_with fail
  refine HC.out.mono ?_
  rintro e w1 ⟨x, rfl, hp, rfl⟩
  rcases hp with ⟨rfl, hp⟩ | ⟨k, hk, rfl, hp, -⟩
  · have Hp := hide hp
    clear hp
    go_wp2
    go_ret
    first | exact ⟨ret_bool Hp.out.symm, rfl⟩ | exact ⟨ret_bool (by rw [Hp.out]), rfl⟩ | exact ⟨ret_bool (by rw [Hp.out]; simp), rfl⟩
  · have Hp := hide (noS_hit hk hp)
    have h0 : (0 : Int) ≤ (k : Int) := Int.natCast_nonneg _
    clear hp
    go_wp2
    go_ret
    first | exact ⟨ret_bool Hp.out.symm, rfl⟩ | exact ⟨ret_bool (by rw [Hp.out]; simp), rfl⟩
theorem within_any (x b : Int) (w : World) : Calls Try.prog 61 #[.int .i64 x, .int .i64 b] w fun e w' => e = .returned (.bool (inB x 0 b)) ∧ w' = w := by
  go_enter Try.func61, Try.ntmps61
  go_wp2
  all_goals go_ret
  all_goals exact ⟨ret_bool (by rw [Bool.eq_iff_iff]; simp [inB]; omega), rfl⟩
end Go.Proofs.Ytpmhmcekkppbhaa
