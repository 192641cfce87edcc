/- What a term asks of a label: spec.l2Among, spec.l2Holds, slices.Contains at strings, impl.termHolds. -/
import Derived.Test.YtbihhcbbjdjhcaaTerm2
namespace Go.Proofs.Ytbihhcbbjdjhcaa
open Go.RowKit Go.BigFrame
set_option linter.unusedVariables false

def amongB (ss : List ByteArray) (v : ByteArray) : Bool := ss.any fun s => decide (s = v)
theorem amongB_iff {ss : List ByteArray} {v : ByteArray} : amongB ss v = true ↔ v ∈ ss := by
  unfold amongB; simp [List.any_eq_true]
def noV (ss : List ByteArray) (v : ByteArray) (k : Nat) : Prop := ∀ j, j < k → ssAt ss j ≠ v
theorem noV_succ {ss : List ByteArray} {v : ByteArray} {k : Nat} (h : noV ss v k) (hk : ssAt ss k ≠ v) : noV ss v (k + 1) := by
  intro j hj
  by_cases e : j = k
  · rw [e]; exact hk
  · exact h j (by omega)
theorem amongB_hit {ss : List ByteArray} {v : ByteArray} {k : Nat} (hk : k < ss.length) (h : ssAt ss k = v) : amongB ss v = true := by
  rw [amongB_iff, ← h, ssAt_get hk]; exact List.getElem_mem hk
theorem amongB_none {ss : List ByteArray} {v : ByteArray} (h : noV ss v ss.length) : amongB ss v = false := by
  rw [← Bool.not_eq_true, amongB_iff]; intro hm
  obtain ⟨i, hi, e⟩ := List.getElem_of_mem hm
  exact h i hi (by rw [ssAt_get hi]; exact e)
def holdsB (t : TD) (v : ByteArray) (has : Bool) : Bool :=
  if t.1 = 1 ∨ t.1 = 3 then has && amongB t.2.2 v else if t.1 = 2 then !has || !amongB t.2.2 v else if t.1 = 4 then has else !has

theorem samong_any (a : Option Addr) (cap : Nat) (ss : List ByteArray) (v : ByteArray) (w : World) (hl : ss.length ≤ maxLen) (hrow : strOf w a ss) :
    Calls Try.prog 31 #[.slice a ss.length cap, .string v] w fun e w' => e = .returned (.bool (amongB ss v)) ∧ w' = w := by
  unfold maxLen at hl
  have Hr := hide hrow
  clear hrow
  go_enter Try.func31, Try.ntmps31
  go_wp2
  go_loop [5] (fun i => ∃ (k : Nat), k ≤ ss.length ∧ i = .int .i64 k ∧ Hid (noV ss v k)) (fun i => ss.length - (intOf i).toNat)
  case atStart => exact ⟨0, Nat.zero_le _, rfl, fun j hj => by omega⟩
  case round =>
    obtain ⟨k, hk, rfl, Hx⟩ := hrel
    by_cases hlt : k < ss.length
    · obtain ⟨b, off, rfl, hat⟩ := Hr.out (by omega)
      have c0 := strAt_cells hat k hlt
      have he := beq_str (ssAt ss k) v
      clear hat Hr
      by_cases hq : ssAt ss k = v
      · rw [decide_eq_true hq] at he
        have Hn := hide (amongB_hit hlt hq)
        clear Hx hq
        generalize ssAt ss k = K at *
        go_wp2
        go_ret
        exact ⟨ret_bool Hn.out.symm, rfl⟩
      · rw [decide_eq_false hq] at he
        have Hn := hide (noV_succ Hx.out hq)
        clear Hx hq
        generalize ssAt ss k = K at *
        go_wp2
        go_round
        case rel => exact ⟨k + 1, by omega, by go_num, Hn⟩
        case measure => simp [intOf]; omega
    · have e : k = ss.length := by omega
      subst e
      have Hn := hide (amongB_none Hx.out)
      clear Hx Hr
      go_wp2
      go_ret
      exact ⟨ret_bool Hn.out.symm, rfl⟩

theorem sholds_any (t : TD) (v : ByteArray) (has : Bool) (a : Option Addr) (cap : Nat) (w : World) (hl : t.2.2.length ≤ maxLen) (hrow : strOf w a t.2.2) :
    Calls Try.prog 22 #[.agg #[.int .i64 t.1, .string t.2.1, .slice a t.2.2.length cap], .string v, .bool has] w fun e w' => e = .returned (.bool (holdsB t v has)) ∧ Below w.heap.size w w' := by
  obtain ⟨kd, key, ss⟩ := t
  simp only at hl hrow ⊢
  have hcon := fun wx hx => samong_any a cap ss v wx hl hx
  have Hcon := hide hcon
  have Hr := hide hrow
  clear hcon hrow
  have Hd : Hid (holdsB (kd, key, ss) v has = if kd = 1 ∨ kd = 3 then has && amongB ss v else if kd = 2 then !has || !amongB ss v else if kd = 4 then has else !has) := rfl
  generalize holdsB (kd, key, ss) v has = R at *
  generalize amongB ss v = A at *
  by_cases h1 : kd = 1
  · have q1 : (kd == 1) = true := by rw [beq_iff_eq]; exact h1
    have Hn : Hid (R = (has && A)) := by show _ = _; rw [Hd.out, if_pos (.inl h1)]
    clear h1 Hd
    cases has
    · go_enter Try.func22, Try.ntmps22
      go_wp2
      go_ret
      exact ⟨ret_bool (by rw [Hn.out]; rfl), (Below.refl _ _).alloc (by simp) _⟩
    · go_enter Try.func22, Try.ntmps22
      go_wp2_with fail
      refine (Hcon.out _ (Hr.out.below ((Below.refl _ _).alloc (by simp) _))).mono ?_
      rintro e w1 ⟨rfl, rfl⟩
      go_wp2
      go_ret
      exact ⟨ret_bool (by rw [Hn.out]; rfl), (Below.refl _ _).alloc (by simp) _⟩
  have q1 : (kd == 1) = false := by rw [beq_eq_false_iff_ne]; exact h1
  by_cases h3 : kd = 3
  · have q3 : (kd == 3) = true := by rw [beq_iff_eq]; exact h3
    have Hn : Hid (R = (has && A)) := by show _ = _; rw [Hd.out, if_pos (.inr h3)]
    clear h1 h3 Hd
    cases has
    · go_enter Try.func22, Try.ntmps22
      go_wp2
      go_ret
      exact ⟨ret_bool (by rw [Hn.out]; rfl), (Below.refl _ _).alloc (by simp) _⟩
    · go_enter Try.func22, Try.ntmps22
      go_wp2_with fail
      refine (Hcon.out _ (Hr.out.below ((Below.refl _ _).alloc (by simp) _))).mono ?_
      rintro e w1 ⟨rfl, rfl⟩
      go_wp2
      go_ret
      exact ⟨ret_bool (by rw [Hn.out]; rfl), (Below.refl _ _).alloc (by simp) _⟩
  have q3 : (kd == 3) = false := by rw [beq_eq_false_iff_ne]; exact h3
  by_cases h2 : kd = 2
  · have q2 : (kd == 2) = true := by rw [beq_iff_eq]; exact h2
    have Hn : Hid (R = (!has || !A)) := by show _ = _; rw [Hd.out, if_neg (by omega), if_pos h2]
    clear h1 h3 h2 Hd
    cases has
    · go_enter Try.func22, Try.ntmps22
      go_wp2
      go_ret
      exact ⟨ret_bool (by rw [Hn.out]; rfl), (Below.refl _ _).alloc (by simp) _⟩
    · go_enter Try.func22, Try.ntmps22
      go_wp2_with fail
      refine (Hcon.out _ (Hr.out.below ((Below.refl _ _).alloc (by simp) _))).mono ?_
      rintro e w1 ⟨rfl, rfl⟩
      go_wp2
      go_ret
      exact ⟨ret_bool (by rw [Hn.out]; rfl), (Below.refl _ _).alloc (by simp) _⟩
  have q2 : (kd == 2) = false := by rw [beq_eq_false_iff_ne]; exact h2
  by_cases h4 : kd = 4
  · have q4 : (kd == 4) = true := by rw [beq_iff_eq]; exact h4
    have Hn : Hid (R = has) := by show _ = _; rw [Hd.out, if_neg (by omega), if_neg h2, if_pos h4]
    clear h1 h3 h2 h4 Hd
    go_enter Try.func22, Try.ntmps22
    go_wp2
    go_ret
    exact ⟨ret_bool (by rw [Hn.out]), (Below.refl _ _).alloc (by simp) _⟩
  · have q4 : (kd == 4) = false := by rw [beq_eq_false_iff_ne]; exact h4
    have Hn : Hid (R = !has) := by show _ = _; rw [Hd.out, if_neg (by omega), if_neg h2, if_neg h4]
    clear h1 h3 h2 h4 Hd
    go_enter Try.func22, Try.ntmps22
    go_wp2
    go_ret
    exact ⟨ret_bool (by rw [Hn.out]), (Below.refl _ _).alloc (by simp) _⟩

theorem index_any (a : Option Addr) (cap : Nat) (ss : List ByteArray) (v : ByteArray) (w : World) (hl : ss.length ≤ maxLen) (hrow : strOf w a ss) :
    Calls Try.prog 38 #[.slice a ss.length cap, .string v] w fun e w' => (∃ i : Int, e = .returned (.int .i64 i) ∧ -1 ≤ i ∧ Hid (amongB ss v = decide (0 ≤ i))) ∧ w' = w := by
  unfold maxLen at hl
  have Hr := hide hrow
  clear hrow
  go_enter Try.func38, Try.ntmps38
  go_wp2
  go_loop [8] (fun i => ∃ (k : Nat), k ≤ ss.length ∧ i = .int .i64 k ∧ Hid (noV ss v k)) (fun i => ss.length - (intOf i).toNat)
  case atStart => exact ⟨0, Nat.zero_le _, rfl, fun j hj => by omega⟩
  case round =>
    obtain ⟨k, hk, rfl, Hx⟩ := hrel
    by_cases hlt : k < ss.length
    · obtain ⟨b, off, rfl, hat⟩ := Hr.out (by omega)
      have c0 := strAt_cells hat k hlt
      have he := beq_str v (ssAt ss k)
      clear hat Hr
      by_cases hq : v = ssAt ss k
      · rw [decide_eq_true hq] at he
        have Hn := hide (amongB_hit hlt hq.symm)
        clear Hx hq
        generalize ssAt ss k = K at *
        go_wp2
        go_ret
        exact ⟨⟨k, rfl, by omega, by show _ = _; rw [Hn.out, decide_eq_true (by omega)]⟩, rfl⟩
      · rw [decide_eq_false hq] at he
        have Hn := hide (noV_succ Hx.out fun h => hq h.symm)
        clear Hx hq
        generalize ssAt ss k = K at *
        go_wp2
        go_round
        case rel => exact ⟨k + 1, by omega, by go_num, Hn⟩
        case measure => simp [intOf]; omega
    · have e : k = ss.length := by omega
      subst e
      have Hn := hide (amongB_none Hx.out)
      clear Hx Hr
      go_wp2
      go_ret
      exact ⟨⟨-1, rfl, by omega, by show _ = _; rw [Hn.out]; rfl⟩, rfl⟩
theorem contains_any (a : Option Addr) (cap : Nat) (ss : List ByteArray) (v : ByteArray) (w : World) (hl : ss.length ≤ maxLen) (hrow : strOf w a ss) :
    Calls Try.prog 30 #[.slice a ss.length cap, .string v] w fun e w' => e = .returned (.bool (amongB ss v)) ∧ w' = w := by
  have hcon := index_any a cap ss v w hl hrow
  have Hcon := hide hcon
  clear hcon hl hrow
  go_enter Try.func30, Try.ntmps30
  go_wp2_with fail
  refine Hcon.out.mono ?_
  rintro e w1 ⟨⟨i, rfl, hi, hq⟩, rfl⟩
  go_wp2
  go_ret
  exact ⟨ret_bool hq.out.symm, rfl⟩

theorem as_isTerm (W : World) (v : Value) : (Instr.typeAssert (.iface 66 v) 48 66 true).run Try.prog W = .ok (.tuple #[v, .bool true]) W := by kernel_rfl
theorem as_notTerm (W : World) (v : Value) : (Instr.typeAssert (.iface 67 v) 48 67 true).run Try.prog W = .ok (.tuple #[v, .bool true]) W := by kernel_rfl
theorem as_inTerm (W : World) (v : Value) : (Instr.typeAssert (.iface 69 v) 48 69 true).run Try.prog W = .ok (.tuple #[v, .bool true]) W := by kernel_rfl
theorem as_hasTerm (W : World) (v : Value) : (Instr.typeAssert (.iface 72 v) 48 72 true).run Try.prog W = .ok (.tuple #[v, .bool true]) W := by kernel_rfl
theorem as_lacksTerm (W : World) (v : Value) : (Instr.typeAssert (.iface 73 v) 48 73 true).run Try.prog W = .ok (.tuple #[v, .bool true]) W := by kernel_rfl
theorem no_notTerm_isTerm (W : World) (v : Value) : (Instr.typeAssert (.iface 67 v) 48 66 true).run Try.prog W = .ok (.tuple #[.agg #[.string ⟨#[]⟩, .string ⟨#[]⟩], .bool false]) W := by kernel_rfl
theorem no_inTerm_isTerm (W : World) (v : Value) : (Instr.typeAssert (.iface 69 v) 48 66 true).run Try.prog W = .ok (.tuple #[.agg #[.string ⟨#[]⟩, .string ⟨#[]⟩], .bool false]) W := by kernel_rfl
theorem no_inTerm_notTerm (W : World) (v : Value) : (Instr.typeAssert (.iface 69 v) 48 67 true).run Try.prog W = .ok (.tuple #[.agg #[.string ⟨#[]⟩, .string ⟨#[]⟩], .bool false]) W := by kernel_rfl
theorem no_hasTerm_isTerm (W : World) (v : Value) : (Instr.typeAssert (.iface 72 v) 48 66 true).run Try.prog W = .ok (.tuple #[.agg #[.string ⟨#[]⟩, .string ⟨#[]⟩], .bool false]) W := by kernel_rfl
theorem no_hasTerm_notTerm (W : World) (v : Value) : (Instr.typeAssert (.iface 72 v) 48 67 true).run Try.prog W = .ok (.tuple #[.agg #[.string ⟨#[]⟩, .string ⟨#[]⟩], .bool false]) W := by kernel_rfl
theorem no_hasTerm_inTerm (W : World) (v : Value) : (Instr.typeAssert (.iface 72 v) 48 69 true).run Try.prog W = .ok (.tuple #[.agg #[.string ⟨#[]⟩, .slice none 0 0], .bool false]) W := by kernel_rfl
theorem no_lacksTerm_isTerm (W : World) (v : Value) : (Instr.typeAssert (.iface 73 v) 48 66 true).run Try.prog W = .ok (.tuple #[.agg #[.string ⟨#[]⟩, .string ⟨#[]⟩], .bool false]) W := by kernel_rfl
theorem no_lacksTerm_notTerm (W : World) (v : Value) : (Instr.typeAssert (.iface 73 v) 48 67 true).run Try.prog W = .ok (.tuple #[.agg #[.string ⟨#[]⟩, .string ⟨#[]⟩], .bool false]) W := by kernel_rfl
theorem no_lacksTerm_inTerm (W : World) (v : Value) : (Instr.typeAssert (.iface 73 v) 48 69 true).run Try.prog W = .ok (.tuple #[.agg #[.string ⟨#[]⟩, .slice none 0 0], .bool false]) W := by kernel_rfl
theorem no_lacksTerm_hasTerm (W : World) (v : Value) : (Instr.typeAssert (.iface 73 v) 48 72 true).run Try.prog W = .ok (.tuple #[.agg #[.string ⟨#[]⟩], .bool false]) W := by kernel_rfl
theorem termB_one {kd : Int} {key : ByteArray} {ss : List ByteArray} (h : termB (kd, key, ss) = true) (hk : kd = 1 ∨ kd = 2) : ss.length = 1 := by
  have h' : (valsB ss && nameB key && kindB kd ss.length) = true := h
  rw [Bool.and_eq_true] at h'
  have := h'.2
  unfold kindB at this
  rw [decide_eq_true_eq] at this
  omega
theorem among_one {ss : List ByteArray} {v : ByteArray} (h : ss.length = 1) : amongB ss v = decide (v = ssAt ss 0) := by
  match ss, h with
  | [x], _ =>
    unfold amongB ssAt
    simp [eq_comm]
theorem ite_kind (kd : Int) (key : ByteArray) (ss : List ByteArray) (v : ByteArray) (has : Bool) : holdsB (kd, key, ss) v has = if kd = 1 ∨ kd = 3 then has && amongB ss v else if kd = 2 then !has || !amongB ss v else if kd = 4 then has else !has := rfl

set_option maxRecDepth 100000 in
theorem iholds_any (t : TD) (u : Value) (v : ByteArray) (has : Bool) (a : Option Addr) (cap : Nat) (w : World) (ht : termB t = true) (hl : t.2.2.length ≤ maxLen) (hu : isV u t a cap) (hrow : strOf w a t.2.2) :
    Calls Try.prog 20 #[u, .string v, .bool has] w fun e w' => e = .returned (.bool (holdsB t v has)) ∧ Below w.heap.size w w' := by
  obtain ⟨kd, key, ss⟩ := t
  have Hd := hide (ite_kind kd key ss v has)
  rcases hu with ⟨h1, rfl⟩ | ⟨h1, rfl⟩ | ⟨h1, rfl⟩ | ⟨h1, rfl⟩ | ⟨h1, rfl⟩
  all_goals
    simp only at h1 hl hrow
    subst h1
  · have Ha := hide (among_one (v := v) (termB_one ht (by omega)))
    have he := beq_str v (ssAt ss 0)
    have fy := as_isTerm
    have Hn : Hid (holdsB (1, key, ss) v has = (has && amongB ss v)) := Hd.out
    simp only
    clear Hd hrow ht hl
    generalize ssAt ss 0 = V at *
    generalize holdsB (1, key, ss) v has = R at *
    generalize amongB ss v = M at *
    by_cases hq : v = V
    · rw [decide_eq_true hq] at he
      have Hm : Hid (M = true) := by show _ = _; rw [Ha.out, decide_eq_true hq]
      clear hq Ha
      cases has
      all_goals
        go_enter Try.func20, Try.ntmps20
        go_wp2
        go_ret
        exact ⟨ret_bool (by rw [Hn.out, Hm.out]; rfl), (Below.refl _ _).alloc (by simp) _⟩
    · rw [decide_eq_false hq] at he
      have Hm : Hid (M = false) := by show _ = _; rw [Ha.out, decide_eq_false hq]
      clear hq Ha
      cases has
      all_goals
        go_enter Try.func20, Try.ntmps20
        go_wp2
        go_ret
        exact ⟨ret_bool (by rw [Hn.out, Hm.out]; rfl), (Below.refl _ _).alloc (by simp) _⟩
  · have Ha := hide (among_one (v := v) (termB_one ht (by omega)))
    have he := beq_str v (ssAt ss 0)
    have f0 := no_notTerm_isTerm
    have fy := as_notTerm
    have Hn : Hid (holdsB (2, key, ss) v has = (!has || !amongB ss v)) := Hd.out
    simp only
    clear Hd hrow ht hl
    generalize ssAt ss 0 = V at *
    generalize holdsB (2, key, ss) v has = R at *
    generalize amongB ss v = M at *
    by_cases hq : v = V
    · rw [decide_eq_true hq] at he
      have Hm : Hid (M = true) := by show _ = _; rw [Ha.out, decide_eq_true hq]
      clear hq Ha
      cases has
      all_goals
        go_enter Try.func20, Try.ntmps20
        go_wp2
        go_ret
        exact ⟨ret_bool (by rw [Hn.out, Hm.out]; rfl), (Below.refl _ _).alloc (by simp) _⟩
    · rw [decide_eq_false hq] at he
      have Hm : Hid (M = false) := by show _ = _; rw [Ha.out, decide_eq_false hq]
      clear hq Ha
      cases has
      all_goals
        go_enter Try.func20, Try.ntmps20
        go_wp2
        go_ret
        exact ⟨ret_bool (by rw [Hn.out, Hm.out]; rfl), (Below.refl _ _).alloc (by simp) _⟩
  · have hcon := fun wx hx => contains_any a cap ss v wx hl hx
    have Hcon := hide hcon
    have Hr := hide hrow
    have f0 := no_inTerm_isTerm
    have f1 := no_inTerm_notTerm
    have fy := as_inTerm
    have Hn : Hid (holdsB (3, key, ss) v has = (has && amongB ss v)) := Hd.out
    simp only
    clear Hd hrow ht hcon
    generalize holdsB (3, key, ss) v has = R at *
    generalize amongB ss v = M at *
    cases has
    · go_enter Try.func20, Try.ntmps20
      go_wp2
      go_ret
      exact ⟨ret_bool (by rw [Hn.out]; rfl), (Below.refl _ _).alloc (by simp) _⟩
    · go_enter Try.func20, Try.ntmps20
      go_wp2_with fail
      refine (Hcon.out _ (Hr.out.below ((Below.refl _ _).alloc (by simp) _))).mono ?_
      rintro e w1 ⟨rfl, rfl⟩
      go_wp2
      go_ret
      exact ⟨ret_bool (by rw [Hn.out]; rfl), (Below.refl _ _).alloc (by simp) _⟩
  · have f0 := no_hasTerm_isTerm
    have f1 := no_hasTerm_notTerm
    have f2 := no_hasTerm_inTerm
    have fy := as_hasTerm
    have Hn : Hid (holdsB (4, key, ss) v has = has) := Hd.out
    simp only
    clear Hd hrow ht hl
    generalize holdsB (4, key, ss) v has = R at *
    go_enter Try.func20, Try.ntmps20
    go_wp2
    go_ret
    exact ⟨ret_bool (by rw [Hn.out]), (Below.refl _ _).alloc (by simp) _⟩
  · have f0 := no_lacksTerm_isTerm
    have f1 := no_lacksTerm_notTerm
    have f2 := no_lacksTerm_inTerm
    have f3 := no_lacksTerm_hasTerm
    have fy := as_lacksTerm
    have Hn : Hid (holdsB (5, key, ss) v has = !has) := Hd.out
    simp only
    clear Hd hrow ht hl
    generalize holdsB (5, key, ss) v has = R at *
    go_enter Try.func20, Try.ntmps20
    go_wp2
    go_ret
    exact ⟨ret_bool (by rw [Hn.out]), (Below.refl _ _).alloc (by simp) _⟩
end Go.Proofs.Ytbihhcbbjdjhcaa
