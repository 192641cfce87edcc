/- Texts of one claim, joined: each in its own section, in build order. -/
import Derived.Test.YtdnodaoeflbfkaaGreatJ2
import Derived.Deep.SlicePairs
import Derived.ProofKit
import Derived.Test.YtdnodaoeflbfkaaGreatJ1
import Derived.Test.YtdnodaoeflbfkaaGreatChecked
import Derived.WalkKit
import Derived.WalkSpells
import Derived.WalkLawsBesides
import Derived.Lib.OthersKept
import Derived.BigQuiet
import Derived.Deep.QuietTactic
import Derived.Laws.BytesString
import Derived.Deep.RegionWith
import Derived.Deep.RegionLaw
import Derived.Deep.OwnRows
/- What a term asks of a label: spec.l2Among, spec.l2Holds, slices.Contains at strings, impl.termHolds. -/
namespace Go.Proofs.YtdnodaoeflbfkaaGreat
open Go.RowKit Go.BigFrame
set_option linter.unusedVariables false

def amongB (ss : List ByteArray) (v : ByteArray) : Bool := ss.any fun s => decide (s = v)
theorem amongB_iff {ss : List ByteArray} {v : ByteArray} : amongB ss v = true ↔ v ∈ ss := by
  unfold amongB; simp [List.any_eq_true]
def noV (ss : List ByteArray) (v : ByteArray) (k : Nat) : Prop := ∀ j, j < k → ssAt ss j ≠ v
theorem noV_succ {ss : List ByteArray} {v : ByteArray} {k : Nat} (h : noV ss v k) (hk : ssAt ss k ≠ v) : noV ss v (k + 1) := by
  intro j hj
  by_cases e : j = k
  · rw [e]; exact hk
  · exact h j (by omega)
theorem amongB_hit {ss : List ByteArray} {v : ByteArray} {k : Nat} (hk : k < ss.length) (h : ssAt ss k = v) : amongB ss v = true := by
  rw [amongB_iff, ← h, ssAt_get hk]; exact List.getElem_mem hk
theorem amongB_none {ss : List ByteArray} {v : ByteArray} (h : noV ss v ss.length) : amongB ss v = false := by
  rw [← Bool.not_eq_true, amongB_iff]; intro hm
  obtain ⟨i, hi, e⟩ := List.getElem_of_mem hm
  exact h i hi (by rw [ssAt_get hi]; exact e)
def holdsB (t : TD) (v : ByteArray) (has : Bool) : Bool :=
  if t.1 = 1 ∨ t.1 = 3 then has && amongB t.2.2 v else if t.1 = 2 then !has || !amongB t.2.2 v else if t.1 = 4 then has else !has

theorem samong_any (a : Option Addr) (cap : Nat) (ss : List ByteArray) (v : ByteArray) (w : World) (hl : ss.length ≤ maxLen) (hrow : strOf w a ss) :
    Calls Tryz.prog 128 #[.slice a ss.length cap, .string v] w fun e w' => e = .returned (.bool (amongB ss v)) ∧ w' = w := by
  unfold maxLen at hl
  have Hr := hide hrow
  clear hrow
  go_enter Tryz.func128, Tryz.ntmps128
  go_wp2
  go_loop [5] (fun i => ∃ (k : Nat), k ≤ ss.length ∧ i = .int .i64 k ∧ Hid (noV ss v k)) (fun i => ss.length - (intOf i).toNat)
  case atStart => exact ⟨0, Nat.zero_le _, rfl, fun j hj => by omega⟩
  case round =>
    obtain ⟨k, hk, rfl, Hx⟩ := hrel
    by_cases hlt : k < ss.length
    · obtain ⟨b, off, rfl, hat⟩ := Hr.out (by omega)
      have c0 := strAt_cells hat k hlt
      have he := beq_str (ssAt ss k) v
      clear hat Hr
      by_cases hq : ssAt ss k = v
      · rw [decide_eq_true hq] at he
        have Hn := hide (amongB_hit hlt hq)
        clear Hx hq
        generalize ssAt ss k = K at *
        go_wp2
        go_ret
        exact ⟨ret_bool Hn.out.symm, rfl⟩
      · rw [decide_eq_false hq] at he
        have Hn := hide (noV_succ Hx.out hq)
        clear Hx hq
        generalize ssAt ss k = K at *
        go_wp2
        go_round
        case rel => exact ⟨k + 1, by omega, by go_num, Hn⟩
        case measure => simp [intOf]; omega
    · have e : k = ss.length := by omega
      subst e
      have Hn := hide (amongB_none Hx.out)
      clear Hx Hr
      go_wp2
      go_ret
      exact ⟨ret_bool Hn.out.symm, rfl⟩

theorem sholds_any (t : TD) (v : ByteArray) (has : Bool) (a : Option Addr) (cap : Nat) (w : World) (hl : t.2.2.length ≤ maxLen) (hrow : strOf w a t.2.2) :
    Calls Tryz.prog 196 #[.agg #[.int .i64 t.1, .string t.2.1, .slice a t.2.2.length cap], .string v, .bool has] w fun e w' => e = .returned (.bool (holdsB t v has)) ∧ Below w.heap.size w w' := by
  obtain ⟨kd, key, ss⟩ := t
  simp only at hl hrow ⊢
  have hcon := fun wx hx => samong_any a cap ss v wx hl hx
  have Hcon := hide hcon
  have Hr := hide hrow
  clear hcon hrow
  have Hd : Hid (holdsB (kd, key, ss) v has = if kd = 1 ∨ kd = 3 then has && amongB ss v else if kd = 2 then !has || !amongB ss v else if kd = 4 then has else !has) := rfl
  generalize holdsB (kd, key, ss) v has = R at *
  generalize amongB ss v = A at *
  by_cases h1 : kd = 1
  · have q1 : (kd == 1) = true := by rw [beq_iff_eq]; exact h1
    have Hn : Hid (R = (has && A)) := by show _ = _; rw [Hd.out, if_pos (.inl h1)]
    clear h1 Hd
    cases has
    · go_enter Tryz.func196, Tryz.ntmps196
      go_wp2
      go_ret
      exact ⟨ret_bool (by rw [Hn.out]; rfl), (Below.refl _ _).alloc (by simp) _⟩
    · go_enter Tryz.func196, Tryz.ntmps196
      go_wp2_with fail
      refine (Hcon.out _ (Hr.out.below ((Below.refl _ _).alloc (by simp) _))).mono ?_
      rintro e w1 ⟨rfl, rfl⟩
      go_wp2
      go_ret
      exact ⟨ret_bool (by rw [Hn.out]; rfl), (Below.refl _ _).alloc (by simp) _⟩
  have q1 : (kd == 1) = false := by rw [beq_eq_false_iff_ne]; exact h1
  by_cases h3 : kd = 3
  · have q3 : (kd == 3) = true := by rw [beq_iff_eq]; exact h3
    have Hn : Hid (R = (has && A)) := by show _ = _; rw [Hd.out, if_pos (.inr h3)]
    clear h1 h3 Hd
    cases has
    · go_enter Tryz.func196, Tryz.ntmps196
      go_wp2
      go_ret
      exact ⟨ret_bool (by rw [Hn.out]; rfl), (Below.refl _ _).alloc (by simp) _⟩
    · go_enter Tryz.func196, Tryz.ntmps196
      go_wp2_with fail
      refine (Hcon.out _ (Hr.out.below ((Below.refl _ _).alloc (by simp) _))).mono ?_
      rintro e w1 ⟨rfl, rfl⟩
      go_wp2
      go_ret
      exact ⟨ret_bool (by rw [Hn.out]; rfl), (Below.refl _ _).alloc (by simp) _⟩
  have q3 : (kd == 3) = false := by rw [beq_eq_false_iff_ne]; exact h3
  by_cases h2 : kd = 2
  · have q2 : (kd == 2) = true := by rw [beq_iff_eq]; exact h2
    have Hn : Hid (R = (!has || !A)) := by show _ = _; rw [Hd.out, if_neg (by omega), if_pos h2]
    clear h1 h3 h2 Hd
    cases has
    · go_enter Tryz.func196, Tryz.ntmps196
      go_wp2
      go_ret
      exact ⟨ret_bool (by rw [Hn.out]; rfl), (Below.refl _ _).alloc (by simp) _⟩
    · go_enter Tryz.func196, Tryz.ntmps196
      go_wp2_with fail
      refine (Hcon.out _ (Hr.out.below ((Below.refl _ _).alloc (by simp) _))).mono ?_
      rintro e w1 ⟨rfl, rfl⟩
      go_wp2
      go_ret
      exact ⟨ret_bool (by rw [Hn.out]; rfl), (Below.refl _ _).alloc (by simp) _⟩
  have q2 : (kd == 2) = false := by rw [beq_eq_false_iff_ne]; exact h2
  by_cases h4 : kd = 4
  · have q4 : (kd == 4) = true := by rw [beq_iff_eq]; exact h4
    have Hn : Hid (R = has) := by show _ = _; rw [Hd.out, if_neg (by omega), if_neg h2, if_pos h4]
    clear h1 h3 h2 h4 Hd
    go_enter Tryz.func196, Tryz.ntmps196
    go_wp2
    go_ret
    exact ⟨ret_bool (by rw [Hn.out]), (Below.refl _ _).alloc (by simp) _⟩
  · have q4 : (kd == 4) = false := by rw [beq_eq_false_iff_ne]; exact h4
    have Hn : Hid (R = !has) := by show _ = _; rw [Hd.out, if_neg (by omega), if_neg h2, if_neg h4]
    clear h1 h3 h2 h4 Hd
    go_enter Tryz.func196, Tryz.ntmps196
    go_wp2
    go_ret
    exact ⟨ret_bool (by rw [Hn.out]), (Below.refl _ _).alloc (by simp) _⟩

theorem index_any (a : Option Addr) (cap : Nat) (ss : List ByteArray) (v : ByteArray) (w : World) (hl : ss.length ≤ maxLen) (hrow : strOf w a ss) :
    Calls Tryz.prog 232 #[.slice a ss.length cap, .string v] w fun e w' => (∃ i : Int, e = .returned (.int .i64 i) ∧ -1 ≤ i ∧ Hid (amongB ss v = decide (0 ≤ i))) ∧ w' = w := by
  unfold maxLen at hl
  have Hr := hide hrow
  clear hrow
  go_enter Tryz.func232, Tryz.ntmps232
  go_wp2
  go_loop [8] (fun i => ∃ (k : Nat), k ≤ ss.length ∧ i = .int .i64 k ∧ Hid (noV ss v k)) (fun i => ss.length - (intOf i).toNat)
  case atStart => exact ⟨0, Nat.zero_le _, rfl, fun j hj => by omega⟩
  case round =>
    obtain ⟨k, hk, rfl, Hx⟩ := hrel
    by_cases hlt : k < ss.length
    · obtain ⟨b, off, rfl, hat⟩ := Hr.out (by omega)
      have c0 := strAt_cells hat k hlt
      have he := beq_str v (ssAt ss k)
      clear hat Hr
      by_cases hq : v = ssAt ss k
      · rw [decide_eq_true hq] at he
        have Hn := hide (amongB_hit hlt hq.symm)
        clear Hx hq
        generalize ssAt ss k = K at *
        go_wp2
        go_ret
        exact ⟨⟨k, rfl, by omega, by show _ = _; rw [Hn.out, decide_eq_true (by omega)]⟩, rfl⟩
      · rw [decide_eq_false hq] at he
        have Hn := hide (noV_succ Hx.out fun h => hq h.symm)
        clear Hx hq
        generalize ssAt ss k = K at *
        go_wp2
        go_round
        case rel => exact ⟨k + 1, by omega, by go_num, Hn⟩
        case measure => simp [intOf]; omega
    · have e : k = ss.length := by omega
      subst e
      have Hn := hide (amongB_none Hx.out)
      clear Hx Hr
      go_wp2
      go_ret
      exact ⟨⟨-1, rfl, by omega, by show _ = _; rw [Hn.out]; rfl⟩, rfl⟩
theorem contains_any (a : Option Addr) (cap : Nat) (ss : List ByteArray) (v : ByteArray) (w : World) (hl : ss.length ≤ maxLen) (hrow : strOf w a ss) :
    Calls Tryz.prog 207 #[.slice a ss.length cap, .string v] w fun e w' => e = .returned (.bool (amongB ss v)) ∧ w' = w := by
  have hcon := index_any a cap ss v w hl hrow
  have Hcon := hide hcon
  clear hcon hl hrow
  go_enter Tryz.func207, Tryz.ntmps207
  go_wp2_with fail
  refine Hcon.out.mono ?_
  rintro e w1 ⟨⟨i, rfl, hi, hq⟩, rfl⟩
  go_wp2
  go_ret
  exact ⟨ret_bool hq.out.symm, rfl⟩

theorem as_isTerm (W : World) (v : Value) : (Instr.typeAssert (.iface 296 v) 270 296 true).run Tryz.prog W = .ok (.tuple #[v, .bool true]) W := by kernel_rfl
theorem as_notTerm (W : World) (v : Value) : (Instr.typeAssert (.iface 297 v) 270 297 true).run Tryz.prog W = .ok (.tuple #[v, .bool true]) W := by kernel_rfl
theorem as_inTerm (W : World) (v : Value) : (Instr.typeAssert (.iface 299 v) 270 299 true).run Tryz.prog W = .ok (.tuple #[v, .bool true]) W := by kernel_rfl
theorem as_hasTerm (W : World) (v : Value) : (Instr.typeAssert (.iface 301 v) 270 301 true).run Tryz.prog W = .ok (.tuple #[v, .bool true]) W := by kernel_rfl
theorem as_lacksTerm (W : World) (v : Value) : (Instr.typeAssert (.iface 302 v) 270 302 true).run Tryz.prog W = .ok (.tuple #[v, .bool true]) W := by kernel_rfl
theorem no_notTerm_isTerm (W : World) (v : Value) : (Instr.typeAssert (.iface 297 v) 270 296 true).run Tryz.prog W = .ok (.tuple #[.agg #[.string ⟨#[]⟩, .string ⟨#[]⟩], .bool false]) W := by kernel_rfl
theorem no_inTerm_isTerm (W : World) (v : Value) : (Instr.typeAssert (.iface 299 v) 270 296 true).run Tryz.prog W = .ok (.tuple #[.agg #[.string ⟨#[]⟩, .string ⟨#[]⟩], .bool false]) W := by kernel_rfl
theorem no_inTerm_notTerm (W : World) (v : Value) : (Instr.typeAssert (.iface 299 v) 270 297 true).run Tryz.prog W = .ok (.tuple #[.agg #[.string ⟨#[]⟩, .string ⟨#[]⟩], .bool false]) W := by kernel_rfl
theorem no_hasTerm_isTerm (W : World) (v : Value) : (Instr.typeAssert (.iface 301 v) 270 296 true).run Tryz.prog W = .ok (.tuple #[.agg #[.string ⟨#[]⟩, .string ⟨#[]⟩], .bool false]) W := by kernel_rfl
theorem no_hasTerm_notTerm (W : World) (v : Value) : (Instr.typeAssert (.iface 301 v) 270 297 true).run Tryz.prog W = .ok (.tuple #[.agg #[.string ⟨#[]⟩, .string ⟨#[]⟩], .bool false]) W := by kernel_rfl
theorem no_hasTerm_inTerm (W : World) (v : Value) : (Instr.typeAssert (.iface 301 v) 270 299 true).run Tryz.prog W = .ok (.tuple #[.agg #[.string ⟨#[]⟩, .slice none 0 0], .bool false]) W := by kernel_rfl
theorem no_lacksTerm_isTerm (W : World) (v : Value) : (Instr.typeAssert (.iface 302 v) 270 296 true).run Tryz.prog W = .ok (.tuple #[.agg #[.string ⟨#[]⟩, .string ⟨#[]⟩], .bool false]) W := by kernel_rfl
theorem no_lacksTerm_notTerm (W : World) (v : Value) : (Instr.typeAssert (.iface 302 v) 270 297 true).run Tryz.prog W = .ok (.tuple #[.agg #[.string ⟨#[]⟩, .string ⟨#[]⟩], .bool false]) W := by kernel_rfl
theorem no_lacksTerm_inTerm (W : World) (v : Value) : (Instr.typeAssert (.iface 302 v) 270 299 true).run Tryz.prog W = .ok (.tuple #[.agg #[.string ⟨#[]⟩, .slice none 0 0], .bool false]) W := by kernel_rfl
theorem no_lacksTerm_hasTerm (W : World) (v : Value) : (Instr.typeAssert (.iface 302 v) 270 301 true).run Tryz.prog W = .ok (.tuple #[.agg #[.string ⟨#[]⟩], .bool false]) W := by kernel_rfl
theorem termB_one {kd : Int} {key : ByteArray} {ss : List ByteArray} (h : termB (kd, key, ss) = true) (hk : kd = 1 ∨ kd = 2) : ss.length = 1 := by
  have h' : (valsB ss && nameB key && kindB kd ss.length) = true := h
  rw [Bool.and_eq_true] at h'
  have := h'.2
  unfold kindB at this
  rw [decide_eq_true_eq] at this
  omega
theorem among_one {ss : List ByteArray} {v : ByteArray} (h : ss.length = 1) : amongB ss v = decide (v = ssAt ss 0) := by
  match ss, h with
  | [x], _ =>
    unfold amongB ssAt
    simp [eq_comm]
theorem ite_kind (kd : Int) (key : ByteArray) (ss : List ByteArray) (v : ByteArray) (has : Bool) : holdsB (kd, key, ss) v has = if kd = 1 ∨ kd = 3 then has && amongB ss v else if kd = 2 then !has || !amongB ss v else if kd = 4 then has else !has := rfl

set_option maxRecDepth 100000 in
theorem iholds_any (t : TD) (u : Value) (v : ByteArray) (has : Bool) (a : Option Addr) (cap : Nat) (w : World) (ht : termB t = true) (hl : t.2.2.length ≤ maxLen) (hu : isV u t a cap) (hrow : strOf w a t.2.2) :
    Calls Tryz.prog 230 #[u, .string v, .bool has] w fun e w' => e = .returned (.bool (holdsB t v has)) ∧ Below w.heap.size w w' := by
  obtain ⟨kd, key, ss⟩ := t
  have Hd := hide (ite_kind kd key ss v has)
  rcases hu with ⟨h1, rfl⟩ | ⟨h1, rfl⟩ | ⟨h1, rfl⟩ | ⟨h1, rfl⟩ | ⟨h1, rfl⟩
  all_goals
    simp only at h1 hl hrow
    subst h1
  · have Ha := hide (among_one (v := v) (termB_one ht (by omega)))
    have he := beq_str v (ssAt ss 0)
    have fy := as_isTerm
    have Hn : Hid (holdsB (1, key, ss) v has = (has && amongB ss v)) := Hd.out
    simp only
    clear Hd hrow ht hl
    generalize ssAt ss 0 = V at *
    generalize holdsB (1, key, ss) v has = R at *
    generalize amongB ss v = M at *
    by_cases hq : v = V
    · rw [decide_eq_true hq] at he
      have Hm : Hid (M = true) := by show _ = _; rw [Ha.out, decide_eq_true hq]
      clear hq Ha
      cases has
      all_goals
        go_enter Tryz.func230, Tryz.ntmps230
        go_wp2
        go_ret
        exact ⟨ret_bool (by rw [Hn.out, Hm.out]; rfl), (Below.refl _ _).alloc (by simp) _⟩
    · rw [decide_eq_false hq] at he
      have Hm : Hid (M = false) := by show _ = _; rw [Ha.out, decide_eq_false hq]
      clear hq Ha
      cases has
      all_goals
        go_enter Tryz.func230, Tryz.ntmps230
        go_wp2
        go_ret
        exact ⟨ret_bool (by rw [Hn.out, Hm.out]; rfl), (Below.refl _ _).alloc (by simp) _⟩
  · have Ha := hide (among_one (v := v) (termB_one ht (by omega)))
    have he := beq_str v (ssAt ss 0)
    have f0 := no_notTerm_isTerm
    have fy := as_notTerm
    have Hn : Hid (holdsB (2, key, ss) v has = (!has || !amongB ss v)) := Hd.out
    simp only
    clear Hd hrow ht hl
    generalize ssAt ss 0 = V at *
    generalize holdsB (2, key, ss) v has = R at *
    generalize amongB ss v = M at *
    by_cases hq : v = V
    · rw [decide_eq_true hq] at he
      have Hm : Hid (M = true) := by show _ = _; rw [Ha.out, decide_eq_true hq]
      clear hq Ha
      cases has
      all_goals
        go_enter Tryz.func230, Tryz.ntmps230
        go_wp2
        go_ret
        exact ⟨ret_bool (by rw [Hn.out, Hm.out]; rfl), (Below.refl _ _).alloc (by simp) _⟩
    · rw [decide_eq_false hq] at he
      have Hm : Hid (M = false) := by show _ = _; rw [Ha.out, decide_eq_false hq]
      clear hq Ha
      cases has
      all_goals
        go_enter Tryz.func230, Tryz.ntmps230
        go_wp2
        go_ret
        exact ⟨ret_bool (by rw [Hn.out, Hm.out]; rfl), (Below.refl _ _).alloc (by simp) _⟩
  · have hcon := fun wx hx => contains_any a cap ss v wx hl hx
    have Hcon := hide hcon
    have Hr := hide hrow
    have f0 := no_inTerm_isTerm
    have f1 := no_inTerm_notTerm
    have fy := as_inTerm
    have Hn : Hid (holdsB (3, key, ss) v has = (has && amongB ss v)) := Hd.out
    simp only
    clear Hd hrow ht hcon
    generalize holdsB (3, key, ss) v has = R at *
    generalize amongB ss v = M at *
    cases has
    · go_enter Tryz.func230, Tryz.ntmps230
      go_wp2
      go_ret
      exact ⟨ret_bool (by rw [Hn.out]; rfl), (Below.refl _ _).alloc (by simp) _⟩
    · go_enter Tryz.func230, Tryz.ntmps230
      go_wp2_with fail
      refine (Hcon.out _ (Hr.out.below ((Below.refl _ _).alloc (by simp) _))).mono ?_
      rintro e w1 ⟨rfl, rfl⟩
      go_wp2
      go_ret
      exact ⟨ret_bool (by rw [Hn.out]; rfl), (Below.refl _ _).alloc (by simp) _⟩
  · have f0 := no_hasTerm_isTerm
    have f1 := no_hasTerm_notTerm
    have f2 := no_hasTerm_inTerm
    have fy := as_hasTerm
    have Hn : Hid (holdsB (4, key, ss) v has = has) := Hd.out
    simp only
    clear Hd hrow ht hl
    generalize holdsB (4, key, ss) v has = R at *
    go_enter Tryz.func230, Tryz.ntmps230
    go_wp2
    go_ret
    exact ⟨ret_bool (by rw [Hn.out]), (Below.refl _ _).alloc (by simp) _⟩
  · have f0 := no_lacksTerm_isTerm
    have f1 := no_lacksTerm_notTerm
    have f2 := no_lacksTerm_inTerm
    have f3 := no_lacksTerm_hasTerm
    have fy := as_lacksTerm
    have Hn : Hid (holdsB (5, key, ss) v has = !has) := Hd.out
    simp only
    clear Hd hrow ht hl
    generalize holdsB (5, key, ss) v has = R at *
    go_enter Tryz.func230, Tryz.ntmps230
    go_wp2
    go_ret
    exact ⟨ret_bool (by rw [Hn.out]), (Below.refl _ _).alloc (by simp) _⟩
end Go.Proofs.YtdnodaoeflbfkaaGreat
namespace Go.Proofs.YtdnodaoeflbfkaaGreat
open Go.RowKit Go.BigFrame
open Go.ChangeShapes Go.WideShapes Go.ChangeAt

theorem labsAt.below {w w' : World} {b off : Nat} {ls : List (ByteArray × ByteArray)} (h : labsAt w b off ls) (hb : Below w.heap.size w w') : labsAt w' b off ls := by
  intro i hi
  have h0 := (h i hi).1
  have hbb : b < w.heap.size := World.block_lt_of_cell? _ _ h0
  exact ⟨(hb.cell (p := ⟨b, off + i * 2, none⟩) hbb).trans h0, (hb.cell (p := ⟨b, off + i * 2 + 1, none⟩) hbb).trans (h i hi).2⟩
theorem rowOf.below {w w' : World} {a : Option Addr} {ls : List (ByteArray × ByteArray)} (h : rowOf w a ls) (hb : Below w.heap.size w w') : rowOf w' a ls := by
  intro hl
  obtain ⟨b, off, e, h⟩ := h hl
  exact ⟨b, off, e, h.below hb⟩
theorem row_of_owns {w : World} {base g n cap : Nat} {e : TypeId} {ls : List (ByteArray × ByteArray)} (h : w.ownsRow base e 2 (.slice (some ⟨g, 0, none⟩) n cap) n (flat ls)) : rowOf w (some ⟨g, 0, none⟩) ls := by
  intro _
  refine ⟨g, 0, rfl, fun i hi => ?_⟩
  have hn : n * 2 = ls.length * 2 := by rw [← flat_length, h.1]
  have hf := flat_get ls i hi
  rw [← hf.1, ← hf.2, Nat.zero_add]
  exact ⟨h.cellAt _ (by omega), h.cellAt _ (by omega)⟩
theorem toLabelS_row (a : Option Addr) (cap : Nat) (ls : List (ByteArray × ByteArray)) (w : World) (hl : ls.length ≤ 1048576) (hrow : rowOf w a ls) :
    Calls Tryz.prog 145 #[.slice a ls.length cap] w fun e w' => ∃ g, e = .returned (.slice (some ⟨g, 0, none⟩) ls.length ls.length) ∧ rowOf w' (some ⟨g, 0, none⟩) ls ∧ Below w.heap.size w w' :=
  (toLabelS_any a cap ls w hl hrow).mono fun _ _ ⟨g, h1, h2, h3⟩ => ⟨g, h1, row_of_owns h2, h3⟩

theorem open_labs {H : Type} {enc : TypeId × Value → H} {w : World} {base : Nat} {spare : Nat → Bool} {held : Bool} {a : Option Addr} {len cap : Nat} {fuel : Nat} {x : DataW H × List MemPlace}
    (h : DataW.trod enc Tryz.prog w base spare held fuel 104 [.slice a len cap] = some x) :
    ∃ ls : List (ByteArray × ByteArray), len = ls.length ∧ ls.length ≤ maxLen ∧ okSizes ls ∧ rowOf w a ls := by
  rcases Go.Deep.open_slice_pairs Tryz.underlying104 Tryz.underlying241 (by kernel_rfl) rfl rfl (by kernel_rfl) (by kernel_rfl) h with ⟨hcs, _⟩ | ⟨a', len', cap', m, n, V0, V1, D0, D1, P0, P1, hcs, _, hl, hm, hmm, _, hx⟩
  · simp at hcs
    obtain ⟨rfl, rfl, rfl⟩ := hcs
    exact ⟨[], rfl, Nat.zero_le _, fun p hp => by simp at hp, fun h => by simp at h⟩
  · simp at hcs
    obtain ⟨rfl, rfl, rfl⟩ := hcs
    have each : ∀ i, i < len → ∃ q : ByteArray × ByteArray, V0 i = .string q.1 ∧ V1 i = .string q.2 ∧ q.1.size ≤ maxLen ∧ q.2.size ≤ maxLen := fun i hi => by
      have hi' : i < m := by rw [hmm]; split <;> omega
      obtain ⟨s, h1, _, h3⟩ := DataW.trod_string Tryz.underlying9 (hx i hi').2.2.1
      obtain ⟨t, g1, _, g3⟩ := DataW.trod_string Tryz.underlying9 (hx i hi').2.2.2
      exact ⟨(s, t), by simpa using h1, by simpa using g1, h3, g3⟩
    obtain ⟨q, hq⟩ := Go.Deep.choose_lt each
    refine ⟨(List.range len).map q, by simp, by simp; omega, ?_, ?_⟩
    · intro p hp
      obtain ⟨i, hi, rfl⟩ := List.mem_map.1 hp
      exact (hq i (List.mem_range.1 hi)).2.2
    · intro h0
      simp only [List.length_map, List.length_range] at h0
      obtain ⟨b, off, spot⟩ := a'
      have hc := (hx 0 (by rw [hmm]; split <;> omega)).1
      have hspot : spot = none := by simpa [Addr.add] using World.cell?_spot hc
      subst hspot
      refine ⟨b, off, rfl, fun i hi => ?_⟩
      simp only [List.length_map, List.length_range] at hi
      have hi' : i < m := by rw [hmm]; split <;> omega
      have e0 := (hx i hi').1
      have e1 := (hx i hi').2.1
      rw [(hq i hi).1] at e0
      rw [(hq i hi).2.1] at e1
      simp only [List.getElem_map, List.getElem_range]
      rw [Go.WideShapes.add_plain] at e0 e1
      exact ⟨e0, by rw [Nat.add_assoc]; exact e1⟩

theorem szOne_ok {k v : Nat} {l : Int} (h : ¬ szOne k v l < 0) : szOne k v l = l - k - v := by
  unfold szOne at *
  split at h
  · omega
  · split at h
    · omega
    · rw [if_neg (by assumption), if_neg (by assumption)]
def lenSum (ls : List (ByteArray × ByteArray)) : Nat := (ls.map fun p => p.1.size + p.2.size).sum
theorem szAll_ok : ∀ (ls : List (ByteArray × ByteArray)) (l : Int), 0 ≤ l → ¬ szAll ls l < 0 → (lenSum ls : Int) ≤ l
  | [], l, h0, _ => by simpa [lenSum] using h0
  | p :: r, l, h0, h => by
    unfold szAll at h
    split at h
    · omega
    · rename_i hn
      have e := szOne_ok hn
      have := szAll_ok r _ (by omega) h
      have e2 : lenSum (p :: r) = p.1.size + p.2.size + lenSum r := by simp [lenSum]
      rw [e2, Int.natCast_add, Int.natCast_add]
      omega
theorem szS_ok {ls : List (ByteArray × ByteArray)} {left : Int} (h : ¬ szS ls left < 0) : (ls.length : Int) + lenSum ls ≤ left := by
  unfold szS at h
  split at h
  · omega
  · have := szAll_ok ls _ (by omega) h
    omega
theorem szS_len' {ls : List (ByteArray × ByteArray)} {l : Int} (h : ¬ szS ls l < 0) (hl : l ≤ 1048576) : ls.length ≤ 1048576 := by have := szS_ok h; omega
theorem szS_len {ls : List (ByteArray × ByteArray)} (h : ¬ szS ls 1048576 < 0) : ls.length ≤ 1048576 := szS_len' h (by omega)
theorem szAll_le : ∀ (ls : List (ByteArray × ByteArray)) (l : Int), szAll ls l ≤ l ∨ szAll ls l = -1
  | [], l => .inl (Int.le_refl _)
  | p :: r, l => by
    unfold szAll
    split
    · exact .inr rfl
    · rcases szAll_le r (szOne p.1.size p.2.size l) with h | h
      · rcases szOne_le p.1.size p.2.size l with h' | h'
        · left; omega
        · left; omega
      · exact .inr h
theorem szS_le (ls : List (ByteArray × ByteArray)) (l : Int) : szS ls l ≤ l ∨ szS ls l = -1 := by
  unfold szS
  split
  · exact .inr rfl
  · rcases szAll_le ls (l - ls.length) with h | h
    · left; omega
    · exact .inr h
end Go.Proofs.YtdnodaoeflbfkaaGreat
namespace Go.Proofs.YtdnodaoeflbfkaaGreat
open Go.RowKit Go.BigFrame
set_option linter.unusedVariables false

def getV (ls : List (ByteArray × ByteArray)) (key : ByteArray) : ByteArray := ((ls.find? fun p => decide (p.1 = key)).map (·.2)).getD ByteArray.empty
def getH (ls : List (ByteArray × ByteArray)) (key : ByteArray) : Bool := (ls.find? fun p => decide (p.1 = key)).isSome
def noneTo (ls : List (ByteArray × ByteArray)) (key : ByteArray) (k : Nat) : Prop := ∀ j, j < k → keyAt ls j ≠ key
theorem find_hit : ∀ (ls : List (ByteArray × ByteArray)) (key : ByteArray) (k : Nat), k < ls.length → noneTo ls key k → keyAt ls k = key → ls.find? (fun p => decide (p.1 = key)) = some (keyAt ls k, valAt ls k)
  | [], _, _, h, _, _ => by simp at h
  | p :: r, key, 0, _, _, h2 => by
    obtain ⟨pk, pv⟩ := p
    have : pk = key := h2
    simp [this, keyAt, valAt]
  | p :: r, key, k + 1, h, h1, h2 => by
    have h0 : p.1 ≠ key := h1 0 (by omega)
    rw [List.find?_cons, decide_eq_false h0]
    exact find_hit r key k (by simpa using h) (fun j hj => h1 (j + 1) (by omega)) h2
theorem get_hit {ls : List (ByteArray × ByteArray)} {key : ByteArray} {k : Nat} (h : k < ls.length) (h1 : noneTo ls key k) (h2 : keyAt ls k = key) : getV ls key = valAt ls k ∧ getH ls key = true := by
  unfold getV getH
  rw [find_hit ls key k h h1 h2]
  exact ⟨rfl, rfl⟩
theorem get_none {ls : List (ByteArray × ByteArray)} {key : ByteArray} (h1 : noneTo ls key ls.length) : getV ls key = ByteArray.empty ∧ getH ls key = false := by
  have : ls.find? (fun p => decide (p.1 = key)) = none := by
    rw [List.find?_eq_none]
    intro p hp
    obtain ⟨i, hi, rfl⟩ := List.getElem_of_mem hp
    have := h1 i hi
    unfold keyAt at this
    rw [List.getElem?_eq_getElem hi] at this
    simpa using this
  unfold getV getH
  rw [this]
  exact ⟨rfl, rfl⟩
theorem noneTo_succ {ls : List (ByteArray × ByteArray)} {key : ByteArray} {k : Nat} (h : noneTo ls key k) (hk : keyAt ls k ≠ key) : noneTo ls key (k + 1) := by
  intro j hj
  by_cases e : j = k
  · rw [e]; exact hk
  · exact h j (by omega)
theorem ret_sb {s t : ByteArray} {a b : Bool} (h : s = t ∧ a = b) : Ending.returned (.tuple #[.string s, .bool a]) = .returned (.tuple #[.string t, .bool b]) := by rw [h.1, h.2]

theorem slabelGet_any (a : Option Addr) (cap : Nat) (ls : List (ByteArray × ByteArray)) (key : ByteArray) (w : World) (hl : ls.length ≤ maxLen) (hrow : rowOf w a ls) :
    Calls Tryz.prog 195 #[.slice a ls.length cap, .string key] w fun e w' => e = .returned (.tuple #[.string (getV ls key), .bool (getH ls key)]) ∧ Below w.heap.size w w' := by
  unfold maxLen at hl
  have Hr : Hid (rowOf w a ls) := hrow
  clear hrow
  go_enter Tryz.func195, Tryz.ntmps195
  go_wp2
  go_loopw [6] (fun i wr => ∃ (k : Nat), k ≤ ls.length ∧ i = .int .i64 k ∧ Hid (noneTo ls key k) ∧ Below w.heap.size w wr) (fun i _ => ls.length - (intOf i).toNat)
  case atStart => exact ⟨0, Nat.zero_le _, rfl, fun j hj => by omega, Below.refl _ _⟩
  case round =>
    obtain ⟨k, hk, rfl, Hx, hbw⟩ := hrel
    by_cases hlt : k < ls.length
    · obtain ⟨b, off, rfl, hat⟩ := Hr.out (by omega)
      have hc := cellsOf_of hat
      have hbb : b < w.heap.size := World.block_lt_of_cell? _ _ (hat k hlt).1
      have c0 := (hbw.cell (p := ⟨b, off + k * 2, none⟩) hbb).trans (hc k hlt).1
      have c2 := (hbw.cell (p := ⟨b, off + k * 2 + 1, none⟩) hbb).trans (hc k hlt).2
      have he := beq_str (keyAt ls k) key
      clear hat hc Hr
      by_cases hq : keyAt ls k = key
      · rw [decide_eq_true hq] at he
        have Hn := hide (get_hit hlt Hx.out hq)
        clear Hx hq
        generalize keyAt ls k = K at *
        generalize valAt ls k = V at *
        go_wp2
        go_ret2
        exact ⟨ret_sb ⟨Hn.out.1.symm, Hn.out.2.symm⟩, hbw⟩
      · rw [decide_eq_false hq] at he
        have Hn := hide (noneTo_succ Hx.out hq)
        clear Hx hq
        generalize keyAt ls k = K at *
        generalize valAt ls k = V at *
        go_wp2
        go_roundw
        case rel => exact ⟨k + 1, by omega, by go_num, Hn, hbw⟩
        case measure => simp [intOf]; omega
    · have e : k = ls.length := by omega
      subst e
      have Hn := hide (get_none Hx.out)
      clear Hx Hr
      go_wp2
      go_ret2
      exact ⟨ret_sb ⟨Hn.out.1.symm, Hn.out.2.symm⟩, hbw⟩

theorem ilabelGet_any (a : Option Addr) (cap : Nat) (ls : List (ByteArray × ByteArray)) (key : ByteArray) (w : World) (hl : ls.length ≤ maxLen) (hrow : rowOf w a ls) :
    Calls Tryz.prog 229 #[.slice a ls.length cap, .string key] w fun e w' => e = .returned (.tuple #[.string (getV ls key), .bool (getH ls key)]) ∧ Below w.heap.size w w' := by
  unfold maxLen at hl
  have Hr : Hid (rowOf w a ls) := hrow
  clear hrow
  go_enter Tryz.func229, Tryz.ntmps229
  go_wp2
  go_loopw [10] (fun i wr => ∃ (k : Nat), k ≤ ls.length ∧ i = .int .i64 k ∧ Hid (noneTo ls key k) ∧ Below w.heap.size w wr) (fun i _ => ls.length - (intOf i).toNat)
  case atStart => exact ⟨0, Nat.zero_le _, rfl, fun j hj => by omega, Below.refl _ _⟩
  case round =>
    obtain ⟨k, hk, rfl, Hx, hbw⟩ := hrel
    by_cases hlt : k < ls.length
    · obtain ⟨b, off, rfl, hat⟩ := Hr.out (by omega)
      have hc := cellsOf_of hat
      have hbb : b < w.heap.size := World.block_lt_of_cell? _ _ (hat k hlt).1
      have c0 := (hbw.cell (p := ⟨b, off + k * 2, none⟩) hbb).trans (hc k hlt).1
      have c2 := (hbw.cell (p := ⟨b, off + k * 2 + 1, none⟩) hbb).trans (hc k hlt).2
      have he := beq_str (keyAt ls k) key
      clear hat hc Hr
      by_cases hq : keyAt ls k = key
      · rw [decide_eq_true hq] at he
        have Hn := hide (get_hit hlt Hx.out hq)
        clear Hx hq
        generalize keyAt ls k = K at *
        generalize valAt ls k = V at *
        go_wp2
        go_ret2
        exact ⟨ret_sb ⟨Hn.out.1.symm, Hn.out.2.symm⟩, hbw.alloc hbw.size _⟩
      · rw [decide_eq_false hq] at he
        have Hn := hide (noneTo_succ Hx.out hq)
        clear Hx hq
        generalize keyAt ls k = K at *
        generalize valAt ls k = V at *
        go_wp2
        go_roundw
        case rel => exact ⟨k + 1, by omega, by go_num, Hn, hbw.alloc hbw.size _⟩
        case measure => simp [intOf]; omega
    · have e : k = ls.length := by omega
      subst e
      have Hn := hide (get_none Hx.out)
      clear Hx Hr
      go_wp2
      go_ret2
      exact ⟨ret_sb ⟨Hn.out.1.symm, Hn.out.2.symm⟩, hbw⟩
end Go.Proofs.YtdnodaoeflbfkaaGreat
/- spec.Matches and impl.Matches. -/
namespace Go.Proofs.YtdnodaoeflbfkaaGreat
open Go.RowKit Go.BigFrame
set_option linter.unusedVariables false

def hitB (ls : List (ByteArray × ByteArray)) (t : TD) : Bool := holdsB t (getV ls t.2.1) (getH ls t.2.1)
def matchB (ts : List TD) (ls : List (ByteArray × ByteArray)) : Bool := selB ts && labelsB ls && ts.all (hitB ls)
theorem matchB_sel {ts : List TD} {ls : List (ByteArray × ByteArray)} (h : selB ts = false) : matchB ts ls = false := by unfold matchB; rw [h]; rfl
theorem matchB_lab {ts : List TD} {ls : List (ByteArray × ByteArray)} (h : labelsB ls = false) : matchB ts ls = false := by unfold matchB; rw [h, Bool.and_false]; rfl
theorem matchB_hit {ts : List TD} {ls : List (ByteArray × ByteArray)} {k : Nat} (hk : k < ts.length) (h : hitB ls (ts[k]'hk) = false) : matchB ts ls = false := by
  unfold matchB
  have : ts.all (hitB ls) = false := by
    rw [List.all_eq_false]
    exact ⟨_, List.getElem_mem hk, by rw [h]; simp⟩
  rw [this, Bool.and_false]
theorem matchB_end {ts : List TD} {ls : List (ByteArray × ByteArray)} (h1 : selB ts = true) (h2 : labelsB ls = true) (h : ∀ i (hi : i < ts.length), hitB ls (ts[i]'hi) = true) : matchB ts ls = true := by
  unfold matchB
  rw [h1, h2, Bool.true_and, Bool.true_and, List.all_eq_true]
  intro t ht
  obtain ⟨i, hi, rfl⟩ := List.getElem_of_mem ht
  exact h i hi

set_option maxHeartbeats 400000 in
theorem smatches_any (a : Option Addr) (cap : Nat) (ts : List TD) (a' : Option Addr) (cap' : Nat) (ls : List (ByteArray × ByteArray)) (w : World) (hl : ts.length ≤ maxLen) (hz : okTerms ts) (hrow : termsOf w a ts) (hl' : ls.length ≤ maxLen) (hz' : okSizes ls) (hrow' : rowOf w a' ls) :
    Calls Tryz.prog 140 #[.slice a ts.length cap, .slice a' ls.length cap'] w fun e w' => e = .returned (.bool (matchB ts ls)) ∧ Below w.heap.size w w' := by
  have hl0 := hl
  unfold maxLen at hl
  have Hr := hide hrow
  have Hz := hide hz
  have Hr' := hide hrow'
  have Hz' := hide hz'
  have hA := fun wx hx => sselOk_any a cap ts wx hl0 hz hx
  have hB := fun wx hx => slabelsOk_any a' cap' ls wx hl' hz' hx
  clear hrow hz hrow' hz' hl0
  cases h1 : selB ts
  · rw [h1] at hA
    have HA := hide hA
    have Hn := hide (matchB_sel (ls := ls) h1)
    clear hA hB h1
    go_enter Tryz.func140, Tryz.ntmps140
    go_wp2_with fail
    refine (HA.out _ Hr.out).mono ?_
    rintro e w1 ⟨rfl, hb1⟩
    go_wp2
    go_ret
    exact ⟨ret_bool Hn.out.symm, hb1⟩
  rw [h1] at hA
  have HA := hide hA
  cases h2 : labelsB ls
  · rw [h2] at hB
    have HB := hide hB
    have Hn := hide (matchB_lab (ts := ts) h2)
    clear hA hB h1 h2
    go_enter Tryz.func140, Tryz.ntmps140
    go_wp2_with fail
    refine (HA.out _ Hr.out).mono ?_
    rintro e w1 ⟨rfl, hb1⟩
    have Hr1' := hide (Hr'.out.below hb1)
    go_wp2_with fail
    refine (HB.out _ Hr1'.out).mono ?_
    rintro e w2 ⟨rfl, hn2⟩
    have hb2 : Below w.heap.size w w2 := by obtain ⟨n, rfl⟩ := hn2; exact below_drewN hb1 n
    clear hn2
    go_wp2
    go_ret
    exact ⟨ret_bool Hn.out.symm, hb2⟩
  rw [h2] at hB
  have HB := hide hB
  have He : Hid ((∀ i (hi : i < ts.length), hitB ls (ts[i]'hi) = true) → matchB ts ls = true) := matchB_end h1 h2
  clear hA hB h1 h2
  go_enter Tryz.func140, Tryz.ntmps140
  go_wp2_with fail
  refine (HA.out _ Hr.out).mono ?_
  rintro e w1 ⟨rfl, hb1⟩
  have Hr1' := hide (Hr'.out.below hb1)
  go_wp2_with fail
  refine (HB.out _ Hr1'.out).mono ?_
  rintro e w2 ⟨rfl, hn2⟩
  have hb2 : Below w.heap.size w w2 := by obtain ⟨n, rfl⟩ := hn2; exact below_drewN hb1 n
  clear hn2
  go_wp2
  go_loopw [5] (fun i wr => ∃ (k : Nat), k ≤ ts.length ∧ i = .int .i64 k ∧ Hid (∀ j (hj : j < ts.length), j < k → hitB ls (ts[j]'hj) = true) ∧ Below w.heap.size w wr) (fun i _ => ts.length - (intOf i).toNat)
  case atStart => exact ⟨0, Nat.zero_le _, rfl, fun j hj h => by omega, hb2⟩
  case round =>
    obtain ⟨k, hk, rfl, Hx, hbw⟩ := hrel
    by_cases hlt : k < ts.length
    · obtain ⟨b, off, rfl, hat⟩ := Hr.out (by omega)
      obtain ⟨h0c, h1c, av, capv, h2c, h3c⟩ := (hat k hlt).below hbw
      have hz := (Hz.out _ (List.getElem_mem hlt))
      have Hb : Hid (hitB ls (ts[k]'hlt) = false → matchB ts ls = false) := fun h => matchB_hit hlt h
      have Hs : Hid (hitB ls (ts[k]'hlt) = true → ∀ j (hj : j < ts.length), j < k + 1 → hitB ls (ts[j]'hj) = true) := fun h j hj hjk => by
        by_cases e : j = k
        · subst e; exact h
        · exact Hx.out j hj (by omega)
      have Ht : Hid (termAt wr b (off + k * 3) (ts[k]'hlt)) := (hat k hlt).below hbw
      clear hat Hx h3c h2c h1c h0c
      generalize ts[k]'hlt = t at *
      obtain ⟨kd, key, ss⟩ := t
      have h1c := Ht.out.2.1
      simp only at h1c
      have hG := slabelGet_any a' cap' ls key wr hl' (Hr'.out.below hbw)
      have hH := fun v has av capv (wx : World) (hx : strOf wx av ss) => sholds_any (kd, key, ss) v has av capv wx hz.2.1 hx
      have HG := hide hG
      have HH := hide hH
      have Hq : Hid (hitB ls (kd, key, ss) = holdsB (kd, key, ss) (getV ls key) (getH ls key)) := rfl
      clear hG hH hz
      generalize getV ls key = v at *
      generalize getH ls key = has at *
      go_wp2_with fail
      refine HG.out.mono ?_
      rintro e w3 ⟨rfl, hb3⟩
      obtain ⟨g0, g1, av, capv, g2, g3⟩ := Ht.out.below hb3
      simp only at g0 g1 g2 g3
      have Hg3 := hide g3.1
      have hbw3 := hbw.trans (hb3.mono hbw.size)
      clear g3 hb3
      have hH2 := HH.out v has av capv w3 Hg3.out
      generalize hq : holdsB (kd, key, ss) v has = R at *
      have HH2 := hide hH2
      clear hq hH2 HH
      cases R
      · have Hn := hide (Hb.out Hq.out)
        clear Hb Hs
        go_wp2_with fail
        refine HH2.out.mono ?_
        rintro e w4 ⟨rfl, hb4⟩
        go_wp2
        go_ret
        exact ⟨ret_bool Hn.out.symm, hbw3.trans (hb4.mono hbw3.size)⟩
      · have Hn := hide (Hs.out Hq.out)
        clear Hb Hs
        go_wp2_with fail
        refine HH2.out.mono ?_
        rintro e w4 ⟨rfl, hb4⟩
        go_wp2
        go_roundw
        case rel => exact ⟨k + 1, by omega, by go_num, Hn, hbw3.trans (hb4.mono hbw3.size)⟩
        case measure => simp [intOf]; omega
    · have e : k = ts.length := by omega
      subst e
      have Hn : Hid (matchB ts ls = true) := He.out fun i hi => Hx.out i hi hi
      clear Hx Hr Hz
      go_wp2
      go_ret
      exact ⟨ret_bool Hn.out.symm, hbw⟩

theorem ab_isTerm (k v : ByteArray) (w : World) : (method 456 296 (.agg #[.string k, .string v]) "loop.example/g00119/impl.about").run Tryz.prog w = .ok (287, .agg #[.string k]) w := by kernel_rfl
theorem ab_notTerm (k v : ByteArray) (w : World) : (method 456 297 (.agg #[.string k, .string v]) "loop.example/g00119/impl.about").run Tryz.prog w = .ok (287, .agg #[.string k]) w := by kernel_rfl
theorem ab_inTerm (k : ByteArray) (a : Option Addr) (n c : Nat) (w : World) : (method 456 299 (.agg #[.string k, .slice a n c]) "loop.example/g00119/impl.about").run Tryz.prog w = .ok (287, .agg #[.string k]) w := by kernel_rfl
theorem ab_hasTerm (k : ByteArray) (w : World) : (method 456 301 (.agg #[.string k]) "loop.example/g00119/impl.about").run Tryz.prog w = .ok (287, .agg #[.string k]) w := by kernel_rfl
theorem ab_lacksTerm (k : ByteArray) (w : World) : (method 456 302 (.agg #[.string k]) "loop.example/g00119/impl.about").run Tryz.prog w = .ok (287, .agg #[.string k]) w := by kernel_rfl
theorem tkey_any (key : ByteArray) (w : World) : Calls Tryz.prog 287 #[.agg #[.string key]] w fun e w' => e = .returned (.string key) ∧ Below w.heap.size w w' := by
  go_enter Tryz.func287, Tryz.ntmps287
  go_wp2
  go_ret
  exact ⟨rfl, (Below.refl _ _).alloc (by simp) _⟩
theorem about_of {u : Value} {t : TD} {a : Option Addr} {cap : Nat} (hu : isV u t a cap) : ∃ ty iv rv, u = .iface ty iv ∧ (∀ w, (method 456 ty iv "loop.example/g00119/impl.about").run Tryz.prog w = .ok (287, rv) w) ∧
    ∀ w, Calls Tryz.prog 287 #[rv] w fun e w' => e = .returned (.string t.2.1) ∧ Below w.heap.size w w' := by
  rcases hu with ⟨_, rfl⟩ | ⟨_, rfl⟩ | ⟨_, rfl⟩ | ⟨_, rfl⟩ | ⟨_, rfl⟩
  · exact ⟨_, _, _, rfl, fun w => ab_isTerm _ _ w, fun w => tkey_any _ w⟩
  · exact ⟨_, _, _, rfl, fun w => ab_notTerm _ _ w, fun w => tkey_any _ w⟩
  · exact ⟨_, _, _, rfl, fun w => ab_inTerm _ _ _ _ w, fun w => tkey_any _ w⟩
  · exact ⟨_, _, _, rfl, fun w => ab_hasTerm _ w, fun w => tkey_any _ w⟩
  · exact ⟨_, _, _, rfl, fun w => ab_lacksTerm _ w, fun w => tkey_any _ w⟩
set_option maxRecDepth 100000 in
set_option maxHeartbeats 400000 in
theorem imatches_any (a : Option Addr) (cap : Nat) (ts : List TD) (a' : Option Addr) (cap' : Nat) (ls : List (ByteArray × ByteArray)) (w : World) (hl : ts.length ≤ maxLen) (hz : ∀ t ∈ ts, t.2.2.length ≤ maxLen) (hrow : termsOf w a ts) (hl' : ls.length ≤ maxLen) (hrow' : rowOf w a' ls) :
    Calls Tryz.prog 204 #[.slice a ts.length cap, .slice a' ls.length cap'] w fun e w' => e = .returned (.bool (matchB ts ls)) ∧ Below w.heap.size w w' := by
  have hA := itermsOf_any a cap ts w hl hz hrow
  have hB := fun wx hx => ilabelsOk_any a' cap' ls wx hl' hx
  have HA := hide hA
  have Hz := hide hz
  have Hr' := hide hrow'
  unfold maxLen at hl
  clear hA hrow hrow' hz
  go_enter Tryz.func204, Tryz.ntmps204
  go_wp2_with fail
  refine HA.out.mono ?_
  rintro e w1 ⟨⟨hb, g, cp, rfl, hi⟩ | ⟨hb, rfl⟩, hb1⟩
  rotate_left
  · have Hn := hide (matchB_sel (ls := ls) hb)
    clear hb hB HA
    go_wp2
    go_ret
    exact ⟨ret_bool Hn.out.symm, hb1⟩
  have Hr1' := hide (Hr'.out.below hb1)
  cases h2 : labelsB ls
  · rw [h2] at hB
    have HB := hide hB
    have Hn := hide (matchB_lab (ts := ts) h2)
    clear hb h2 hB HA
    go_wp2_with fail
    refine (HB.out _ Hr1'.out).mono ?_
    rintro e w2 ⟨rfl, hb2⟩
    go_wp2
    go_ret
    exact ⟨ret_bool Hn.out.symm, hb1.trans (hb2.mono hb1.size)⟩
  rw [h2] at hB
  have HB := hide hB
  have Hi := hide hi
  have He : Hid ((∀ i (hi : i < ts.length), hitB ls (ts[i]'hi) = true) → matchB ts ls = true) := matchB_end hb h2
  have Hsel := hide hb
  clear hb h2 hB HA hi
  go_wp2_with fail
  refine (HB.out _ Hr1'.out).mono ?_
  rintro e w2 ⟨rfl, hb2⟩
  have Hi2 := hide (Hi.out.below hb2)
  have hbw2 := hb1.trans (hb2.mono hb1.size)
  clear Hi hb2
  go_wp2
  go_loopw [25] (fun i wr => ∃ (k : Nat), k ≤ ts.length ∧ i = .int .i64 k ∧ Hid (∀ j (hj : j < ts.length), j < k → hitB ls (ts[j]'hj) = true) ∧ Below w.heap.size w wr ∧ Hid (Below w2.heap.size w2 wr)) (fun i _ => ts.length - (intOf i).toNat)
  case atStart => exact ⟨0, Nat.zero_le _, rfl, fun j hj h => by omega, hbw2, Below.refl _ _⟩
  case round =>
    obtain ⟨k, hk, rfl, Hx, hbw, Hb2⟩ := hrel
    by_cases hlt : k < ts.length
    · obtain ⟨b, off, hbo, hat⟩ := (Hi2.out.below Hb2.out) (by omega)
      simp only [Option.some.injEq, Addr.mk.injEq, and_true] at hbo
      obtain ⟨rfl, rfl⟩ := hbo
      obtain ⟨u, hc, av, capv, hu, hs⟩ := hat k hlt
      rw [Nat.zero_add] at hc
      have htb := selB_mem Hsel.out hlt
      have hz := Hz.out _ (List.getElem_mem hlt)
      have Hb : Hid (hitB ls (ts[k]'hlt) = false → matchB ts ls = false) := fun h => matchB_hit hlt h
      have Hs : Hid (hitB ls (ts[k]'hlt) = true → ∀ j (hj : j < ts.length), j < k + 1 → hitB ls (ts[j]'hj) = true) := fun h j hj hjk => by
        by_cases e : j = k
        · subst e; exact h
        · exact Hx.out j hj (by omega)
      clear hat Hx
      generalize ts[k]'hlt = t at *
      obtain ⟨kd, key, ss⟩ := t
      obtain ⟨ty, iv, rv, rfl, ab, hta⟩ := about_of hu
      have Hta := hide hta
      have Hg : Hid (∀ wx, Below w.heap.size w wx → Calls Tryz.prog 229 #[.slice a' ls.length cap', .string key] wx fun e w' => e = .returned (.tuple #[.string (getV ls key), .bool (getH ls key)]) ∧ Below wx.heap.size wx w') := fun wx hx => ilabelGet_any a' cap' ls key wx hl' (Hr'.out.below hx)
      have Hh : Hid (∀ v has wx, Below wr.heap.size wr wx → Calls Tryz.prog 230 #[.iface ty iv, .string v, .bool has] wx fun e w' => e = .returned (.bool (holdsB (kd, key, ss) v has)) ∧ Below wx.heap.size wx w') :=
        fun v has wx hx => iholds_any (kd, key, ss) _ v has av capv wx htb hz hu (hs.1.below hx)
      have Hq : Hid (hitB ls (kd, key, ss) = holdsB (kd, key, ss) (getV ls key) (getH ls key)) := rfl
      clear hta hu hs htb hz
      generalize getV ls key = v at *
      generalize getH ls key = has at *
      go_wp2_with fail
      refine (Hta.out _).mono ?_
      rintro e w3 ⟨rfl, hb3⟩
      have hbw3 := hbw.trans (hb3.mono hbw.size)
      clear ab
      go_wp2_with fail
      refine (Hg.out _ hbw3).mono ?_
      rintro e w4 ⟨rfl, hb4⟩
      have hbw4 := hbw3.trans (hb4.mono hbw3.size)
      have Hb4 : Hid (Below wr.heap.size wr w4) := hb3.trans (hb4.mono hb3.size)
      clear hb3 hb4
      have hh4 := Hh.out v has w4 Hb4.out
      generalize hq : holdsB (kd, key, ss) v has = R at *
      have Hh4 := hide hh4
      clear hq hh4 Hh
      cases R
      · have Hn := hide (Hb.out Hq.out)
        clear Hb Hs
        go_wp2_with fail
        refine Hh4.out.mono ?_
        rintro e w5 ⟨rfl, hb5⟩
        go_wp2
        go_ret
        exact ⟨ret_bool Hn.out.symm, hbw4.trans (hb5.mono hbw4.size)⟩
      · have Hn := hide (Hs.out Hq.out)
        clear Hb Hs
        go_wp2_with fail
        refine Hh4.out.mono ?_
        rintro e w5 ⟨rfl, hb5⟩
        go_wp2
        go_roundw
        case rel => exact ⟨k + 1, by omega, by go_num, Hn, hbw4.trans (hb5.mono hbw4.size), Hb2.out.trans ((Hb4.out.trans (hb5.mono Hb4.out.size)).mono Hb2.out.size)⟩
        case measure => simp [intOf]; omega
    · have e : k = ts.length := by omega
      subst e
      have Hn : Hid (matchB ts ls = true) := He.out fun i hi => Hx.out i hi hi
      clear Hx Hi2
      go_wp2
      go_ret
      exact ⟨ret_bool Hn.out.symm, hbw⟩
end Go.Proofs.YtdnodaoeflbfkaaGreat
/- Data as cells: the helpers of the laws over rows of texts, numbers and bytes. -/
namespace Go.Proofs.YtdnodaoeflbfkaaGreat
open Go.RowKit Go.BigFrame
set_option linter.unusedVariables false

theorem infoU {P : Program} {t : TypeId} {z : Value} {k b : Nat} (h : (P.info? t).map (fun i => (i.zero, i.size, i.bytes)) = some (some z, k, b)) : ∃ i, P.info? t = some i ∧ i.zero = some z ∧ i.size = k ∧ i.bytes = b := by
  cases e : P.info? t with
  | none => rw [e] at h; cases h
  | some i => rw [e] at h; simp at h; exact ⟨i, rfl, h.1, h.2.1, h.2.2⟩
theorem tyS.one {n : Nat} {cs : UD} {t : Nat} {q : Nat} (h : tyS 1 n cs t) (hq : q < n) : tyL (rowU cs 1 q) (uE t) := h.row hq
theorem row1 {w : World} {lo hi b off : Nat} {cs : UD} (h : uM w lo hi cs b off) (q : Nat) {v : Value} (hr : rowU cs 1 q = .p v .nil) : w.cell? ⟨b, off + q, none⟩ = some v := by
  have := h.row 1 q
  rw [hr, Nat.mul_one] at this
  exact this.1
theorem at1 {cs : UD} {k q : Nat} {v : Value} (hk : k = 1) (hr : rowU cs k q = .p v .nil) : cs.at? q = some (.p v) := by
  subst hk
  have := rowU_at cs 1 q 0 (by omega)
  rw [hr, Nat.mul_one, Nat.add_zero] at this
  rw [← this]; rfl
theorem uconv_one (w : World) (x : Int) : (convert 208 9 (.slice (some ⟨w.heap.size, 0, none⟩) 1 1)).run Tryz.prog (w.alloc (.cells #[.int .u8 x] 5)) =
    .ok (.string ([x].foldl (fun r n => r.push (UInt8.ofNat n.toNat)) ByteArray.empty)) (w.alloc (.cells #[.int .u8 x] 5)) := by
  rw [run_convert_bytes_string _ _ _ _ _ _ _ Tryz.underlying208 Tryz.underlying5 Tryz.underlying9, run_bytesToString _ _ 1 1 [x]]
  simp [loadCells, go_sem]
set_option maxHeartbeats 400000 in
theorem umarkText_any (n : Nat) (w : World) (hn : n ≤ 1000000000) (h1 : 1 ≤ n) :
    Calls Tryz.prog 84 #[.int .i64 n] w fun e w' => e = .returned (.string (umtx n)) ∧ Below w.heap.size w w' := by
  have hpos : ¬ (n : Int) ≤ 0 := by omega
  have HT : Hid (umtx n = ⟨#[109]⟩ ++ umTo n n ⟨#[]⟩) := rfl
  go_enter Tryz.func84, Tryz.ntmps84
  go_wp2
  go_loopw [0, 3] (fun i v wr => ∃ (k : Nat) (s : ByteArray), k ≤ n ∧ i = .int .i64 k ∧ v = .string s ∧ s.size ≤ n - k ∧ Hid (∃ f, k ≤ f ∧ umTo f k s = umTo n n ⟨#[]⟩) ∧ Below w.heap.size w wr) (fun i _ _ => (intOf i).toNat)
  case atStart => exact ⟨n, _, by omega, rfl, rfl, Nat.zero_le _, ⟨n, Nat.le_refl _, rfl⟩, Below.refl _ _⟩
  case round =>
    obtain ⟨k, s, hk, rfl, rfl, hs, Hx, hbw⟩ := hrel
    by_cases hlt : 0 < k
    · have hlt' : (0 : Int) < (k : Int) := by omega
      have hcv := uconv_one wr (48 + (k : Int) % 10)
      have hd : ([48 + (k : Int) % 10]).foldl (fun r n => r.push (UInt8.ofNat n.toNat)) ByteArray.empty = umStep k := rfl
      rw [hd] at hcv
      have hds := umStep_size k
      have Hn : Hid (∃ f, k / 10 ≤ f ∧ umTo f (k / 10) (umStep k ++ s) = umTo n n ⟨#[]⟩) := by
        obtain ⟨f, hf, he⟩ := Hx.out
        cases f with
        | zero => omega
        | succ f => exact ⟨f, by omega, by rw [← he, umTo, if_neg (by omega)]⟩
      clear hd Hx
      generalize umStep k = D at *
      have hsz : (D ++ s).size ≤ n - k / 10 := by rw [ByteArray.size_append, hds]; omega
      have hds' : D.size ≤ 1 := by omega
      clear hds
      go_wp2
      go_roundw
      case rel => exact ⟨k / 10, _, by omega, by go_num, rfl, hsz, Hn, hbw.alloc hbw.size _⟩
      case measure => simp [intOf]; omega
    · have e : k = 0 := by omega
      subst e
      have Hs : Hid (umTo n n ⟨#[]⟩ = s) := by obtain ⟨f, _, he⟩ := Hx.out; show _ = _; rw [← he, umTo_zero]
      clear Hx
      go_wp2
      go_ret
      exact ⟨by rw [HT.out, Hs.out]; rfl, hbw⟩
def plainF (fs : List UF) : Bool := fs.all fun f => match f with | .i _ => true | .b => true | _ => false
theorem wt_plainU {fs : List UF} (hp : plainF fs = true) : ∀ (d : UD) (i : Nat), tyU d fs i → wt d = 0
  | .nil, _, _ => rfl
  | .p v r, i, ⟨⟨f, h1, h2⟩, h3⟩ => by
    have hf := List.all_eq_true.1 hp f (List.mem_of_getElem? h1)
    rw [wt, wt_plainU hp r (i + 1) h3]
    cases f with
    | i k => obtain ⟨z, rfl, _⟩ := h2; rfl
    | s => cases hf
    | b => obtain ⟨z, rfl⟩ := h2; rfl
    | l k t => cases hf
  | .l k n cs r, i, ⟨⟨t, h1, h2⟩, h3⟩ => by
    have hf := List.all_eq_true.1 hp _ (List.mem_of_getElem? h1)
    cases hf
theorem wt_plain {k n : Nat} {cs : UD} {t : Nat} (h : tyS k n cs t) (hp : plainF (uE t) = true) : wt cs = 0 := wt_plainU hp cs 0 h.2.2.2.2
theorem uszStringS_any {lo hi : Nat} (n : Nat) (cs : UD) (c : Value) (left : Int) (w : World) (ht : tyS 1 n cs 0) (h0 : 0 ≤ left) (h1 : left ≤ 1048576) (hx : uS w lo hi 1 n cs c) :
    Calls Tryz.prog 48 #[c, .int .i64 left] w fun e w' => e = .returned (.int .i64 (leftI left (n + wt cs))) ∧ Below w.heap.size w w' := by
  obtain ⟨a, cap, rfl, hx2⟩ := hx
  have Hx : Hid (uS w lo hi 1 n cs (.slice a n cap)) := ⟨a, cap, rfl, hx2⟩
  have hmx := ht.2.2.1
  unfold maxLen at hmx
  have Ht := uhide ht
  clear hx2 ht
  by_cases c1 : left - (n : Int) < 0
  · have E : Hid (leftI left (n + wt cs) = -1) := by show _ = _; unfold leftI; rw [if_pos (by omega)]
    go_enter Tryz.func48, Tryz.ntmps48
    go_wp2
    go_ret
    exact ⟨ret_intU E.out.symm, Below.refl _ _⟩
  have E : Hid (leftI left (n + wt cs) = leftI (left - n) (wt (cs.dropN (0 * 1)))) := by
    show _ = _
    obtain ⟨g1, g2, g3⟩ := leftI_pos (x := left) (a := n) (wt cs) (by unfold leftI; split <;> omega)
    rw [g1, g2, Nat.zero_mul, UD.dropN_zero]
  go_enter Tryz.func48, Tryz.ntmps48
  go_wp2
  go_loopw [1, 5] (fun l i wr => ∃ (q : Nat) (x : Int), q ≤ n ∧ i = .int .i64 q ∧ l = .int .i64 x ∧ 0 ≤ x ∧ x ≤ 1048576 ∧ Hid (leftI left (n + wt cs) = leftI x (wt (cs.dropN (q * 1)))) ∧ Below w.heap.size w wr) (fun _ i _ => n - (intOf i).toNat)
  case atStart => exact ⟨0, _, Nat.zero_le _, rfl, rfl, by omega, by omega, E, Below.refl _ _⟩
  case round =>
    obtain ⟨q, x, hq, rfl, rfl, hx0, hx1, Hs, hbw⟩ := hrel
    by_cases hlt : q < n
    · obtain ⟨b, off, rfl, hbb, hm⟩ := (Hx.out.below hbw).cells (by omega)
      obtain ⟨z0, hR, hz⟩ := partsString (Ht.out.row hlt)
      have q0 := row1 hm q hR
      have hw : wt (cs.dropN (q * 1)) = z0.size + wt (cs.dropN ((q + 1) * 1)) := by rw [UD.drop_row cs 1 q, wt_app, hR]; rfl
      unfold maxLen at hz
      clear hm hR
      by_cases hneg : x - (z0.size : Int) < 0
      · have hr : Hid (leftI left (n + wt cs) = -1) := by rw [show Hid _ = _ from rfl, Hs.out, hw]; exact leftI_neg _ hx0 (by unfold leftI; split <;> omega)
        clear hw Hs E
        go_wp2
        go_ret
        exact ⟨ret_intU hr.out.symm, hbw⟩
      · have hr : Hid (leftI left (n + wt cs) = leftI (x - z0.size) (wt (cs.dropN ((q + 1) * 1)))) := by
          obtain ⟨g1, g2, g3⟩ := leftI_pos (x := x) (a := z0.size) (wt (cs.dropN ((q + 1) * 1))) (by unfold leftI; split <;> omega)
          show _ = _
          rw [Hs.out, hw, g1, g2]
        clear hw Hs E
        go_wp2
        go_roundw
        case rel => exact ⟨q + 1, _, by omega, by go_num, rfl, by omega, by omega, hr, hbw⟩
        case measure => simp [intOf]; omega
    · have e : q = n := by omega
      subst e
      have hr : Hid (leftI left (q + wt cs) = x) := by
        show _ = _
        rw [Hs.out, ← Ht.out.2.2.2.1, UD.dropN_all]
        exact leftI_zero hx0
      clear Hs E
      go_wp2
      go_ret
      exact ⟨ret_intU hr.out.symm, hbw⟩
theorem Tryz.infoUString : (Tryz.prog.info? 9).map (fun i => (i.zero, i.size, i.bytes)) = some (some (.string ByteArray.empty), 1, 16) := by kernel_rfl
theorem utoStringS_any {lo hi : Nat} (n : Nat) (cs : UD) (c : Value) (w : World) (ht : tyS 1 n cs 0) (hn : n ≤ 1048576) (hx : uS w lo hi 1 n cs c) :
    Calls Tryz.prog 51 #[c] w fun e w' => ∃ c' S, e = .returned c' ∧ oS w' 1 n cs c' S ∧ S.Nodup ∧ (∀ s ∈ S, w.heap.size ≤ s) ∧ Below w.heap.size w w' := by
  obtain ⟨i0, hinf, hz0, hz1, hz2⟩ := infoU Tryz.infoUString
  obtain ⟨a, cap, rfl, hx2⟩ := hx
  have Hx : Hid (uS w lo hi 1 n cs (.slice a n cap)) := ⟨a, cap, rfl, hx2⟩
  have Ht := uhide ht
  clear hx2 ht
  go_enter Tryz.func51, Tryz.ntmps51
  go_wp2_with (at_make; refine wpList_make_full _ rfl _ _ 23 rfl w.heap.size 9 i0 _ 1 Tryz.underlying23 hinf hz0 hz1 _ _ _ _ n rfl rfl rfl rfl (by rw [hz2]; omega) (by unfold maxLen; omega) (Nat.le_refl _) ?_; intro w1 hown hgrow)
  have T0 := uhide (TS.start (cs := cs) hown (Below.grown (Below.refl _ _) hgrow (Nat.le_refl _) (fun k hk => by cases hk)))
  clear hown hgrow
  go_loopw [4] (fun i wr => ∃ (q : Nat), q ≤ n ∧ i = .int .i64 q ∧ Hid (TS w wr 9 1 n cs q)) (fun i _ => n - (intOf i).toNat)
  case atStart => exact ⟨0, Nat.zero_le _, rfl, T0⟩
  case round =>
    clear T0
    obtain ⟨q, hq, rfl, HT⟩ := hrel
    by_cases hlt : q < n
    · obtain ⟨b, off, rfl, hbb, hm⟩ := (Hx.out.below HT.out.bel).cells (by omega)
      obtain ⟨z0, hR, hz⟩ := partsString (Ht.out.row hlt)
      have q0 := row1 hm q hR
      obtain ⟨o0, p0⟩ := HT.out.cell q (by omega)
      have f0 := HT.out.fz q
      have T1 : Hid (TS w (wSet wr w.heap.size (q * 1) [.string z0]) 9 1 n cs (q + 1)) := HT.out.step (Below.refl _ _) (T := []) (by rw [hR]; exact ⟨_, rfl, rfl, rfl⟩) List.nodup_nil (fun t ht => by cases ht) Ht.out.2.2.2.1 hlt
      rw [Nat.mul_one] at T1
      clear hm hR hz
      go_wp2
      go_roundw
      case rel => exact ⟨q + 1, by omega, by go_num, T1⟩
      case measure => simp [intOf]; omega
    · have e : q = n := by omega
      subst e
      obtain ⟨S, h1, h2, h3, h4⟩ := HT.out.done (by decide) Ht.out.2.2.2.1
      have HS : Hid (oS wr 1 q cs (.slice (some ⟨w.heap.size, 0, none⟩) q q) S ∧ S.Nodup ∧ (∀ s ∈ S, w.heap.size ≤ s) ∧ Below w.heap.size w wr) := ⟨h1, h2, h3, h4⟩
      clear h1 h2 h3 h4
      go_wp2
      go_ret
      exact ⟨_, S, rfl, HS.out⟩
theorem ueqStringS_any {lo hi lo' hi' : Nat} (n : Nat) (cs : UD) (c c' : Value) (w : World) (ht : tyS 1 n cs 0) (hx : uS w lo hi 1 n cs c) (hy : uS w lo' hi' 1 n cs c') :
    Calls Tryz.prog 54 #[c, c'] w fun e w' => e = .returned (.bool true) ∧ Below w.heap.size w w' := by
  obtain ⟨a, cap, rfl, hx2⟩ := hx
  obtain ⟨a', cap', rfl, hy2⟩ := hy
  have Hx : Hid (uS w lo hi 1 n cs (.slice a n cap)) := ⟨a, cap, rfl, hx2⟩
  have Hy : Hid (uS w lo' hi' 1 n cs (.slice a' n cap')) := ⟨a', cap', rfl, hy2⟩
  have hmx := ht.2.2.1
  unfold maxLen at hmx
  have Ht := uhide ht
  have hb0 : ((n : Int) != (n : Int)) = false := by simp
  clear hx2 hy2 ht
  go_enter Tryz.func54, Tryz.ntmps54
  go_wp2
  go_loopw [5] (fun i wr => ∃ (q : Nat), q ≤ n ∧ i = .int .i64 q ∧ Below w.heap.size w wr) (fun i _ => n - (intOf i).toNat)
  case atStart => exact ⟨0, Nat.zero_le _, rfl, Below.refl _ _⟩
  case round =>
    obtain ⟨q, hq, rfl, hbw⟩ := hrel
    by_cases hlt : q < n
    · obtain ⟨b, off, rfl, hbb, hm⟩ := (Hx.out.below hbw).cells (by omega)
      obtain ⟨b', off', rfl, hbb', hm'⟩ := (Hy.out.below hbw).cells (by omega)
      obtain ⟨z0, hR, hz⟩ := partsString (Ht.out.row hlt)
      have q0 := row1 hm q hR
      have q0' := row1 hm' q hR
      have he : (z0.toList == z0.toList) = true := by simp
      clear hm hm' hR hz Hx Hy Ht
      go_wp2
      go_quiet (fail)
      go_wp2
      go_roundw
      case rel => exact ⟨q + 1, by omega, by go_num, below_drewN hbw _⟩
      case measure => simp [intOf]; omega
    · have e : q = n := by omega
      subst e
      go_wp2
      go_ret
      exact ⟨rfl, hbw⟩
set_option maxHeartbeats 400000 in
theorem umarkStringS_any (n k0 : Nat) (cs : UD) (c : Value) (S : List Nat) (w : World) (ht : tyS 1 n cs 0) (hnd : S.Nodup) (hk0 : 1 ≤ k0) (hk1 : k0 + cnt cs ≤ 100000000) (hx : oS w 1 n cs c S) :
    Calls Tryz.prog 56 #[c, .int .i64 k0] w fun e w' => e = .returned (.int .i64 (k0 + cnt cs : Nat)) ∧ oS w' 1 n (mk cs k0) c S ∧ OutS S w w' := by
  obtain ⟨a, cap, rfl⟩ := hx.slice
  have hmx := ht.2.2.1
  unfold maxLen at hmx
  rcases Nat.eq_zero_or_pos n with h0 | hpos
  · subst h0
    obtain ⟨e1, e2⟩ := hx.empty rfl k0
    rw [e1, e2]
    have Hx := uhide hx
    clear hx ht hnd e1 e2
    go_enter Tryz.func56, Tryz.ntmps56
    go_wp2
    go_loopw [1, 5] (fun s i wr => i = .int .i64 0 ∧ s = .int .i64 k0 ∧ wr = w) (fun _ _ _ => 0)
    case atStart => exact ⟨rfl, rfl, rfl⟩
    case round =>
      obtain ⟨rfl, rfl, rfl⟩ := hrel
      go_wp2
      go_ret
      exact ⟨rfl, Hx.out, OutS.refl _ _⟩
  obtain ⟨e, g, S1, xs0, M0, rfl, hp0, hl0⟩ := MS.start hx hnd hpos k0
  obtain ⟨cap, h1, hgl⟩ := M0.own
  cases h1
  have M0 := uhide M0
  have Ht := uhide ht
  have Hp0 := uhide hp0
  have Hkk : Hid (∀ q, k0 + cnt (cs.takeN (q * 1)) ≤ 100000000) := fun q => by have := cnt_le cs (q * 1); omega
  clear hx ht hnd hp0 hl0
  go_enter Tryz.func56, Tryz.ntmps56
  go_wp2
  go_loopw [1, 5] (fun s i wr => ∃ (q : Nat), q ≤ n ∧ i = .int .i64 q ∧ s = .int .i64 (k0 + cnt (cs.takeN (q * 1)) : Nat) ∧ Hid (MS w wr e 1 n (.slice (some ⟨g, 0, none⟩) n cap) g cs k0 S1 xs0 (q * 1))) (fun _ i _ => n - (intOf i).toNat)
  case atStart => exact ⟨0, Nat.zero_le _, rfl, rfl, by rw [Nat.zero_mul]; exact M0⟩
  case round =>
    clear M0
    obtain ⟨q, hq, rfl, rfl, HM⟩ := hrel
    by_cases hlt : q < n
    · obtain ⟨z0, hR, hz⟩ := partsString (Ht.out.row hlt)
      have he := at1 rfl hR
      have hkn : cnt (cs.takeN ((q + 1) * 1)) = cnt (cs.takeN (q * 1)) + 1 := by rw [cnt_row, hR]; rfl
      have hkb := Hkk.out (q + 1)
      have Hkn := uhide hkn
      have hm := HM.out
      rw [Nat.mul_one] at hm
      have HP : Hid (∀ (wx : World) (u : Value), MS w wx e 1 n (.slice (some ⟨g, 0, none⟩) n cap) g cs k0 S1 xs0 q → u = mkP (k0 + cnt (cs.takeN (q * 1))) (.string z0) → MS w (wx.setCell ⟨g, q, none⟩ u) e 1 n (.slice (some ⟨g, 0, none⟩) n cap) g cs k0 S1 xs0 ((q + 1) * 1)) := fun wx u h hu => by
        rw [Nat.mul_one] at hu ⊢
        exact h.plain he hu
      have hxv := Hp0.out q _ he
      rw [hkn] at hkb
      generalize hKd : k0 + cnt (cs.takeN (q * 1)) = K at *
      have hK1 : K + 1 ≤ 100000000 := by omega
      have hK0 : 1 ≤ K := by omega
      have HKn : Hid (k0 + cnt (cs.takeN ((q + 1) * 1)) = K + 1) := by show _ = _; rw [Hkn.out]; omega
      have HM2 : Hid (∀ wx, Below wr.heap.size wr wx → MS w wx e 1 n (.slice (some ⟨g, 0, none⟩) n cap) g cs k0 S1 xs0 q) := fun wx hb => hm.below hb
      have Hm0 : Hid (∀ (wx : World) (x : Int), x = (K : Int) → Calls Tryz.prog 84 #[.int .i64 x] wx fun e w' => e = .returned (.string (umtx K)) ∧ Below wx.heap.size wx w') := fun wx x hx => by rw [hx]; exact umarkText_any K wx (by omega) (by omega)
      have Hxv := uhide hxv
      clear hKd hR hkn he hz HM hkb hm hxv Hkn
      have HU : Hid (Value.string (umtx K) = mkP K (.string z0)) := rfl
      generalize umtx K = M0 at *
      go_wp2_with fail
      refine (Hm0.out _ _ rfl).mono ?_
      rintro e1 w2 ⟨rfl, hb2⟩
      have Hms := uhide (HM2.out w2 hb2)
      have q0 := Hms.out.cellAt q _ (Nat.le_refl _) Hxv.out (by omega)
      have f0 := Hms.out.fz q
      clear hb2 HM2
      go_wp2
      go_roundw
      case rel => exact ⟨q + 1, by omega, by go_num, by rw [HKn.out]; go_num, HP.out _ _ Hms.out HU.out⟩
      case measure => simp [intOf]; omega
    · have e : q = n := by omega
      subst e
      obtain ⟨h1, h2⟩ := HM.out.done (by decide)
      have HD := uhide (And.intro h1 h2)
      have hl : cs.takeN (q * 1) = cs := by apply UD.ext; unfold UD.takeN; rw [UD.toL_ofL]; exact List.take_of_length_le (Nat.le_of_eq Ht.out.2.2.2.1)
      rw [hl]
      clear h1 h2 hl HM Ht Hp0 Hkk
      go_wp2
      go_ret
      exact ⟨rfl, HD.out⟩
set_option maxHeartbeats 400000 in
theorem uheldStringS_any {lo hi : Nat} (n k0 : Nat) (cs : UD) (c : Value) (w : World) (ht : tyS 1 n cs 0) (hk0 : 1 ≤ k0) (hk1 : k0 + cnt cs ≤ 100000000) (hx : uS w lo hi 1 n (mk cs k0) c) :
    Calls Tryz.prog 105 #[c, .int .i64 k0] w fun e w' => e = .returned (.int .i64 (k0 + cnt cs : Nat)) ∧ Below w.heap.size w w' := by
  obtain ⟨a, cap, rfl, hx2⟩ := hx
  have Hx : Hid (uS w lo hi 1 n (mk cs k0) (.slice a n cap)) := ⟨a, cap, rfl, hx2⟩
  have hmx := ht.2.2.1
  unfold maxLen at hmx
  have Ht := uhide ht
  have Hkk : Hid (∀ q, k0 + cnt (cs.takeN (q * 1)) ≤ 100000000) := fun q => by have := cnt_le cs (q * 1); omega
  clear hx2 ht
  go_enter Tryz.func105, Tryz.ntmps105
  go_wp2
  go_loopw [1, 5] (fun s i wr => ∃ (q : Nat), q ≤ n ∧ i = .int .i64 q ∧ s = .int .i64 (k0 + cnt (cs.takeN (q * 1)) : Nat) ∧ Below w.heap.size w wr) (fun _ i _ => n - (intOf i).toNat)
  case atStart => exact ⟨0, Nat.zero_le _, rfl, rfl, Below.refl _ _⟩
  case round =>
    obtain ⟨q, hq, rfl, rfl, hbw⟩ := hrel
    by_cases hlt : q < n
    · obtain ⟨b, off, rfl, hbb, hm⟩ := (Hx.out.below hbw).cells (by omega)
      obtain ⟨z0, hR, hz⟩ := partsString (Ht.out.row hlt)
      have he := at1 rfl hR
      have hkn : cnt (cs.takeN ((q + 1) * 1)) = cnt (cs.takeN (q * 1)) + 1 := by rw [cnt_row, hR]; rfl
      have hkb := Hkk.out (q + 1)
      have Hkn := uhide hkn
      have q0 : wr.cell? ⟨b, off + q, none⟩ = some (mkP (k0 + cnt (cs.takeN (q * 1))) (.string z0)) := by
        obtain ⟨c0, g1, g2⟩ := hm.get q _ (mk_get cs k0 q _ he)
        rw [g1, show c0 = _ from g2, Nat.mul_one]
      rw [hkn] at hkb
      generalize hKd : k0 + cnt (cs.takeN (q * 1)) = K at *
      have hK1 : K + 1 ≤ 100000000 := by omega
      have hK0 : 1 ≤ K := by omega
      have HKn : Hid (k0 + cnt (cs.takeN ((q + 1) * 1)) = K + 1) := by show _ = _; rw [Hkn.out]; omega
      replace q0 : wr.cell? ⟨b, off + q, none⟩ = some (.string (umtx K)) := q0
      have Hq : Hid (∀ wx, Below wr.heap.size wr wx → wx.cell? ⟨b, off + q, none⟩ = some (.string (umtx K))) := fun wx hb => (hb.cell (p := ⟨b, off + q, none⟩) (World.block_lt_of_cell? _ _ q0)).trans q0
      have Hm0 : Hid (∀ (wx : World) (x : Int), Below wr.heap.size wr wx → x = (K : Int) → Calls Tryz.prog 84 #[.int .i64 x] wx fun e w' => e = .returned (.string (umtx K)) ∧ Hid (Below wr.heap.size wr w')) := fun wx x hb hx => by rw [hx]; exact (umarkText_any K wx (by omega) (by omega)).mono fun e w' h => ⟨h.1, hb.trans (h.2.mono hb.size)⟩
      clear hKd hR hkn he hz hkb hm Hkn Hx Ht Hkk
      generalize umtx K = M0 at *
      have hE : (M0.toList == M0.toList) = true := by simp
      go_wp2
      go_region_with (go_at_call 84; refine (Hm0.out _ _ (by repeat (first | exact Below.refl _ _ | refine Below.drew ?_ | refine below_drewN ?_ _)) rfl).mono ?_; rintro e1 w2 ⟨rfl, hb2⟩; have q1 := Hq.out _ hb2.out)
      all_goals (
        have Hb2 : Hid (Below w.heap.size w w2) := hbw.trans (hb2.out.mono hbw.size)
        go_wp2
        go_roundw
        case rel => exact ⟨q + 1, by omega, by go_num, by rw [HKn.out]; go_num, by repeat (first | exact Hb2.out | refine Below.drew ?_ | refine below_drewN ?_ _)⟩
        case measure => simp [intOf]; omega)
    · have e : q = n := by omega
      subst e
      have hl : cs.takeN (q * 1) = cs := by apply UD.ext; unfold UD.takeN; rw [UD.toL_ofL]; exact List.take_of_length_le (Nat.le_of_eq Ht.out.2.2.2.1)
      rw [hl]
      clear hl Ht Hkk Hx
      go_wp2
      go_ret
      exact ⟨rfl, hbw⟩
theorem Tryz.infoUInt : (Tryz.prog.info? 3).map (fun i => (i.zero, i.size, i.bytes)) = some (some (.int .i64 0), 1, 8) := by kernel_rfl
theorem utoIntS_any {lo hi : Nat} (n : Nat) (cs : UD) (c : Value) (w : World) (ht : tyS 1 n cs 1) (hn : n ≤ 1048576) (hx : uS w lo hi 1 n cs c) :
    Calls Tryz.prog 15 #[c] w fun e w' => ∃ c' S, e = .returned c' ∧ oS w' 1 n cs c' S ∧ S.Nodup ∧ (∀ s ∈ S, w.heap.size ≤ s) ∧ Below w.heap.size w w' := by
  obtain ⟨i0, hinf, hz0, hz1, hz2⟩ := infoU Tryz.infoUInt
  obtain ⟨a, cap, rfl, hx2⟩ := hx
  have Hx : Hid (uS w lo hi 1 n cs (.slice a n cap)) := ⟨a, cap, rfl, hx2⟩
  have Ht := uhide ht
  clear hx2 ht
  go_enter Tryz.func15, Tryz.ntmps15
  go_wp2_with (at_make; refine wpList_make_full _ rfl _ _ 28 rfl w.heap.size 3 i0 _ 1 Tryz.underlying28 hinf hz0 hz1 _ _ _ _ n rfl rfl rfl rfl (by rw [hz2]; omega) (by unfold maxLen; omega) (Nat.le_refl _) ?_; intro w1 hown hgrow)
  have T0 := uhide (TS.start (cs := cs) hown (Below.grown (Below.refl _ _) hgrow (Nat.le_refl _) (fun k hk => by cases hk)))
  clear hown hgrow
  go_loopw [4] (fun i wr => ∃ (q : Nat), q ≤ n ∧ i = .int .i64 q ∧ Hid (TS w wr 3 1 n cs q)) (fun i _ => n - (intOf i).toNat)
  case atStart => exact ⟨0, Nat.zero_le _, rfl, T0⟩
  case round =>
    clear T0
    obtain ⟨q, hq, rfl, HT⟩ := hrel
    by_cases hlt : q < n
    · obtain ⟨b, off, rfl, hbb, hm⟩ := (Hx.out.below HT.out.bel).cells (by omega)
      obtain ⟨z0, hR, hz⟩ := partsInt (Ht.out.row hlt)
      have q0 := row1 hm q hR
      obtain ⟨o0, p0⟩ := HT.out.cell q (by omega)
      have f0 := HT.out.fz q
      have T1 : Hid (TS w (wSet wr w.heap.size (q * 1) [.int .i64 z0]) 3 1 n cs (q + 1)) := HT.out.step (Below.refl _ _) (T := []) (by rw [hR]; exact ⟨_, rfl, rfl, rfl⟩) List.nodup_nil (fun t ht => by cases ht) Ht.out.2.2.2.1 hlt
      rw [Nat.mul_one] at T1
      clear hm hR hz
      go_wp2
      go_roundw
      case rel => exact ⟨q + 1, by omega, by go_num, T1⟩
      case measure => simp [intOf]; omega
    · have e : q = n := by omega
      subst e
      obtain ⟨S, h1, h2, h3, h4⟩ := HT.out.done (by decide) Ht.out.2.2.2.1
      have HS : Hid (oS wr 1 q cs (.slice (some ⟨w.heap.size, 0, none⟩) q q) S ∧ S.Nodup ∧ (∀ s ∈ S, w.heap.size ≤ s) ∧ Below w.heap.size w wr) := ⟨h1, h2, h3, h4⟩
      clear h1 h2 h3 h4
      go_wp2
      go_ret
      exact ⟨_, S, rfl, HS.out⟩
theorem ueqIntS_any {lo hi lo' hi' : Nat} (n : Nat) (cs : UD) (c c' : Value) (w : World) (ht : tyS 1 n cs 1) (hx : uS w lo hi 1 n cs c) (hy : uS w lo' hi' 1 n cs c') :
    Calls Tryz.prog 17 #[c, c'] w fun e w' => e = .returned (.bool true) ∧ Below w.heap.size w w' := by
  obtain ⟨a, cap, rfl, hx2⟩ := hx
  obtain ⟨a', cap', rfl, hy2⟩ := hy
  have Hx : Hid (uS w lo hi 1 n cs (.slice a n cap)) := ⟨a, cap, rfl, hx2⟩
  have Hy : Hid (uS w lo' hi' 1 n cs (.slice a' n cap')) := ⟨a', cap', rfl, hy2⟩
  have hmx := ht.2.2.1
  unfold maxLen at hmx
  have Ht := uhide ht
  have hb0 : ((n : Int) != (n : Int)) = false := by simp
  clear hx2 hy2 ht
  go_enter Tryz.func17, Tryz.ntmps17
  go_wp2
  go_loopw [5] (fun i wr => ∃ (q : Nat), q ≤ n ∧ i = .int .i64 q ∧ Below w.heap.size w wr) (fun i _ => n - (intOf i).toNat)
  case atStart => exact ⟨0, Nat.zero_le _, rfl, Below.refl _ _⟩
  case round =>
    obtain ⟨q, hq, rfl, hbw⟩ := hrel
    by_cases hlt : q < n
    · obtain ⟨b, off, rfl, hbb, hm⟩ := (Hx.out.below hbw).cells (by omega)
      obtain ⟨b', off', rfl, hbb', hm'⟩ := (Hy.out.below hbw).cells (by omega)
      obtain ⟨z0, hR, hz⟩ := partsInt (Ht.out.row hlt)
      have q0 := row1 hm q hR
      have q0' := row1 hm' q hR
      have he : (z0 != z0) = false := by simp
      clear hm hm' hR hz Hx Hy Ht
      go_wp2
      go_quiet (fail)
      go_wp2
      go_roundw
      case rel => exact ⟨q + 1, by omega, by go_num, below_drewN hbw _⟩
      case measure => simp [intOf]; omega
    · have e : q = n := by omega
      subst e
      go_wp2
      go_ret
      exact ⟨rfl, hbw⟩
set_option maxHeartbeats 400000 in
theorem umarkIntS_any (n k0 : Nat) (cs : UD) (c : Value) (S : List Nat) (w : World) (ht : tyS 1 n cs 1) (hnd : S.Nodup) (hk0 : 1 ≤ k0) (hk1 : k0 + cnt cs ≤ 100000000) (hx : oS w 1 n cs c S) :
    Calls Tryz.prog 22 #[c, .int .i64 k0] w fun e w' => e = .returned (.int .i64 (k0 + cnt cs : Nat)) ∧ oS w' 1 n (mk cs k0) c S ∧ OutS S w w' := by
  obtain ⟨a, cap, rfl⟩ := hx.slice
  have hmx := ht.2.2.1
  unfold maxLen at hmx
  rcases Nat.eq_zero_or_pos n with h0 | hpos
  · subst h0
    obtain ⟨e1, e2⟩ := hx.empty rfl k0
    rw [e1, e2]
    have Hx := uhide hx
    clear hx ht hnd e1 e2
    go_enter Tryz.func22, Tryz.ntmps22
    go_wp2
    go_loopw [1, 5] (fun s i wr => i = .int .i64 0 ∧ s = .int .i64 k0 ∧ wr = w) (fun _ _ _ => 0)
    case atStart => exact ⟨rfl, rfl, rfl⟩
    case round =>
      obtain ⟨rfl, rfl, rfl⟩ := hrel
      go_wp2
      go_ret
      exact ⟨rfl, Hx.out, OutS.refl _ _⟩
  obtain ⟨e, g, S1, xs0, M0, rfl, hp0, hl0⟩ := MS.start hx hnd hpos k0
  obtain ⟨cap, h1, hgl⟩ := M0.own
  cases h1
  have M0 := uhide M0
  have Ht := uhide ht
  have Hp0 := uhide hp0
  have Hkk : Hid (∀ q, k0 + cnt (cs.takeN (q * 1)) ≤ 100000000) := fun q => by have := cnt_le cs (q * 1); omega
  clear hx ht hnd hp0 hl0
  go_enter Tryz.func22, Tryz.ntmps22
  go_wp2
  go_loopw [1, 5] (fun s i wr => ∃ (q : Nat), q ≤ n ∧ i = .int .i64 q ∧ s = .int .i64 (k0 + cnt (cs.takeN (q * 1)) : Nat) ∧ Hid (MS w wr e 1 n (.slice (some ⟨g, 0, none⟩) n cap) g cs k0 S1 xs0 (q * 1))) (fun _ i _ => n - (intOf i).toNat)
  case atStart => exact ⟨0, Nat.zero_le _, rfl, rfl, by rw [Nat.zero_mul]; exact M0⟩
  case round =>
    clear M0
    obtain ⟨q, hq, rfl, rfl, HM⟩ := hrel
    by_cases hlt : q < n
    · obtain ⟨z0, hR, hz⟩ := partsInt (Ht.out.row hlt)
      have he := at1 rfl hR
      have hkn : cnt (cs.takeN ((q + 1) * 1)) = cnt (cs.takeN (q * 1)) + 1 := by rw [cnt_row, hR]; rfl
      have hkb := Hkk.out (q + 1)
      have Hkn := uhide hkn
      have hm := HM.out
      rw [Nat.mul_one] at hm
      have HP : Hid (∀ (wx : World) (u : Value), MS w wx e 1 n (.slice (some ⟨g, 0, none⟩) n cap) g cs k0 S1 xs0 q → u = mkP (k0 + cnt (cs.takeN (q * 1))) (.int .i64 z0) → MS w (wx.setCell ⟨g, q, none⟩ u) e 1 n (.slice (some ⟨g, 0, none⟩) n cap) g cs k0 S1 xs0 ((q + 1) * 1)) := fun wx u h hu => by
        rw [Nat.mul_one] at hu ⊢
        exact h.plain he hu
      have hxv := Hp0.out q _ he
      rw [hkn] at hkb
      generalize hKd : k0 + cnt (cs.takeN (q * 1)) = K at *
      have hK1 : K + 1 ≤ 100000000 := by omega
      have hK0 : 1 ≤ K := by omega
      have HKn : Hid (k0 + cnt (cs.takeN ((q + 1) * 1)) = K + 1) := by show _ = _; rw [Hkn.out]; omega
      have q0 := hm.cellAt q _ (Nat.le_refl _) hxv (by omega)
      have f0 := hm.fz q
      have Hms := uhide hm
      clear hKd hR hkn he hz HM hkb hm hxv Hkn
      have HU : Hid (∀ x : Int, x = (K : Int) → Value.int .i64 x = mkP K (.int .i64 z0)) := fun x hx => by rw [mkP_int _ _ (by omega), hx]
      go_wp2
      go_roundw
      case rel => exact ⟨q + 1, by omega, by go_num, by rw [HKn.out]; go_num, HP.out _ _ Hms.out (HU.out _ rfl)⟩
      case measure => simp [intOf]; omega
    · have e : q = n := by omega
      subst e
      obtain ⟨h1, h2⟩ := HM.out.done (by decide)
      have HD := uhide (And.intro h1 h2)
      have hl : cs.takeN (q * 1) = cs := by apply UD.ext; unfold UD.takeN; rw [UD.toL_ofL]; exact List.take_of_length_le (Nat.le_of_eq Ht.out.2.2.2.1)
      rw [hl]
      clear h1 h2 hl HM Ht Hp0 Hkk
      go_wp2
      go_ret
      exact ⟨rfl, HD.out⟩
set_option maxHeartbeats 400000 in
theorem uheldIntS_any {lo hi : Nat} (n k0 : Nat) (cs : UD) (c : Value) (w : World) (ht : tyS 1 n cs 1) (hk0 : 1 ≤ k0) (hk1 : k0 + cnt cs ≤ 100000000) (hx : uS w lo hi 1 n (mk cs k0) c) :
    Calls Tryz.prog 23 #[c, .int .i64 k0] w fun e w' => e = .returned (.int .i64 (k0 + cnt cs : Nat)) ∧ Below w.heap.size w w' := by
  obtain ⟨a, cap, rfl, hx2⟩ := hx
  have Hx : Hid (uS w lo hi 1 n (mk cs k0) (.slice a n cap)) := ⟨a, cap, rfl, hx2⟩
  have hmx := ht.2.2.1
  unfold maxLen at hmx
  have Ht := uhide ht
  have Hkk : Hid (∀ q, k0 + cnt (cs.takeN (q * 1)) ≤ 100000000) := fun q => by have := cnt_le cs (q * 1); omega
  clear hx2 ht
  go_enter Tryz.func23, Tryz.ntmps23
  go_wp2
  go_loopw [1, 5] (fun s i wr => ∃ (q : Nat), q ≤ n ∧ i = .int .i64 q ∧ s = .int .i64 (k0 + cnt (cs.takeN (q * 1)) : Nat) ∧ Below w.heap.size w wr) (fun _ i _ => n - (intOf i).toNat)
  case atStart => exact ⟨0, Nat.zero_le _, rfl, rfl, Below.refl _ _⟩
  case round =>
    obtain ⟨q, hq, rfl, rfl, hbw⟩ := hrel
    by_cases hlt : q < n
    · obtain ⟨b, off, rfl, hbb, hm⟩ := (Hx.out.below hbw).cells (by omega)
      obtain ⟨z0, hR, hz⟩ := partsInt (Ht.out.row hlt)
      have he := at1 rfl hR
      have hkn : cnt (cs.takeN ((q + 1) * 1)) = cnt (cs.takeN (q * 1)) + 1 := by rw [cnt_row, hR]; rfl
      have hkb := Hkk.out (q + 1)
      have Hkn := uhide hkn
      have q0 : wr.cell? ⟨b, off + q, none⟩ = some (mkP (k0 + cnt (cs.takeN (q * 1))) (.int .i64 z0)) := by
        obtain ⟨c0, g1, g2⟩ := hm.get q _ (mk_get cs k0 q _ he)
        rw [g1, show c0 = _ from g2, Nat.mul_one]
      rw [hkn] at hkb
      generalize hKd : k0 + cnt (cs.takeN (q * 1)) = K at *
      have hK1 : K + 1 ≤ 100000000 := by omega
      have hK0 : 1 ≤ K := by omega
      have HKn : Hid (k0 + cnt (cs.takeN ((q + 1) * 1)) = K + 1) := by show _ = _; rw [Hkn.out]; omega
      replace q0 : wr.cell? ⟨b, off + q, none⟩ = some (.int .i64 (K : Int)) := by rw [q0]; rw [mkP_int _ _ (by omega)]
      clear hKd hR hkn he hz hkb hm Hkn Hx Ht Hkk
      have hE : ((K : Int) != (K : Int)) = false := by simp
      go_wp2
      go_roundw
      case rel => exact ⟨q + 1, by omega, by go_num, by rw [HKn.out]; go_num, hbw⟩
      case measure => simp [intOf]; omega
    · have e : q = n := by omega
      subst e
      have hl : cs.takeN (q * 1) = cs := by apply UD.ext; unfold UD.takeN; rw [UD.toL_ofL]; exact List.take_of_length_le (Nat.le_of_eq Ht.out.2.2.2.1)
      rw [hl]
      clear hl Ht Hkk Hx
      go_wp2
      go_ret
      exact ⟨rfl, hbw⟩
end Go.Proofs.YtdnodaoeflbfkaaGreat
/- Shares: what is right, sums, what is fair: plain numbers. -/
namespace Go.Proofs.YtdnodaoeflbfkaaGreat
open Go.RowKit
set_option linter.unusedVariables false

def gI (l : List Int) (i : Nat) : Int := l.getD i 0
theorem gI_get {l : List Int} {i : Nat} (h : i < l.length) : gI l i = l[i] := by unfold gI; rw [List.getD_eq_getElem?_getD, List.getElem?_eq_getElem h]; rfl
/-- the arguments are as told -/
def rightP (n : Int) (ws cs : List Int) : Prop := ((0 ≤ n ∧ n ≤ 10000) ∧ ws.length ≤ 64 ∧ ws.length = cs.length) ∧ ∀ i, i < ws.length → (0 ≤ gI ws i ∧ gI ws i ≤ 1000) ∧ 0 ≤ gI cs i ∧ gI cs i ≤ 10000
def sumTo (f : Nat → Int) : Nat → Int
  | 0 => 0
  | k + 1 => sumTo f k + f k
theorem sumTo_bd {f : Nat → Int} {m : Int} {n : Nat} (h : ∀ i, i < n → 0 ≤ f i ∧ f i ≤ m) : ∀ k, k ≤ n → 0 ≤ sumTo f k ∧ sumTo f k ≤ m * k
  | 0, _ => ⟨Int.le_refl _, by simp [sumTo]⟩
  | k + 1, hk => by
    have h1 := sumTo_bd h k (by omega)
    have h2 := h k (by omega)
    unfold sumTo
    have : m * ((k + 1 : Nat) : Int) = m * (k : Int) + m := by push_cast; rw [Int.mul_add, Int.mul_one]
    rw [this]; omega
/-- what those of a weight can hold -/
def capW (ws cs : List Int) (i : Nat) : Int := if 0 < gI ws i then gI cs i else 0
def totI (n : Int) (ws cs : List Int) : Int := if n < sumTo (capW ws cs) ws.length then n else sumTo (capW ws cs) ws.length
end Go.Proofs.YtdnodaoeflbfkaaGreat
/- spec.l6Right, spec.Total. -/
namespace Go.Proofs.YtdnodaoeflbfkaaGreat
open Go.RowKit Go.BigFrame
set_option linter.unusedVariables false
theorem cell_int {w : World} {lo hi n : Nat} {c : UD} {b off cap : Nat} (ht : tyS 1 n c 1) (h : uS w lo hi 1 n c (.slice (some ⟨b, off, none⟩) n cap)) (j : Nat) (hj : j < n) : w.cell? ⟨b, off + j, none⟩ = some (.int .i64 (gI (intL c) j)) := by
  have := int_at ht h j (by rw [intL_len ht]; exact hj)
  rw [this, gI_get]
theorem gI_in {n : Nat} {c : UD} (ht : tyS 1 n c 1) (j : Nat) (hj : j < n) : -9223372036854775808 ≤ gI (intL c) j ∧ gI (intL c) j ≤ 9223372036854775807 := by
  have := int_in ht j (by rw [intL_len ht]; exact hj)
  rw [gI_get (by rw [intL_len ht]; exact hj)]; exact this
/-- one place is as told -/
def goodAt (ws cs : List Int) (i : Nat) : Prop := (0 ≤ gI ws i ∧ gI ws i ≤ 1000) ∧ 0 ≤ gI cs i ∧ gI cs i ≤ 10000
theorem inB_t {x a b : Int} (h : a ≤ x ∧ x ≤ b) : inB x a b = true := by unfold inB; rw [decide_eq_true_eq]; exact h
theorem inB_f {x a b : Int} (h : ¬ (a ≤ x ∧ x ≤ b)) : inB x a b = false := by unfold inB; rw [decide_eq_false_iff_not]; exact h
set_option maxRecDepth 20000 in
set_option maxHeartbeats 3200000 in
theorem l6Right_any (n : Int) (k1 k2 : Nat) (c1 c2 : UD) (v1 v2 : Value) (lo hi lo' hi' : Nat) (w : World) (r : Bool) (ht1 : tyS 1 k1 c1 1) (ht2 : tyS 1 k2 c2 1) (hx1 : uS w lo hi 1 k1 c1 v1) (hx2 : uS w lo' hi' 1 k2 c2 v2) (hr : r = true ↔ rightP n (intL c1) (intL c2)) :
    Calls Tryz.prog 141 #[.int .i64 n, v1, v2] w fun e w' => e = .returned (.bool r) ∧ w' = w := by
  obtain ⟨a1, p1, rfl, hy1⟩ := hx1
  obtain ⟨a2, p2, rfl, hy2⟩ := hx2
  have H1 : Hid (uS w lo hi 1 k1 c1 (.slice a1 k1 p1)) := ⟨_, _, rfl, hy1⟩
  have H2 : Hid (uS w lo' hi' 1 k2 c2 (.slice a2 k2 p2)) := ⟨_, _, rfl, hy2⟩
  have T1 := uhide ht1
  have T2 := uhide ht2
  have hl1 := intL_len ht1
  have hl2 := intL_len ht2
  have hm1 := ht1.2.2.1
  have hm2 := ht2.2.2.1
  unfold maxLen at hm1 hm2
  unfold rightP at hr
  rw [hl1, hl2] at hr
  have no : ∀ {p : Prop}, (r = true ↔ p) → ¬ p → r = false := fun h hp => by
    cases r
    · rfl
    · exact (hp (h.1 rfl)).elim
  have NO : Hid (¬ (((0 ≤ n ∧ n ≤ 10000) ∧ k1 ≤ 64 ∧ k1 = k2) ∧ ∀ i, i < k1 → goodAt (intL c1) (intL c2) i) → r = false) := fun h => no hr h
  have YES : Hid ((((0 ≤ n ∧ n ≤ 10000) ∧ k1 ≤ 64 ∧ k1 = k2) ∧ ∀ i, i < k1 → goodAt (intL c1) (intL c2) i) → r = true) := fun h => hr.2 h
  clear hy1 hy2 ht1 ht2 hl1 hl2 hr no
  have HI := uhide (l1In_any n 0 10000)
  by_cases hn : 0 ≤ n ∧ n ≤ 10000
  rotate_left
  · have hrf := NO.out (fun h => hn h.1.1)
    subst hrf
    rw [inB_f hn] at HI
    clear NO YES
    go_enter Tryz.func141, Tryz.ntmps141
    go_wp2_with fail
    refine (HI.out _).mono ?_
    rintro e w1 ⟨rfl, rfl⟩
    go_wp2
    go_ret
    exact ⟨rfl, rfl⟩
  rw [inB_t hn] at HI
  by_cases h64 : 64 < k1
  · have hrf := NO.out (fun h => by omega)
    subst hrf
    clear NO YES
    go_enter Tryz.func141, Tryz.ntmps141
    go_wp2_with fail
    refine (HI.out _).mono ?_
    rintro e w1 ⟨rfl, rfl⟩
    go_wp2
    go_ret
    exact ⟨rfl, rfl⟩
  by_cases hk : k1 = k2
  rotate_left
  · have hrf := NO.out (fun h => hk h.1.2.2)
    subst hrf
    have hk' : ((k1 : Int) != (k2 : Int)) = true := by rw [bne_iff_ne]; omega
    clear NO YES
    go_enter Tryz.func141, Tryz.ntmps141
    go_wp2_with fail
    refine (HI.out _).mono ?_
    rintro e w1 ⟨rfl, rfl⟩
    go_wp2
    go_ret
    exact ⟨rfl, rfl⟩
  subst hk
  have hk' : ((k1 : Int) != (k1 : Int)) = false := by simp
  have NO2 : Hid (∀ i, i < k1 → ¬ goodAt (intL c1) (intL c2) i → r = false) := fun i hi hg => NO.out (fun h => hg (h.2 i hi))
  have YES2 : Hid ((∀ i, i < k1 → goodAt (intL c1) (intL c2) i) → r = true) := fun h => YES.out ⟨⟨hn, by omega, rfl⟩, h⟩
  clear NO YES
  go_enter Tryz.func141, Tryz.ntmps141
  go_wp2_with fail
  refine (HI.out _).mono ?_
  rintro e w1 ⟨rfl, rfl⟩
  clear HI
  go_wp2
  go_loopw [7] (fun i wr => ∃ (q : Nat), q ≤ k1 ∧ i = .int .i64 q ∧ Hid (∀ j, j < q → goodAt (intL c1) (intL c2) j) ∧ wr = w1) (fun i _ => k1 - (intOf i).toNat)
  case atStart => exact ⟨0, Nat.zero_le _, rfl, (fun j h => by omega), rfl⟩
  case round =>
    obtain ⟨q, hq, rfl, HE, rfl⟩ := hrel
    by_cases hlt : q < k1
    · obtain ⟨b1, off1, rfl, hb1, -⟩ := H1.out.cells (by omega)
      obtain ⟨b2, off2, rfl, hb2, -⟩ := H2.out.cells (by omega)
      have q1 := cell_int T1.out H1.out q hlt
      have q2 := cell_int T2.out H2.out q hlt
      have HX := uhide (l1In_any (gI (intL c1) q) 0 1000)
      have HY := uhide (l1In_any (gI (intL c2) q) 0 10000)
      have HN : Hid (goodAt (intL c1) (intL c2) q → ∀ j, j < q + 1 → goodAt (intL c1) (intL c2) j) := fun hg j hj => by
        by_cases e : j = q
        · subst e; exact hg
        · exact HE.out j (by omega)
      have HF : Hid (¬ goodAt (intL c1) (intL c2) q → r = false) := NO2.out q hlt
      unfold goodAt at HF
      by_cases hx : 0 ≤ gI (intL c1) q ∧ gI (intL c1) q ≤ 1000
      rotate_left
      · have hrf := HF.out (fun h => hx h.1)
        subst hrf
        rw [inB_f hx] at HX
        clear HF HN HY HE YES2 NO2
        generalize gI (intL c1) q = X at *
        generalize gI (intL c2) q = Y at *
        go_wp2_with fail
        refine (HX.out _).mono ?_
        rintro e w1 ⟨rfl, rfl⟩
        go_wp2
        go_ret
        exact ⟨rfl, rfl⟩
      rw [inB_t hx] at HX
      by_cases hy : 0 ≤ gI (intL c2) q ∧ gI (intL c2) q ≤ 10000
      rotate_left
      · have hrf := HF.out (fun h => hy h.2)
        subst hrf
        rw [inB_f hy] at HY
        clear HF HN HE YES2 NO2
        generalize gI (intL c1) q = X at *
        generalize gI (intL c2) q = Y at *
        go_wp2_with fail
        refine (HX.out _).mono ?_
        rintro e w1 ⟨rfl, rfl⟩
        go_wp2_with fail
        refine (HY.out _).mono ?_
        rintro e w1 ⟨rfl, rfl⟩
        go_wp2
        go_ret
        exact ⟨rfl, rfl⟩
      rw [inB_t hy] at HY
      have HN2 := uhide (HN.out ⟨hx, hy⟩)
      clear HF HN HE NO2
      generalize gI (intL c1) q = X at *
      generalize gI (intL c2) q = Y at *
      go_wp2_with fail
      refine (HX.out _).mono ?_
      rintro e w1 ⟨rfl, rfl⟩
      go_wp2_with fail
      refine (HY.out _).mono ?_
      rintro e w1 ⟨rfl, rfl⟩
      go_wp2
      go_roundw
      case rel => exact ⟨q + 1, by omega, by go_num, HN2, trivial⟩
      case measure => simp [intOf]; omega
    · have e : q = k1 := by omega
      subst e
      have hrt := YES2.out HE.out
      subst hrt
      go_wp2
      go_ret
      exact ⟨rfl, rfl⟩
end Go.Proofs.YtdnodaoeflbfkaaGreat
/- Shares: who is served of what is left over; what is divided, round by round: plain numbers. -/
namespace Go.Proofs.YtdnodaoeflbfkaaGreat
open Go.RowKit
set_option linter.unusedVariables false
/-- i is served ahead of j -/
def ahead (r : Nat → Int) (i j : Nat) : Prop := r j < r i ∨ (r i = r j ∧ i < j)
theorem ahead_or (r : Nat → Int) {i j : Nat} (h : i ≠ j) : ahead r i j ∨ ahead r j i := by unfold ahead; omega
theorem ahead_not {r : Nat → Int} {i j : Nat} (h : ahead r i j) : ¬ ahead r j i := by unfold ahead at *; omega
theorem ahead_trans {r : Nat → Int} {i j k : Nat} (h : ahead r i j) (h' : ahead r j k) : ahead r i k := by unfold ahead at *; omega
/-- how many of the first k -/
def nOf (P : Nat → Bool) : Nat → Nat
  | 0 => 0
  | k + 1 => nOf P k + (if P k = true then 1 else 0)
theorem nOf_sub {P Q : Nat → Bool} : ∀ k, (∀ i, i < k → P i = true → Q i = true) → nOf P k ≤ nOf Q k ∧ (nOf P k = nOf Q k → ∀ i, i < k → Q i = true → P i = true)
  | 0, _ => ⟨Nat.le_refl _, fun _ i hi => by omega⟩
  | k + 1, h => by
    obtain ⟨h1, h2⟩ := nOf_sub k (fun i hi => h i (by omega))
    have hk := h k (by omega)
    unfold nOf
    by_cases hp : P k = true
    · have hq := hk hp
      rw [if_pos hp, if_pos hq]
      refine ⟨by omega, fun e i hi hqi => ?_⟩
      by_cases e' : i = k
      · rw [e']; exact hp
      · exact h2 (by omega) i (by omega) hqi
    · rw [if_neg hp]
      by_cases hq : Q k = true
      · rw [if_pos hq]; exact ⟨by omega, fun e => by omega⟩
      · rw [if_neg hq]
        refine ⟨by omega, fun e i hi hqi => ?_⟩
        by_cases e' : i = k
        · rw [e'] at hqi; exact (hq hqi).elim
        · exact h2 (by omega) i (by omega) hqi
/-- those that were served: of the open ones, and whoever is ahead of one of them is one -/
def Seg (L : Nat) (O : Nat → Bool) (r : Nat → Int) (P : Nat → Bool) : Prop := (∀ i, P i = true → i < L ∧ O i = true) ∧ ∀ i j, P j = true → i < L → O i = true → ahead r i j → P i = true
theorem Seg.uniq {L : Nat} {O : Nat → Bool} {r : Nat → Int} {P Q : Nat → Bool} (hP : Seg L O r P) (hQ : Seg L O r Q) (hn : nOf P L = nOf Q L) : P = Q := by
  have key : ∀ {P Q : Nat → Bool}, Seg L O r P → Seg L O r Q → nOf P L = nOf Q L → (∃ i, P i = true ∧ Q i = false) → False := by
    intro P Q hP hQ hn ⟨i, hi, hqi⟩
    have hsub : ∀ j, j < L → Q j = true → P j = true := by
      intro j _ hj
      by_cases e : i = j
      · subst e; rw [hqi] at hj; cases hj
      · rcases ahead_or r e with h | h
        · have := hQ.2 i j hj (hP.1 i hi).1 (hP.1 i hi).2 h
          rw [hqi] at this; cases this
        · exact hP.2 j i hi (hQ.1 j hj).1 (hQ.1 j hj).2 h
    have := (nOf_sub L hsub).2 hn.symm i (hP.1 i hi).1 hi
    rw [hqi] at this; cases this
  funext i
  cases hp : P i <;> cases hq : Q i
  · rfl
  · exact (key hQ hP hn.symm ⟨i, hq, hp⟩).elim
  · exact (key hP hQ hn ⟨i, hp, hq⟩).elim
  · rfl
def upB (P : Nat → Bool) (b : Nat) : Nat → Bool := fun i => P i || decide (i = b)
theorem upB_ne {P : Nat → Bool} {b i : Nat} (h : i ≠ b) : upB P b i = P i := by unfold upB; rw [decide_eq_false h, Bool.or_false]
theorem upB_self (P : Nat → Bool) (b : Nat) : upB P b b = true := by unfold upB; rw [decide_eq_true rfl, Bool.or_true]
theorem nOf_up {P : Nat → Bool} {b : Nat} (hb : P b = false) : ∀ k, nOf (upB P b) k = nOf P k + (if b < k then 1 else 0)
  | 0 => rfl
  | k + 1 => by
    unfold nOf
    rw [nOf_up hb k]
    by_cases e : k = b
    · subst e
      rw [upB_self, hb, if_neg (show ¬ k < k by omega), if_pos (show k < k + 1 by omega)]; simp
    · rw [upB_ne e]
      by_cases h : b < k
      · rw [if_pos h, if_pos (show b < k + 1 by omega)]; omega
      · rw [if_neg h, if_neg (show ¬ b < k + 1 by omega)]; omega
theorem Seg.up {L : Nat} {O : Nat → Bool} {r : Nat → Int} {P : Nat → Bool} (h : Seg L O r P) {b : Nat} (hb : b < L) (ho : O b = true) (hp : P b = false) (hm : ∀ i, i < L → O i = true → P i = false → i ≠ b → ahead r b i) : Seg L O r (upB P b) ∧ nOf (upB P b) L = nOf P L + 1 := by
  refine ⟨⟨fun i hi => ?_, fun i j hj hi hoi ha => ?_⟩, by rw [nOf_up hp, if_pos hb]⟩
  · by_cases e : i = b
    · subst e; exact ⟨hb, ho⟩
    · rw [upB_ne e] at hi; exact h.1 i hi
  · by_cases ei : i = b
    · subst ei; exact upB_self _ _
    rw [upB_ne ei]
    by_cases ej : j = b
    · subst ej
      cases hpi : P i
      · exact (ahead_not ha (hm i hi hoi hpi ei)).elim
      · rfl
    · rw [upB_ne ej] at hj
      exact h.2 i j hj hi hoi ha
theorem Seg.none (L : Nat) (O : Nat → Bool) (r : Nat → Int) : Seg L O r (fun _ => false) ∧ nOf (fun _ => false) L = 0 := by
  refine ⟨⟨fun i h => (by cases h), fun i j h => (by cases h)⟩, ?_⟩
  induction L with
  | zero => rfl
  | succ k ih => unfold nOf; rw [ih]; rfl
/-- the first of all that are asked for -/
theorem first_ex (r : Nat → Int) (C : Nat → Prop) : ∀ k, (∃ i, i < k ∧ C i) → ∃ b, b < k ∧ C b ∧ ∀ i, i < k → C i → i ≠ b → ahead r b i
  | 0, ⟨i, hi, _⟩ => by omega
  | k + 1, hx => by
    by_cases hk : ∃ i, i < k ∧ C i
    · obtain ⟨b, hb, hc, hm⟩ := first_ex r C k hk
      by_cases hck : C k
      · by_cases hlt : r b < r k
        · refine ⟨k, by omega, hck, fun i hi hci hne => ?_⟩
          by_cases e : i = b
          · subst e; exact .inl hlt
          · exact ahead_trans (.inl hlt) (hm i (by omega) hci e)
        · refine ⟨b, by omega, hc, fun i hi hci hne => ?_⟩
          by_cases e : i = k
          · subst e; unfold ahead; omega
          · exact hm i (by omega) hci hne
      · refine ⟨b, by omega, hc, fun i hi hci hne => ?_⟩
        by_cases e : i = k
        · subst e; exact (hck hci).elim
        · exact hm i (by omega) hci hne
    · obtain ⟨i, hi, hc⟩ := hx
      have e : i = k := by
        by_cases h : i < k
        · exact (hk ⟨i, h, hc⟩).elim
        · omega
      subst e
      exact ⟨i, by omega, hc, fun j hj hcj hne => (hk ⟨j, by omega, hcj⟩).elim⟩
theorem more_ex {L : Nat} {O P : Nat → Bool} (h : nOf P L < nOf O L) : ∃ i, i < L ∧ O i = true ∧ P i = false := by
  by_cases hx : ∃ i, i < L ∧ O i = true ∧ P i = false
  · exact hx
  · have := (nOf_sub (P := O) (Q := P) L (fun i hi ho => by
      cases hp : P i
      · exact (hx ⟨i, hi, ho, hp⟩).elim
      · rfl)).1
    omega
theorem seg_ex (L : Nat) (O : Nat → Bool) (r : Nat → Int) : ∀ t, t ≤ nOf O L → ∃ P, Seg L O r P ∧ nOf P L = t
  | 0, _ => ⟨_, Seg.none L O r⟩
  | t + 1, h => by
    obtain ⟨P, hP, hn⟩ := seg_ex L O r t (by omega)
    obtain ⟨i, hi, ho, hp⟩ := more_ex (O := O) (P := P) (L := L) (by omega)
    obtain ⟨b, hb, ⟨ho', hp'⟩, hm⟩ := first_ex r (fun i => O i = true ∧ P i = false) L ⟨i, hi, ho, hp⟩
    obtain ⟨h1, h2⟩ := hP.up hb ho' hp' (fun i hi ho hp hne => hm i hi ⟨ho, hp⟩ hne)
    exact ⟨_, h1, by rw [h2, hn]⟩
open Classical in
/-- those that are served of t that are left -/
noncomputable def segOf (L : Nat) (O : Nat → Bool) (r : Nat → Int) (t : Nat) : Nat → Bool := if h : ∃ P, Seg L O r P ∧ nOf P L = t then Classical.choose h else fun _ => false
theorem segOf_eq {L : Nat} {O : Nat → Bool} {r : Nat → Int} {P : Nat → Bool} {t : Nat} (h : Seg L O r P) (hn : nOf P L = t) : segOf L O r t = P := by
  have hx : ∃ P, Seg L O r P ∧ nOf P L = t := ⟨P, h, hn⟩
  unfold segOf
  rw [dif_pos hx]
  have hc := Classical.choose_spec hx
  exact hc.1.uniq h (by rw [hc.2, hn])
/-- a sum over the open ones -/
def onO (O : Nat → Bool) (f : Nat → Int) : Nat → Int := fun i => if O i = true then f i else 0
/-- of quotas: what each gets, its rest -/
def quo (m s : Int) (w : Nat → Int) : Nat → Int := fun i => m * w i / s
def rem (m s : Int) (w : Nat → Int) : Nat → Int := fun i => m * w i % s
theorem sum_parts {m s : Int} {w : Nat → Int} {O : Nat → Bool} (hs : 0 < s) : ∀ k, m * sumTo (onO O w) k = s * sumTo (onO O (quo m s w)) k + sumTo (onO O (rem m s w)) k ∧ 0 ≤ sumTo (onO O (rem m s w)) k ∧ sumTo (onO O (rem m s w)) k ≤ s * (nOf O k : Int)
  | 0 => by simp [sumTo, nOf]
  | k + 1 => by
    obtain ⟨h1, h2, h3⟩ := sum_parts (m := m) (w := w) (O := O) hs k
    unfold sumTo nOf onO
    by_cases ho : O k = true
    · rw [if_pos ho, if_pos ho, if_pos ho, if_pos ho]
      have e1 : m * w k = s * (m * w k / s) + m * w k % s := (Int.mul_ediv_add_emod (m * w k) s).symm
      have e2 := Int.emod_nonneg (m * w k) (show s ≠ 0 by omega)
      have e3 := Int.emod_lt_of_pos (m * w k) hs
      have e4 : s * ((nOf O k + 1 : Nat) : Int) = s * (nOf O k : Int) + s := by push_cast; rw [Int.mul_add, Int.mul_one]
      have e5 : m * (sumTo (onO O w) k + w k) = m * sumTo (onO O w) k + m * w k := Int.mul_add _ _ _
      have e6 : s * (sumTo (onO O (quo m s w)) k + m * w k / s) = s * sumTo (onO O (quo m s w)) k + s * (m * w k / s) := Int.mul_add _ _ _
      refine ⟨?_, ?_, ?_⟩
      · show m * (sumTo (onO O w) k + w k) = s * (sumTo (onO O (quo m s w)) k + m * w k / s) + (sumTo (onO O (rem m s w)) k + m * w k % s)
        rw [e5, e6]; omega
      · show 0 ≤ sumTo (onO O (rem m s w)) k + m * w k % s
        omega
      · show sumTo (onO O (rem m s w)) k + m * w k % s ≤ _
        rw [e4]; omega
    · rw [if_neg ho, if_neg ho, if_neg ho, if_neg ho]
      simp only [Int.add_zero, Nat.add_zero]
      exact ⟨h1, h2, h3⟩
/-- what is left when each has its quota, down: not more than there are open ones -/
theorem left_bd {m s : Int} {w : Nat → Int} {O : Nat → Bool} {L : Nat} (hs : 0 < s) (he : s = sumTo (onO O w) L) : 0 ≤ m - sumTo (onO O (quo m s w)) L ∧ m - sumTo (onO O (quo m s w)) L ≤ (nOf O L : Int) := by
  obtain ⟨h1, h2, h3⟩ := sum_parts (m := m) (w := w) (O := O) hs L
  rw [← he] at h1
  have e : s * (m - sumTo (onO O (quo m s w)) L) = sumTo (onO O (rem m s w)) L := by
    rw [Int.mul_sub, Int.mul_comm s m]; omega
  constructor
  · refine Int.not_lt.1 (fun h => ?_)
    have : s * (m - sumTo (onO O (quo m s w)) L) < s * 0 := Int.mul_lt_mul_of_pos_left h hs
    rw [Int.mul_zero] at this; omega
  · refine Int.not_lt.1 (fun h => ?_)
    have : s * (nOf O L : Int) < s * (m - sumTo (onO O (quo m s w)) L) := Int.mul_lt_mul_of_pos_left h hs
    omega
/-- what is left over -/
def leftT (m s : Int) (w : Nat → Int) (O : Nat → Bool) (L : Nat) : Nat := (m - sumTo (onO O (quo m s w)) L).toNat
/-- what each would get of m -/
noncomputable def wantsF (L : Nat) (m s : Int) (w : Nat → Int) (O : Nat → Bool) : Nat → Int := fun i => onO O (quo m s w) i + (if segOf L O (rem m s w) (leftT m s w O L) i = true then 1 else 0)
/-- who is open -/
def openF (L : Nat) (w c out : Nat → Int) : Nat → Bool := fun i => decide (i < L ∧ 0 < w i ∧ out i < c i)
def openS (L : Nat) (w c out : Nat → Int) : Int := sumTo (onO (openF L w c out) w) L
noncomputable def getsF (L : Nat) (n : Int) (w c out : Nat → Int) : Nat → Int := fun i =>
  if c i - out i < wantsF L n (openS L w c out) w (openF L w c out) i then c i - out i else wantsF L n (openS L w c out) w (openF L w c out) i
open Classical in
noncomputable def divF (L : Nat) (w c : Nat → Int) : Nat → Int → (Nat → Int) → (Nat → Int)
  | 0, _, out => out
  | f + 1, n, out => if 0 < n ∧ 0 < openS L w c out then divF L w c f (n - sumTo (getsF L n w c out) L) (fun i => out i + getsF L n w c out i) else out
theorem divF_end {L : Nat} {w c out : Nat → Int} {f : Nat} {n : Int} (h : ¬ (0 < n ∧ 0 < openS L w c out)) : divF L w c f n out = out := by
  cases f with
  | zero => rfl
  | succ f => unfold divF; rw [if_neg h]
theorem divF_go {L : Nat} {w c out : Nat → Int} {f : Nat} {n : Int} (h : 0 < n ∧ 0 < openS L w c out) : divF L w c (f + 1) n out = divF L w c f (n - sumTo (getsF L n w c out) L) (fun i => out i + getsF L n w c out i) := by
  show (if _ then _ else _) = _
  rw [if_pos h]
theorem sumTo_congr {f g : Nat → Int} : ∀ k, (∀ i, i < k → f i = g i) → sumTo f k = sumTo g k
  | 0, _ => rfl
  | k + 1, h => by unfold sumTo; rw [sumTo_congr k (fun i hi => h i (by omega)), h k (by omega)]
theorem sumTo_le {f g : Nat → Int} : ∀ k, (∀ i, i < k → f i ≤ g i) → sumTo f k ≤ sumTo g k
  | 0, _ => Int.le_refl _
  | k + 1, h => by
    have h1 := sumTo_le k (fun i hi => h i (by omega))
    have h2 := h k (by omega)
    unfold sumTo; omega
theorem sumTo_add (f g : Nat → Int) : ∀ k, sumTo (fun i => f i + g i) k = sumTo f k + sumTo g k
  | 0 => rfl
  | k + 1 => by unfold sumTo; rw [sumTo_add f g k]; omega
theorem sumTo_if (P : Nat → Bool) : ∀ k, sumTo (fun i => if P i = true then (1 : Int) else 0) k = (nOf P k : Int)
  | 0 => rfl
  | k + 1 => by
    unfold sumTo nOf
    rw [sumTo_if P k]
    split <;> push_cast <;> omega
theorem sumTo_pos {f : Nat → Int} : ∀ k, (∀ i, i < k → 0 ≤ f i) → 0 < sumTo f k → ∃ i, i < k ∧ 0 < f i
  | 0, _, h => by simp [sumTo] at h
  | k + 1, hf, h => by
    by_cases hk : 0 < f k
    · exact ⟨k, by omega, hk⟩
    · have := hf k (by omega)
      unfold sumTo at h
      obtain ⟨i, hi, hp⟩ := sumTo_pos k (fun i hi => hf i (by omega)) (by omega)
      exact ⟨i, by omega, hp⟩
theorem sumTo_at {f : Nat → Int} : ∀ k, (∀ i, i < k → 0 ≤ f i) → ∀ j, j < k → f j ≤ sumTo f k
  | 0, _, j, hj => by omega
  | k + 1, hf, j, hj => by
    have h0 : 0 ≤ sumTo f k := by
      have := sumTo_le (f := fun _ => 0) (g := f) k (fun i hi => hf i (by omega))
      have e : sumTo (fun _ => 0) k = 0 := by
        clear this hf hj
        induction k with
        | zero => rfl
        | succ k ih => unfold sumTo; rw [ih]; rfl
      omega
    have hk := hf k (by omega)
    unfold sumTo
    by_cases e : j = k
    · subst e; omega
    · have := sumTo_at k (fun i hi => hf i (by omega)) j (by omega)
      omega
/-- what is wanted is m in all -/
theorem wants_sum {L : Nat} {m s : Int} {w : Nat → Int} {O : Nat → Bool} (hs : 0 < s) (he : s = sumTo (onO O w) L) : sumTo (wantsF L m s w O) L = m := by
  obtain ⟨h1, h2⟩ := left_bd (m := m) hs he
  obtain ⟨P, hP, hn⟩ := seg_ex L O (rem m s w) (leftT m s w O L) (by unfold leftT; omega)
  unfold wantsF
  rw [sumTo_add, segOf_eq hP hn, sumTo_if, hn]
  unfold leftT
  omega
theorem wants_bd {L : Nat} {m s : Int} {w : Nat → Int} {O : Nat → Bool} (hm : 0 ≤ m) (hw : ∀ i, 0 ≤ w i) (hs : 0 < s) (he : s = sumTo (onO O w) L) (i : Nat) : 0 ≤ wantsF L m s w O i ∧ (i < L → wantsF L m s w O i ≤ m) ∧ (O i = false → wantsF L m s w O i = 0) := by
  have h0 : ∀ i, 0 ≤ wantsF L m s w O i := fun i => by
    unfold wantsF onO quo
    have := Int.ediv_nonneg (Int.mul_nonneg hm (hw i)) (show 0 ≤ s by omega)
    split <;> split <;> omega
  refine ⟨h0 i, fun hi => ?_, fun ho => ?_⟩
  · have := sumTo_at L (fun i _ => h0 i) i hi
    rw [wants_sum hs he] at this
    exact this
  · obtain ⟨h1, h2⟩ := left_bd (m := m) hs he
    obtain ⟨P, hP, hn⟩ := seg_ex L O (rem m s w) (leftT m s w O L) (by unfold leftT; omega)
    unfold wantsF onO
    rw [segOf_eq hP hn, if_neg (by rw [ho]; exact Bool.false_ne_true)]
    have : P i ≠ true := fun h => by have := (hP.1 i h).2; rw [ho] at this; cases this
    rw [if_neg this]; rfl
theorem sumTo_nn {f : Nat → Int} {k : Nat} (h : ∀ i, i < k → 0 ≤ f i) : 0 ≤ sumTo f k := by
  induction k with
  | zero => exact Int.le_refl _
  | succ k ih =>
    have h1 := ih (fun i hi => h i (by omega))
    have h2 := h k (by omega)
    unfold sumTo; omega
/-- a round: none gets below 0, none more than its cap leaves; somebody gets something, together not more than there is -/
theorem gets_all {L : Nat} {n : Int} {w c out : Nat → Int} (hn : 0 < n) (hw : ∀ i, 0 ≤ w i) (ho : ∀ i, i < L → 0 ≤ out i ∧ out i ≤ c i) (hs : 0 < openS L w c out) : (∀ i, i < L → 0 ≤ getsF L n w c out i ∧ getsF L n w c out i ≤ c i - out i) ∧ 1 ≤ sumTo (getsF L n w c out) L ∧ sumTo (getsF L n w c out) L ≤ n := by
  have hb := fun i => wants_bd (L := L) (m := n) (O := openF L w c out) (w := w) (by omega) hw hs rfl i
  have h1 : ∀ i, i < L → 0 ≤ getsF L n w c out i ∧ getsF L n w c out i ≤ c i - out i := fun i hi => by
    have := hb i
    have := ho i hi
    unfold getsF
    split <;> omega
  refine ⟨h1, ?_, ?_⟩
  · have hsum := wants_sum (m := n) (w := w) (O := openF L w c out) (L := L) hs rfl
    obtain ⟨i, hi, hp⟩ := sumTo_pos (f := wantsF L n (openS L w c out) w (openF L w c out)) L (fun i _ => (hb i).1) (by have e : sumTo (wantsF L n (openS L w c out) w (openF L w c out)) L = n := hsum; omega)
    have hoi : openF L w c out i = true := by
      cases h : openF L w c out i
      · have := (hb i).2.2 h
        have hp' : 0 < wantsF L n (openS L w c out) w (openF L w c out) i := hp
        omega
      · rfl
    have hoc : out i < c i := by
      unfold openF at hoi
      rw [decide_eq_true_eq] at hoi
      exact hoi.2.2
    have hg : 1 ≤ getsF L n w c out i := by
      unfold getsF
      have hp' : 0 < wantsF L n (openS L w c out) w (openF L w c out) i := hp
      split <;> omega
    have := sumTo_at L (fun j hj => (h1 j hj).1) i hi
    omega
  · have hle := sumTo_le (f := getsF L n w c out) (g := wantsF L n (openS L w c out) w (openF L w c out)) L (fun i _ => by unfold getsF; split <;> omega)
    have hsum := wants_sum (m := n) (w := w) (O := openF L w c out) (L := L) hs rfl
    have e : sumTo (wantsF L n (openS L w c out) w (openF L w c out)) L = n := hsum
    omega
theorem onO_nn {L : Nat} {w c out : Nat → Int} (hw : ∀ i, 0 ≤ w i) : 0 ≤ openS L w c out := sumTo_nn (fun i _ => by unfold onO; split <;> first | exact hw i | exact Int.le_refl _)
/-- nobody has less than nothing, nobody more than its cap -/
theorem divF_bd {L : Nat} {w c : Nat → Int} (hw : ∀ i, 0 ≤ w i) : ∀ (f : Nat) (n : Int) (out : Nat → Int), (∀ i, i < L → 0 ≤ out i ∧ out i ≤ c i) → ∀ i, i < L → 0 ≤ divF L w c f n out i ∧ divF L w c f n out i ≤ c i
  | 0, n, out, h, i, hi => h i hi
  | f + 1, n, out, h, i, hi => by
    by_cases hg : 0 < n ∧ 0 < openS L w c out
    · rw [divF_go hg]
      obtain ⟨h1, -⟩ := gets_all hg.1 hw h hg.2
      exact divF_bd hw f _ _ (fun j hj => by
        have := h1 j hj
        have := h j hj
        omega) i hi
    · rw [divF_end hg]; exact h i hi
end Go.Proofs.YtdnodaoeflbfkaaGreat
/- spec.l6Wants: what each would get. -/
namespace Go.Proofs.YtdnodaoeflbfkaaGreat
open Go.RowKit Go.BigFrame
set_option linter.unusedVariables false
theorem rowIs_below {w w' : World} {b : Nat} {t : TypeId} {n : Nat} {f : Nat → Value} (h : w.rowIs b t n f) (hb : Below w.heap.size w w') : w'.rowIs b t n f := h.of_block (hb.block b h.lt)
theorem cell_lt {w : World} {p : Addr} {v : Value} (h : w.cell? p = some v) : p.block < w.heap.size := by
  simp only [World.cell?] at h
  cases e : w.heap[p.block]? with
  | none => rw [e] at h; cases h
  | some o => exact (Array.getElem?_eq_some_iff.1 e).1
theorem sumTo_succ (f : Nat → Int) (k : Nat) : sumTo f (k + 1) = sumTo f k + f k := rfl
theorem quo_bd {m s : Int} {w : Nat → Int} {i : Nat} (hm : 0 ≤ m) (hs : 0 < s) (hw : 0 ≤ w i) : 0 ≤ quo m s w i ∧ quo m s w i ≤ m * w i ∧ (m * w i).tdiv s = quo m s w i ∧ 0 ≤ rem m s w i ∧ rem m s w i < s ∧ (m * w i).tmod s = rem m s w i := by
  have h := Int.mul_nonneg hm hw
  unfold quo rem
  exact ⟨Int.ediv_nonneg h (by omega), Int.ediv_le_self _ h, Int.tdiv_eq_ediv_of_nonneg h, Int.emod_nonneg _ (by omega), Int.emod_lt_of_pos _ hs, Int.tmod_eq_emod_of_nonneg h⟩
/-- what the rests are while some are served -/
def rO (O : Nat → Bool) (r : Nat → Int) (P : Nat → Bool) : Nat → Int := fun j => if P j = true then -1 else onO O r j
/-- the best of the first p -/
def bestI (O : Nat → Bool) (r : Nat → Int) (p : Nat) (z : Int) : Prop := (z = -1 ∧ ∀ i, i < p → O i = false) ∨ ∃ b : Nat, z = (b : Int) ∧ b < p ∧ O b = true ∧ ∀ i, i < p → O i = true → i ≠ b → ahead r b i
theorem bestI.skip {O : Nat → Bool} {r : Nat → Int} {p : Nat} {z : Int} (h : bestI O r p z) (ho : O p = false) : bestI O r (p + 1) z := by
  rcases h with ⟨h1, h2⟩ | ⟨b, h1, h2, h3, h4⟩
  · refine .inl ⟨h1, fun i hi => ?_⟩
    by_cases e : i = p
    · subst e; exact ho
    · exact h2 i (by omega)
  · refine .inr ⟨b, h1, by omega, h3, fun i hi hoi hne => ?_⟩
    by_cases e : i = p
    · subst e; rw [ho] at hoi; cases hoi
    · exact h4 i (by omega) hoi hne
theorem bestI.fst {O : Nat → Bool} {r : Nat → Int} {p : Nat} (h : ∀ i, i < p → O i = false) (ho : O p = true) : bestI O r (p + 1) (p : Int) := by
  refine .inr ⟨p, rfl, by omega, ho, fun i hi hoi hne => ?_⟩
  have := h i (by omega)
  rw [hoi] at this; cases this
theorem bestI.keep {O : Nat → Bool} {r : Nat → Int} {p b : Nat} (hb : b < p) (hob : O b = true) (h : ∀ i, i < p → O i = true → i ≠ b → ahead r b i) (hle : ¬ r b < r p) : bestI O r (p + 1) (b : Int) := by
  refine .inr ⟨b, rfl, by omega, hob, fun i hi hoi hne => ?_⟩
  by_cases e : i = p
  · subst e; unfold ahead; omega
  · exact h i (by omega) hoi hne
theorem bestI.take {O : Nat → Bool} {r : Nat → Int} {p b : Nat} (hb : b < p) (h : ∀ i, i < p → O i = true → i ≠ b → ahead r b i) (hop : O p = true) (hlt : r b < r p) : bestI O r (p + 1) (p : Int) := by
  refine .inr ⟨p, rfl, by omega, hop, fun i hi hoi hne => ?_⟩
  by_cases e : i = b
  · subst e; exact .inl hlt
  · exact ahead_trans (.inl hlt) (h i (by omega) hoi e)
/-- the best of all is one that was not served yet, and the next to be -/
theorem bestI.end {O P : Nat → Bool} {r : Nat → Int} {L : Nat} {z : Int} (h : bestI O (rO O r P) L z) (hr : ∀ i, i < L → 0 ≤ r i) (hP : Seg L O r P) (hn : nOf P L < nOf O L) : ∃ b : Nat, z = (b : Int) ∧ b < L ∧ O b = true ∧ P b = false ∧ Seg L O r (upB P b) ∧ nOf (upB P b) L = nOf P L + 1 := by
  obtain ⟨i, hi, hoi, hpi⟩ := more_ex hn
  have hri : rO O r P i = r i := by unfold rO onO; rw [if_neg (by rw [hpi]; decide), if_pos hoi]
  rcases h with ⟨h1, h2⟩ | ⟨b, h1, h2, h3, h4⟩
  · have := h2 i hi
    rw [hoi] at this; cases this
  · have hpb : P b = false := by
      cases hpb : P b
      · rfl
      · have hne : i ≠ b := fun e => by subst e; rw [hpi] at hpb; cases hpb
        have ha := h4 i hi hoi hne
        have hrb : rO O r P b = -1 := by unfold rO; rw [if_pos hpb]
        have := hr i hi
        unfold ahead at ha
        rw [hri, hrb] at ha
        omega
    refine ⟨b, h1, h2, h3, hpb, hP.up h2 h3 hpb (fun j hj hoj hpj hne => ?_)⟩
    have ha := h4 j hj hoj hne
    have e1 : rO O r P j = r j := by unfold rO onO; rw [if_neg (by rw [hpj]; decide), if_pos hoj]
    have e2 : rO O r P b = r b := by unfold rO onO; rw [if_neg (by rw [hpb]; decide), if_pos h3]
    unfold ahead at ha ⊢
    rw [e1, e2] at ha
    exact ha
set_option maxRecDepth 20000 in
set_option maxHeartbeats 6400000 in
theorem l6Wants_any (m s : Int) (k1 : Nat) (c1 : UD) (v1 : Value) (lo hi : Nat) (bO : Nat) (O : Nat → Bool) (w : World) (ht1 : tyS 1 k1 c1 1) (hx1 : uS w lo hi 1 k1 c1 v1) (hO : w.rowIs bO 4 k1 (fun j => .bool (O j))) (h64 : k1 ≤ 64) (hm : 0 < m ∧ m ≤ 10000) (hw : ∀ i, i < k1 → 0 ≤ gI (intL c1) i ∧ gI (intL c1) i ≤ 1000) (hs : 0 < s ∧ s ≤ 64000) (he : s = sumTo (onO O (gI (intL c1))) k1) :
    Calls Tryz.prog 142 #[.int .i64 m, v1, .slice (some ⟨bO, 0, none⟩) k1 k1, .int .i64 s] w fun e w' => ∃ b, e = .returned (.slice (some ⟨b, 0, none⟩) k1 k1) ∧ w.heap.size ≤ b ∧ w'.rowIs b 3 k1 (fun j => .int .i64 (wantsF k1 m s (gI (intL c1)) O j)) ∧ Below w.heap.size w w' := by
  obtain ⟨a1, p1, rfl, hy1⟩ := hx1
  have H1 : Hid (uS w lo hi 1 k1 c1 (.slice a1 k1 p1)) := ⟨_, _, rfl, hy1⟩
  have T1 := uhide ht1
  have HO := uhide hO
  have HW := uhide hw
  have HE := uhide he
  have hmk := run_make_row' (P := Tryz.prog) 28 3 (.int .i64 0) 8 Tryz.underlying28 Tryz.infoDInt rfl .i64 .i64 k1 (by omega) (by omega)
  clear hy1 ht1 hO hw he
  go_enter Tryz.func142, Tryz.ntmps142
  go_wp2
  have R0 : Hid (World.rowIs ((w.alloc (.cells (madeCells #[.int .i64 0] k1) 3)).alloc (.cells (madeCells #[.int .i64 0] k1) 3)) w.heap.size 3 k1 (fun j => .int .i64 (if j < 0 then onO O (quo m s (gI (intL c1))) j else 0))) := ((World.rowIs_made w (.int .i64 0) k1 3).alloc _).congr (fun i _ => by rw [if_neg (by omega)])
  have R1 : Hid (World.rowIs ((w.alloc (.cells (madeCells #[.int .i64 0] k1) 3)).alloc (.cells (madeCells #[.int .i64 0] k1) 3)) (w.heap.size + 1) 3 k1 (fun j => .int .i64 (if j < 0 then onO O (rem m s (gI (intL c1))) j else 0))) := by
    have h := (World.rowIs_made (w.alloc (.cells (madeCells #[.int .i64 0] k1) 3)) (.int .i64 0) k1 3)
    have e : (w.alloc (.cells (madeCells #[.int .i64 0] k1) 3)).heap.size = w.heap.size + 1 := by simp
    rw [e] at h
    exact h.congr (fun i _ => by rw [if_neg (by omega)])
  have HB0 : Hid (Below w.heap.size w ((w.alloc (.cells (madeCells #[.int .i64 0] k1) 3)).alloc (.cells (madeCells #[.int .i64 0] k1) 3))) := ((Below.refl _ _).alloc (Nat.le_refl _) _).alloc (by simp) _
  clear hmk
  have hfor := HO.out.lt
  go_loopw [11, 12] (fun l i wr => ∃ (q : Nat), q ≤ k1 ∧ i = .int .i64 q ∧ l = .int .i64 (m - sumTo (onO O (quo m s (gI (intL c1)))) q) ∧ Hid (wr.rowIs w.heap.size 3 k1 (fun j => .int .i64 (if j < q then onO O (quo m s (gI (intL c1))) j else 0))) ∧ Hid (wr.rowIs (w.heap.size + 1) 3 k1 (fun j => .int .i64 (if j < q then onO O (rem m s (gI (intL c1))) j else 0))) ∧ Hid (Below w.heap.size w wr)) (fun _ i _ => k1 - (intOf i).toNat)
  case atStart => exact ⟨0, Nat.zero_le _, rfl, by simp [sumTo], R0, R1, HB0⟩
  case round =>
    clear R0 R1 HB0
    obtain ⟨q, hq, rfl, rfl, R0, R1, HB⟩ := hrel
    by_cases hlt : q < k1
    · obtain ⟨b1, off1, rfl, hb1, -⟩ := (H1.out.below HB.out).cells (by omega)
      have q1 := cell_int T1.out (H1.out.below HB.out) q hlt
      have hb1l : b1 < w.heap.size := cell_lt (cell_int T1.out H1.out q hlt)
      have hne : b1 ≠ w.heap.size := by omega
      have hne' : b1 ≠ w.heap.size + 1 := by omega
      have qO := (rowIs_below HO.out HB.out).cell hlt
      have x0 := R0.out.cell hlt
      have f0 := R0.out.frozen q
      have x1 := R1.out.cell hlt
      have f1 := R1.out.frozen q
      have hwq := HW.out q hlt
      obtain ⟨d1, d2, d3, d4, d5, d6⟩ := quo_bd (i := q) (by omega) hs.1 hwq.1 (m := m) (w := gI (intL c1))
      have hmw := Int.mul_le_mul hm.2 hwq.2 hwq.1 (by omega)
      have hmw0 := Int.mul_nonneg (show 0 ≤ m by omega) hwq.1
      have hsq := sumTo_bd (f := onO O (quo m s (gI (intL c1)))) (m := 10000000) (n := q) (fun i hi => by
        have hwi := HW.out i (by omega)
        obtain ⟨e1, e2, -⟩ := quo_bd (i := i) (by omega) hs.1 hwi.1 (m := m) (w := gI (intL c1))
        have := Int.mul_le_mul hm.2 hwi.2 hwi.1 (by omega)
        unfold onO; split <;> omega) q (Nat.le_refl _)
      cases hoq : O q
      · rw [hoq] at qO
        have HS : Hid (m - sumTo (onO O (quo m s (gI (intL c1)))) (q + 1) = m - sumTo (onO O (quo m s (gI (intL c1)))) q) := by
          show _ = _
          rw [sumTo_succ]; unfold onO; rw [if_neg (by rw [hoq]; decide)]; omega
        have R0' : Hid (wr.rowIs w.heap.size 3 k1 (fun j => .int .i64 (if j < q + 1 then onO O (quo m s (gI (intL c1))) j else 0))) := R0.out.congr (fun j _ => by
          by_cases e : j = q
          · subst e; rw [if_neg (by omega), if_pos (by omega)]; unfold onO; rw [if_neg (by rw [hoq]; decide)]
          · by_cases h : j < q
            · rw [if_pos h, if_pos (by omega)]
            · rw [if_neg h, if_neg (by omega)])
        have R1' : Hid (wr.rowIs (w.heap.size + 1) 3 k1 (fun j => .int .i64 (if j < q + 1 then onO O (rem m s (gI (intL c1))) j else 0))) := R1.out.congr (fun j _ => by
          by_cases e : j = q
          · subst e; rw [if_neg (by omega), if_pos (by omega)]; unfold onO; rw [if_neg (by rw [hoq]; decide)]
          · by_cases h : j < q
            · rw [if_pos h, if_pos (by omega)]
            · rw [if_neg h, if_neg (by omega)])
        clear x0 x1 f0 f1 R0 R1 q1 H1 T1 HO HW HE d1 d2 d3 d4 d5 d6 hmw hmw0
        go_wp2
        go_roundw
        case rel => exact ⟨q + 1, by omega, by go_num, by rw [HS.out], R0', R1', HB⟩
        case measure => simp [intOf]; omega
      · rw [hoq] at qO
        have HS : Hid (m - sumTo (onO O (quo m s (gI (intL c1)))) (q + 1) = m - sumTo (onO O (quo m s (gI (intL c1)))) q - quo m s (gI (intL c1)) q) := by
          show _ = _
          rw [sumTo_succ]; unfold onO; rw [if_pos hoq]; omega
        have R0' : Hid (World.rowIs ((wr.setCell ⟨w.heap.size, q, none⟩ (.int .i64 (quo m s (gI (intL c1)) q))).setCell ⟨w.heap.size + 1, q, none⟩ (.int .i64 (rem m s (gI (intL c1)) q))) w.heap.size 3 k1 (fun j => .int .i64 (if j < q + 1 then onO O (quo m s (gI (intL c1))) j else 0))) := ((R0.out.set q (.int .i64 (quo m s (gI (intL c1)) q))).setOther (a := ⟨w.heap.size + 1, q, none⟩) (by simp) _).congr (fun j _ => by
          by_cases e : j = q
          · subst e; rw [if_pos rfl, if_pos (by omega)]; unfold onO; rw [if_pos hoq]
          · rw [if_neg e]
            by_cases h : j < q
            · rw [if_pos h, if_pos (by omega)]
            · rw [if_neg h, if_neg (by omega)])
        have R1' : Hid (World.rowIs ((wr.setCell ⟨w.heap.size, q, none⟩ (.int .i64 (quo m s (gI (intL c1)) q))).setCell ⟨w.heap.size + 1, q, none⟩ (.int .i64 (rem m s (gI (intL c1)) q))) (w.heap.size + 1) 3 k1 (fun j => .int .i64 (if j < q + 1 then onO O (rem m s (gI (intL c1))) j else 0))) := ((R1.out.setOther (a := ⟨w.heap.size, q, none⟩) (by simp) _).set q (.int .i64 (rem m s (gI (intL c1)) q))).congr (fun j _ => by
          by_cases e : j = q
          · subst e; rw [if_pos rfl, if_pos (by omega)]; unfold onO; rw [if_pos hoq]
          · rw [if_neg e]
            by_cases h : j < q
            · rw [if_pos h, if_pos (by omega)]
            · rw [if_neg h, if_neg (by omega)])
        have HB' : Hid (Below w.heap.size w ((wr.setCell ⟨w.heap.size, q, none⟩ (.int .i64 (quo m s (gI (intL c1)) q))).setCell ⟨w.heap.size + 1, q, none⟩ (.int .i64 (rem m s (gI (intL c1)) q)))) := (HB.out.setCell (by simp) _).setCell (by simp) _
        generalize sumTo (onO O (quo m s (gI (intL c1)))) q = SQ at *
        generalize quo m s (gI (intL c1)) q = QQ at *
        generalize rem m s (gI (intL c1)) q = RR at *
        generalize gI (intL c1) q = X at *
        clear R0 R1 H1 T1 HO HW HE
        go_wp2
        go_roundw
        case rel => exact ⟨q + 1, by omega, by go_num, by rw [HS.out], R0', R1', HB'⟩
        case measure => simp [intOf]; omega
    · have e : q = k1 := by omega
      subst e
      obtain ⟨hl0, hl1⟩ := left_bd (m := m) hs.1 HE.out
      have HQB : Hid (∀ i, i < q → 0 ≤ onO O (quo m s (gI (intL c1))) i ∧ onO O (quo m s (gI (intL c1))) i ≤ 10000000) := fun i hi => by
        have hwi := HW.out i hi
        obtain ⟨e1, e2, -⟩ := quo_bd (i := i) (by omega) hs.1 hwi.1 (m := m) (w := gI (intL c1))
        have := Int.mul_le_mul hm.2 hwi.2 hwi.1 (by omega)
        unfold onO; split <;> omega
      have HRB : Hid (∀ i, i < q → 0 ≤ rem m s (gI (intL c1)) i) := fun i hi => (quo_bd (i := i) (by omega) hs.1 (HW.out i hi).1 (m := m) (w := gI (intL c1))).2.2.2.1
      have HRC : Hid (∀ i, i < q → rem m s (gI (intL c1)) i < s) := fun i hi => (quo_bd (i := i) (by omega) hs.1 (HW.out i hi).1 (m := m) (w := gI (intL c1))).2.2.2.2.1
      have HWF : Hid (∀ P, Seg q O (rem m s (gI (intL c1))) P → nOf P q = leftT m s (gI (intL c1)) O q → ∀ j, wantsF q m s (gI (intL c1)) O j = onO O (quo m s (gI (intL c1))) j + (if P j = true then 1 else 0)) := fun P hP hn j => by
        unfold wantsF; rw [segOf_eq hP hn]
      have hT : ((leftT m s (gI (intL c1)) O q : Nat) : Int) = m - sumTo (onO O (quo m s (gI (intL c1)))) q := by unfold leftT; omega
      rw [← hT] at hl1 ⊢
      have hTn : leftT m s (gI (intL c1)) O q ≤ nOf O q := by omega
      have hTm : leftT m s (gI (intL c1)) O q ≤ 10000 := by
        have := (sumTo_bd (f := onO O (quo m s (gI (intL c1)))) (m := 10000000) (n := q) HQB.out q (Nat.le_refl _)).1
        omega
      have R0' : Hid (wr.rowIs w.heap.size 3 q (fun j => .int .i64 (onO O (quo m s (gI (intL c1))) j + (if (fun _ => false : Nat → Bool) j = true then 1 else 0)))) := R0.out.congr (fun j hj => by rw [if_pos hj, if_neg (by simp), Int.add_zero])
      have R1' : Hid (wr.rowIs (w.heap.size + 1) 3 q (fun j => .int .i64 (rO O (rem m s (gI (intL c1))) (fun _ => false) j))) := R1.out.congr (fun j hj => by rw [if_pos hj]; unfold rO; rw [if_neg (by simp)])
      obtain ⟨hS0, hN0⟩ := Seg.none q O (rem m s (gI (intL c1)))
      have HS0 := uhide hS0
      have HN0 := uhide hN0
      generalize leftT m s (gI (intL c1)) O q = T0 at *
      generalize onO O (quo m s (gI (intL c1))) = Bf at *
      generalize rem m s (gI (intL c1)) = Rf at *
      clear R0 R1 hS0 hN0 hT hl0 hl1 HE HW
      go_wp2
      go_loopw [11] (fun l w2 => ∃ (t : Nat) (P : Nat → Bool), t ≤ T0 ∧ l = .int .i64 ((T0 : Int) - (t : Int)) ∧ Hid (Seg q O Rf P) ∧ Hid (nOf P q = t) ∧ Hid (w2.rowIs w.heap.size 3 q (fun j => .int .i64 (Bf j + (if P j = true then 1 else 0)))) ∧ Hid (w2.rowIs (w.heap.size + 1) 3 q (fun j => .int .i64 (rO O Rf P j))) ∧ Hid (Below w.heap.size w w2)) (fun l _ => (intOf l).toNat)
      case atStart => exact ⟨0, _, Nat.zero_le _, by simp, HS0, HN0, R0', R1', HB⟩
      case round =>
        clear R0' R1' HB HS0 HN0
        obtain ⟨w2, rfl⟩ : ∃ w2, w2 = wr := ⟨_, rfl⟩
        obtain ⟨t, P, ht, rfl, HS, HN, R0, R1, HB⟩ := hrel
        by_cases htt : t < T0
        · go_wp2
          go_loopw [13, 14] (fun b i w3 => ∃ (p : Nat) (z : Int), p ≤ q ∧ i = .int .i64 p ∧ b = .int .i64 z ∧ Hid (bestI O (rO O Rf P) p z) ∧ Hid (Below w2.heap.size w2 w3)) (fun _ i _ => q - (intOf i).toNat)
          case atStart => exact ⟨0, -1, Nat.zero_le _, rfl, rfl, .inl ⟨rfl, fun i hi => by omega⟩, Below.refl _ _⟩
          case round =>
            obtain ⟨w3, rfl⟩ : ∃ w3, w3 = wr := ⟨_, rfl⟩
            obtain ⟨p, z, hp, rfl, rfl, HBI, HBx⟩ := hrel
            have HBw : Hid (Below w.heap.size w w3) := HB.out.trans (HBx.out.mono HB.out.size)
            by_cases hpl : p < q
            · have qO := (rowIs_below HO.out HBw.out).cell hpl
              have x1 := (rowIs_below R1.out HBx.out).cell hpl
              cases hop : O p
              · rw [hop] at qO
                have HN2 := uhide (HBI.out.skip hop)
                clear HBI R0 R1 HS HN HO HWF HRB HRC HQB H1 T1
                go_wp2
                go_quiet (fail)
                go_wp2
                go_roundw
                case rel => exact ⟨p + 1, z, by omega, by go_num, rfl, HN2, below_drewN HBx.out _⟩
                case measure => simp [intOf]; omega
              · rw [hop] at qO
                rcases HBI.out with ⟨rfl, h2⟩ | ⟨b, rfl, hb, hob, h4⟩
                · have HN2 : Hid (bestI O (rO O Rf P) (p + 1) (p : Int)) := bestI.fst h2 hop
                  clear HBI R0 R1 HS HN HO HWF HRB HRC HQB H1 T1 h2
                  go_wp2
                  go_quiet (fail)
                  go_wp2
                  go_roundw
                  case rel => exact ⟨p + 1, p, by omega, by go_num, rfl, HN2, below_drewN HBx.out _⟩
                  case measure => simp [intOf]; omega
                · have x1b := (rowIs_below R1.out HBx.out).cell (show b < q by omega)
                  have z0 : decide ((b : Int) < 0) = false := by rw [decide_eq_false_iff_not]; omega
                  by_cases hlr : rO O Rf P b < rO O Rf P p
                  · have HN2 : Hid (bestI O (rO O Rf P) (p + 1) (p : Int)) := bestI.take hb h4 hop hlr
                    generalize rO O Rf P b = Rb at *
                    generalize rO O Rf P p = Rp at *
                    clear HBI R0 R1 HS HN HO HWF HRB HRC HQB H1 T1 h4
                    go_wp2
                    go_quiet (fail)
                    go_wp2
                    go_roundw
                    case rel => exact ⟨p + 1, p, by omega, by go_num, rfl, HN2, below_drewN HBx.out _⟩
                    case measure => simp [intOf]; omega
                  · have HN2 : Hid (bestI O (rO O Rf P) (p + 1) (b : Int)) := bestI.keep hb hob h4 hlr
                    have z1 : decide (rO O Rf P b < rO O Rf P p) = false := by rw [decide_eq_false_iff_not]; exact hlr
                    generalize rO O Rf P b = Rb at *
                    generalize rO O Rf P p = Rp at *
                    clear HBI R0 R1 HS HN HO HWF HRB HRC HQB H1 T1 h4
                    go_wp2
                    go_quiet (fail)
                    go_wp2
                    go_roundw
                    case rel => exact ⟨p + 1, b, by omega, by go_num, rfl, HN2, below_drewN HBx.out _⟩
                    case measure => simp [intOf]; omega
            · have e : p = q := by omega
              subst e
              obtain ⟨b, rfl, hb, hob, hpb, hseg, hcnt⟩ := HBI.out.end HRB.out HS.out (by rw [HN.out]; omega)
              have HSb := uhide hseg
              have HNb : Hid (nOf (upB P b) p = t + 1) := by show _ = _; rw [hcnt, HN.out]
              have x0 := (rowIs_below R0.out HBx.out).cell hb
              rw [if_neg (by rw [hpb]; decide), Int.add_zero] at x0
              have f0 := (rowIs_below R0.out HBx.out).frozen b
              have x1 := (rowIs_below R1.out HBx.out).cell hb
              have f1 := (rowIs_below R1.out HBx.out).frozen b
              have hbf := HQB.out b hb
              have R0b : Hid (World.rowIs ((w3.setCell ⟨w.heap.size, b, none⟩ (.int .i64 (Bf b + 1))).setCell ⟨w.heap.size + 1, b, none⟩ (.int .i64 (-1))) w.heap.size 3 p (fun j => .int .i64 (Bf j + (if upB P b j = true then 1 else 0)))) := (((rowIs_below R0.out HBx.out).set b (.int .i64 (Bf b + 1))).setOther (a := ⟨w.heap.size + 1, b, none⟩) (by simp) _).congr (fun j _ => by
                by_cases e : j = b
                · subst e; rw [if_pos rfl, upB_self, if_pos rfl]
                · rw [if_neg e, upB_ne e])
              have R1b : Hid (World.rowIs ((w3.setCell ⟨w.heap.size, b, none⟩ (.int .i64 (Bf b + 1))).setCell ⟨w.heap.size + 1, b, none⟩ (.int .i64 (-1))) (w.heap.size + 1) 3 p (fun j => .int .i64 (rO O Rf (upB P b) j))) := (((rowIs_below R1.out HBx.out).setOther (a := ⟨w.heap.size, b, none⟩) (by simp) _).set b (.int .i64 (-1))).congr (fun j _ => by
                by_cases e : j = b
                · subst e; rw [if_pos rfl]; unfold rO; rw [upB_self, if_pos rfl]
                · rw [if_neg e]; unfold rO; rw [upB_ne e])
              have HBb : Hid (Below w.heap.size w ((w3.setCell ⟨w.heap.size, b, none⟩ (.int .i64 (Bf b + 1))).setCell ⟨w.heap.size + 1, b, none⟩ (.int .i64 (-1)))) := (HBw.out.setCell (by simp) _).setCell (by simp) _
              clear HBI R0 R1 HS HN HO HWF HRB HRC HQB H1 T1 hseg hcnt hpb hob
              generalize Bf b = Bb at *
              generalize rO O Rf P b = Rb at *
              go_wp2
              go_roundw
              case rel => exact ⟨t + 1, upB P b, by omega, by go_num, HSb, HNb, R0b, R1b, HBb⟩
              case measure => simp [intOf]; omega
        · have e : t = T0 := by omega
          subst e
          have RW : Hid (w2.rowIs w.heap.size 3 q (fun j => .int .i64 (wantsF q m s (gI (intL c1)) O j))) := R0.out.congr (fun j _ => by rw [HWF.out P HS.out HN.out j])
          clear R0 R1 HS HN HO HWF HRB HRC HQB H1 T1
          go_wp2
          go_ret
          exact ⟨w.heap.size, rfl, Nat.le_refl _, RW.out, HB.out⟩
end Go.Proofs.YtdnodaoeflbfkaaGreat
