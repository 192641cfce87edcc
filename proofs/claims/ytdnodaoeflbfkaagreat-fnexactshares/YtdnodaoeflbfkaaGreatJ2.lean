/- Texts of one claim, joined: each in its own section, in build order. -/
import Derived.Test.YtdnodaoeflbfkaaGreatChecked
import Derived.Test.YtdnodaoeflbfkaaGreatJ1
import Derived.Outline
import Derived.Deep.RegionWith
namespace Go.Proofs.YtdnodaoeflbfkaaGreat
open Go.RowKit

/-- rows of labels: slot 2i holds the key, slot 2i+1 the value -/
def labsAt (w : World) (b off : Nat) (ls : List (ByteArray × ByteArray)) : Prop :=
  ∀ i (h : i < ls.length), w.cell? ⟨b, off + i * 2, none⟩ = some (.string (ls[i]'h).1) ∧ w.cell? ⟨b, off + i * 2 + 1, none⟩ = some (.string (ls[i]'h).2)

def szOne (k v : Nat) (left : Int) : Int := if left - k < 0 then -1 else if left - k - v < 0 then -1 else left - k - v

theorem szLabel_any (k v : ByteArray) (left : Int) (w : World) (hk : k.size ≤ maxLen) (hv : v.size ≤ maxLen) (h0 : 0 ≤ left) (h1 : left ≤ 1048576) :
    Calls Tryz.prog 193 #[.agg #[.string k, .string v], .int .i64 left] w fun e w' => e = .returned (.int .i64 (szOne k.size v.size left)) ∧ Below w.heap.size w w' := by
  unfold maxLen at hk hv
  by_cases c1 : left - (k.size : Int) < 0
  · have E : Hid (szOne k.size v.size left = -1) := by unfold Hid szOne; rw [if_pos c1]
    go_enter Tryz.func193, Tryz.ntmps193
    go_wp2
    go_ret
    exact ⟨ret_int E.out.symm, (Below.refl _ _).alloc (Nat.le_refl _) _⟩
  by_cases c2 : left - (k.size : Int) - (v.size : Int) < 0
  · have E : Hid (szOne k.size v.size left = -1) := by unfold Hid szOne; rw [if_neg c1, if_pos c2]
    go_enter Tryz.func193, Tryz.ntmps193
    go_wp2
    go_ret
    exact ⟨ret_int E.out.symm, (Below.refl _ _).alloc (Nat.le_refl _) _⟩
  · have E : Hid (szOne k.size v.size left = left - k.size - v.size) := by unfold Hid szOne; rw [if_neg c1, if_neg c2]
    go_enter Tryz.func193, Tryz.ntmps193
    go_wp2
    go_ret
    exact ⟨ret_int E.out.symm, (Below.refl _ _).alloc (Nat.le_refl _) _⟩

theorem eqLabel_any (k v k' v' : ByteArray) (w : World) :
    Calls Tryz.prog 211 #[.agg #[.string k, .string v], .agg #[.string k', .string v']] w fun e w' => e = .returned (.bool (decide ((k, v) = (k', v')))) ∧ Below w.heap.size w w' := by
  have e1 := beq_str k k'
  have e2 := beq_str v v'
  by_cases c1 : k = k'
  · by_cases c2 : v = v'
    · have E : Hid (decide ((k, v) = (k', v')) = true) := by simp [Hid, c1, c2]
      rw [decide_eq_true c1] at e1
      rw [decide_eq_true c2] at e2
      clear c1 c2
      go_enter Tryz.func211, Tryz.ntmps211
      go_wp2
      go_ret
      exact ⟨ret_bool E.out.symm, ((Below.refl _ _).alloc (Nat.le_refl _) _).alloc (by simp) _⟩
    · have E : Hid (decide ((k, v) = (k', v')) = false) := by simp [Hid, c2]
      rw [decide_eq_true c1] at e1
      rw [decide_eq_false c2] at e2
      clear c1 c2
      go_enter Tryz.func211, Tryz.ntmps211
      go_wp2
      go_ret
      exact ⟨ret_bool E.out.symm, ((Below.refl _ _).alloc (Nat.le_refl _) _).alloc (by simp) _⟩
  · have E : Hid (decide ((k, v) = (k', v')) = false) := by simp [Hid, c1]
    rw [decide_eq_false c1] at e1
    clear c1 e2
    go_enter Tryz.func211, Tryz.ntmps211
    go_wp2
    go_ret
    exact ⟨ret_bool E.out.symm, ((Below.refl _ _).alloc (Nat.le_refl _) _).alloc (by simp) _⟩

theorem toLabel_any (k v : ByteArray) (w : World) :
    Calls Tryz.prog 197 #[.agg #[.string k, .string v]] w fun e w' => e = .returned (.agg #[.string k, .string v]) ∧ Below w.heap.size w w' := by
  go_enter Tryz.func197, Tryz.ntmps197
  go_wp2
  exact bodyPost_ret (v := .agg #[.string k, .string v]) (by simp [results, Tryz.results197, go_sem]) rfl ⟨rfl, (((Below.refl _ _).alloc (Nat.le_refl _) _).alloc (by simp) _).alloc (by simp; omega) _⟩

def szAll : List (ByteArray × ByteArray) → Int → Int
  | [], l => l
  | p :: r, l => if szOne p.1.size p.2.size l < 0 then -1 else szAll r (szOne p.1.size p.2.size l)
def szS (ls : List (ByteArray × ByteArray)) (left : Int) : Int := if left - ls.length < 0 then -1 else szAll ls (left - ls.length)
def okSizes (ls : List (ByteArray × ByteArray)) : Prop := ∀ p ∈ ls, p.1.size ≤ maxLen ∧ p.2.size ≤ maxLen
theorem szOne_le (k v : Nat) (l : Int) : szOne k v l ≤ l ∨ szOne k v l = -1 := by unfold szOne; split; exact .inr rfl; split; exact .inr rfl; left; omega
theorem szAll_drop (ls : List (ByteArray × ByteArray)) (k : Nat) (h : k < ls.length) (l : Int) : szAll (ls.drop k) l = if szOne (ls[k]'h).1.size (ls[k]'h).2.size l < 0 then -1 else szAll (ls.drop (k + 1)) (szOne (ls[k]'h).1.size (ls[k]'h).2.size l) := by
  rw [List.drop_eq_getElem_cons h]; rfl

theorem szLabelS_any (a : Option Addr) (cap : Nat) (ls : List (ByteArray × ByteArray)) (left : Int) (w : World) (hl : ls.length ≤ maxLen) (hz : okSizes ls) (h0 : 0 ≤ left) (h1 : left ≤ 1048576)
    (hrow : 0 < ls.length → ∃ b off, a = some ⟨b, off, none⟩ ∧ labsAt w b off ls) :
    Calls Tryz.prog 136 #[.slice a ls.length cap, .int .i64 left] w fun e w' => e = .returned (.int .i64 (szS ls left)) ∧ Below w.heap.size w w' := by
  unfold maxLen at hl
  by_cases c1 : left - (ls.length : Int) < 0
  · have E : Hid (szS ls left = -1) := by unfold Hid szS; rw [if_pos c1]
    clear hrow hz
    go_enter Tryz.func136, Tryz.ntmps136
    go_wp2
    go_ret
    exact ⟨ret_int E.out.symm, Below.refl _ _⟩
  have E : Hid (szS ls left = szAll ls (left - ls.length)) := by unfold Hid szS; rw [if_neg c1]
  have hrow' := hrow
  have Hr : Hid (0 < ls.length → ∃ b off, a = some ⟨b, off, none⟩ ∧ labsAt w b off ls) := hrow'
  have Hz : Hid (okSizes ls) := hz
  clear hrow hrow' hz
  go_enter Tryz.func136, Tryz.ntmps136
  go_wp2
  go_loopw [1, 5] (fun l i wr => ∃ (k : Nat) (x : Int), k ≤ ls.length ∧ i = .int .i64 k ∧ l = .int .i64 x ∧ 0 ≤ x ∧ x ≤ 1048576 ∧ Hid (szAll (ls.drop k) x = szAll ls (left - ls.length)) ∧ Below w.heap.size w wr) (fun _ i _ => ls.length - (intOf i).toNat)
  case atStart => exact ⟨0, _, Nat.zero_le _, rfl, rfl, by omega, by omega, rfl, Below.refl _ _⟩
  case round =>
    obtain ⟨k, x, hk, rfl, rfl, hx0, hx1, hsz, hbw⟩ := hrel
    by_cases hlt : k < ls.length
    · obtain ⟨b, off, rfl, hat⟩ := Hr.out (by omega)
      have hbb : b < w.heap.size := World.block_lt_of_cell? _ _ (hat k hlt).1
      have c0 := (hbw.cell (p := ⟨b, off + k * 2, none⟩) hbb).trans (hat k hlt).1
      have c2 := (hbw.cell (p := ⟨b, off + k * 2 + 1, none⟩) hbb).trans (hat k hlt).2
      have hz := (Hz.out _ (List.getElem_mem hlt))
      have hn := szAll_drop ls k hlt x
      obtain ⟨K, V, hkv⟩ : ∃ K V, ls[k]'hlt = (K, V) := ⟨_, _, rfl⟩
      rw [hkv] at c0 c2 hz hn
      clear hkv
      simp only at c0 c2 hz hn
      have hs := szOne_le K.size V.size x
      by_cases hneg : szOne K.size V.size x < 0
      · have hr : Hid (szAll ls (left - ls.length) = -1) := by rw [← hsz.out, hn, if_pos hneg]; rfl
        clear hn hat hsz
        go_wp2_with (go_at_call 193; refine (szLabel_any _ _ _ _ hz.1 hz.2 hx0 hx1).mono ?_; rintro e w' ⟨rfl, hb⟩)
        go_ret
        exact ⟨ret_int (by rw [E.out, hr.out]), hbw.trans (hb.mono hbw.size)⟩
      · have hr : Hid (szAll (ls.drop (k + 1)) (szOne K.size V.size x) = szAll ls (left - ls.length)) := by rw [← hsz.out, hn, if_neg hneg]; rfl
        clear hn hat hsz
        go_wp2_with (go_at_call 193; refine (szLabel_any _ _ _ _ hz.1 hz.2 hx0 hx1).mono ?_; rintro e w' ⟨rfl, hb⟩)
        go_roundw
        case rel => exact ⟨k + 1, _, by omega, by go_num, rfl, by omega, by omega, hr, hbw.trans (hb.mono hbw.size)⟩
        case measure => simp [intOf]; omega
    · have e : k = ls.length := by omega
      subst e
      have hr : Hid (szAll ls (left - ls.length) = x) := by rw [← hsz.out, List.drop_length]; rfl
      clear hsz
      go_wp2
      go_ret
      exact ⟨ret_int (by rw [E.out, hr.out]), hbw⟩

theorem Tryz.info44 : (Tryz.prog.info? 210).map (fun i => (i.zero, i.size, i.bytes)) = some (some (.agg #[.string ByteArray.empty, .string ByteArray.empty]), 2, 32) := by kernel_rfl
def flat (ls : List (ByteArray × ByteArray)) : List Value := ls.flatMap fun p => [.string p.1, .string p.2]
theorem flat_length (ls : List (ByteArray × ByteArray)) : (flat ls).length = ls.length * 2 := by
  induction ls with
  | nil => rfl
  | cons p r ih => simp only [flat, List.flatMap_cons, List.length_append, List.length_cons, List.length_nil] at *; omega
theorem flat_get (ls : List (ByteArray × ByteArray)) : ∀ (i : Nat) (h : i < ls.length), (flat ls)[i * 2]? = some (.string (ls[i]'h).1) ∧ (flat ls)[i * 2 + 1]? = some (.string (ls[i]'h).2) := by
  induction ls with
  | nil => intro i h; simp at h
  | cons p r ih =>
    intro i h
    have e : flat (p :: r) = .string p.1 :: .string p.2 :: flat r := rfl
    cases i with
    | zero => simp [e]
    | succ i =>
      have := ih i (by simpa using h)
      rw [e, show (i + 1) * 2 = i * 2 + 1 + 1 from by omega]
      simpa using this

theorem owns_below {w w' : World} {base g n cap : Nat} {e : TypeId} {size : Nat} {xs : List Value} (h : w.ownsRow base e size (.slice (some ⟨g, 0, none⟩) n cap) n xs) (hb : Below w.heap.size w w') :
    w'.ownsRow base e size (.slice (some ⟨g, 0, none⟩) n cap) n xs := by
  obtain ⟨h1, h2⟩ := h
  rcases h2 with ⟨h, _⟩ | ⟨g', cap', cur, h, hg, hh, r⟩
  · cases h
  · cases h
    refine ⟨h1, .inr ⟨g, cap, cur, rfl, hg, ?_, r⟩⟩
    rw [hb.block g (Array.getElem?_eq_some_iff.1 hh).1]
    exact hh

theorem toLabelS_any (a : Option Addr) (cap : Nat) (ls : List (ByteArray × ByteArray)) (w : World) (hl : ls.length ≤ 1048576)
    (hrow : 0 < ls.length → ∃ b off, a = some ⟨b, off, none⟩ ∧ labsAt w b off ls) :
    Calls Tryz.prog 145 #[.slice a ls.length cap] w fun e w' => ∃ g, e = .returned (.slice (some ⟨g, 0, none⟩) ls.length ls.length) ∧
      w'.ownsRow w.heap.size 210 2 (.slice (some ⟨g, 0, none⟩) ls.length ls.length) ls.length (flat ls) ∧ Below w.heap.size w w' := by
  obtain ⟨i0, hi, hz0, hz1, hz2⟩ := info_parts Tryz.info44
  have Hr : Hid (0 < ls.length → ∃ b off, a = some ⟨b, off, none⟩ ∧ labsAt w b off ls) := hrow
  clear hrow
  go_enter Tryz.func145, Tryz.ntmps145
  go_wp2_with (at_make; refine wpList_make_full _ rfl _ _ 109 rfl w.heap.size 210 i0 _ 2 Tryz.underlying109 hi hz0 hz1 _ _ _ _ ls.length rfl rfl rfl rfl (by rw [hz2]; omega) (by unfold maxLen; omega) (Nat.le_refl _) ?_; intro w1 hown hgrow)
  go_loopw [4] (fun i wr => ∃ (k : Nat) (xs : List Value), k ≤ ls.length ∧ i = .int .i64 k ∧ wr.ownsRow w.heap.size 210 2 (.slice (some ⟨w.heap.size, 0, none⟩) ls.length ls.length) ls.length xs ∧
      Hid (∀ j, j < k * 2 → xs[j]? = (flat ls)[j]?) ∧ Below w.heap.size w wr) (fun i _ => ls.length - (intOf i).toNat)
  case atStart => exact ⟨0, _, Nat.zero_le _, rfl, hown, fun j hj => by omega, Below.grown (Below.refl _ _) hgrow (Nat.le_refl _) (fun k hk => by cases hk)⟩
  case round =>
    obtain ⟨k, xs, hk, rfl, how, Hx, hbw⟩ := hrel
    clear hown hgrow
    by_cases hlt : k < ls.length
    · obtain ⟨b, off, rfl, hat⟩ := Hr.out (by omega)
      have hbb : b < w.heap.size := World.block_lt_of_cell? _ _ (hat k hlt).1
      have c0 := (hbw.cell (p := ⟨b, off + k * 2, none⟩) hbb).trans (hat k hlt).1
      have c2 := (hbw.cell (p := ⟨b, off + k * 2 + 1, none⟩) hbb).trans (hat k hlt).2
      have hf := flat_get ls k hlt
      obtain ⟨K, V, hkv⟩ : ∃ K V, ls[k]'hlt = (K, V) := ⟨_, _, rfl⟩
      rw [hkv] at c0 c2 hf
      clear hkv hat
      simp only at c0 c2 hf
      have Hf : Hid ((flat ls)[k * 2]? = some (.string K) ∧ (flat ls)[k * 2 + 1]? = some (.string V)) := hf
      have How : Hid (wr.ownsRow w.heap.size 210 2 (.slice (some ⟨w.heap.size, 0, none⟩) ls.length ls.length) ls.length xs) := how
      have hxl : xs.length = ls.length * 2 := how.1
      have g0 : xs[k * 2]? = some (xs[k * 2]'(by omega)) := List.getElem?_eq_getElem _
      have g1 : xs[k * 2 + 1]? = some (xs[k * 2 + 1]'(by omega)) := List.getElem?_eq_getElem _
      obtain ⟨o0, ho0⟩ : ∃ o, o = (xs[k * 2]'(by omega)) := ⟨_, rfl⟩
      obtain ⟨o1, ho1⟩ : ∃ o, o = (xs[k * 2 + 1]'(by omega)) := ⟨_, rfl⟩
      rw [← ho0] at g0
      rw [← ho1] at g1
      have G0 : Hid (xs[k * 2]? = some o0) := g0
      have G1 : Hid (xs[k * 2 + 1]? = some o1) := g1
      have Hxl : Hid (xs.length = ls.length * 2) := hxl
      clear hf how g0 g1 ho0 ho1 hxl
      go_wp2_with (go_at_call 197; refine (toLabel_any _ _ _).mono ?_; rintro e w2 ⟨rfl, hb2⟩; have q0 : w2.cell? ⟨w.heap.size, k * 2, none⟩ = some o0 := ((owns_below How.out hb2).cellAt _ (by omega)).trans G0.out; have q1 : w2.cell? ⟨w.heap.size, k * 2 + 1, none⟩ = some o1 := ((owns_below How.out hb2).cellAt _ (by omega)).trans G1.out; have f0 := (owns_below How.out hb2).frozenAt (k * 2); have f1 := (owns_below How.out hb2).frozenAt (k * 2 + 1))
      all_goals
        have how2 := owns_below How.out hb2
        have s1 := how2.stored (k * 2) (.string K)
        have s2 := s1.1.stored (k * 2 + 1) (.string V)
      all_goals go_roundw
      case rel => exact ⟨k + 1, _, by omega, by go_num, s2.1, (by
          intro j hj
          have hl := Hxl.out
          by_cases e1 : j = k * 2 + 1
          · subst e1; rw [List.getElem?_set_self (by simp; omega)]; exact Hf.out.2.symm
          by_cases e0 : j = k * 2
          · subst e0; rw [List.getElem?_set_ne (by omega), List.getElem?_set_self (by omega)]; exact Hf.out.1.symm
          · rw [List.getElem?_set_ne (by omega), List.getElem?_set_ne (by omega)]; exact Hx.out j (by omega)), ((hbw.trans (hb2.mono hbw.size)).setCell (Nat.le_refl _) _).setCell (Nat.le_refl _) _⟩
      case measure => simp [intOf]; omega
    · have e : k = ls.length := by omega
      subst e
      have hx : xs = flat ls := by
        apply List.ext_getElem?
        intro j
        by_cases hj : j < ls.length * 2
        · exact Hx.out j hj
        · rw [List.getElem?_eq_none (by have := how.1; omega), List.getElem?_eq_none (by rw [flat_length]; omega)]
      subst hx
      go_wp2
      go_ret
      exact ⟨_, rfl, how, hbw⟩
end Go.Proofs.YtdnodaoeflbfkaaGreat
/- Rows of terms (a number, a string, a slice of strings): where a slice of terms leads; the helpers of the laws over them. -/
namespace Go.Proofs.YtdnodaoeflbfkaaGreat
open Go.RowKit
set_option linter.unusedVariables false

abbrev TD := Int × ByteArray × List ByteArray
def termAt (w : World) (b o : Nat) (t : TD) : Prop :=
  w.cell? ⟨b, o, none⟩ = some (.int .i64 t.1) ∧ w.cell? ⟨b, o + 1, none⟩ = some (.string t.2.1) ∧ ∃ a cap, w.cell? ⟨b, o + 2, none⟩ = some (.slice a t.2.2.length cap) ∧ strOf w a t.2.2 ∧ t.2.2.length ≤ cap ∧ (a = none → cap = 0)
def termsAt (w : World) (b off : Nat) (ts : List TD) : Prop := ∀ i (h : i < ts.length), termAt w b (off + i * 3) (ts[i]'h)
def termsOf (w : World) (a : Option Addr) (ts : List TD) : Prop := 0 < ts.length → ∃ b off, a = some ⟨b, off, none⟩ ∧ termsAt w b off ts
theorem termAt.below {w w' : World} {b o : Nat} {t : TD} (h : termAt w b o t) (hb : Below w.heap.size w w') : termAt w' b o t := by
  obtain ⟨h0, h1, a, cap, h2, h3⟩ := h
  have hbb := World.block_lt_of_cell? _ _ h0
  exact ⟨(hb.cell (p := ⟨b, o, none⟩) hbb).trans h0, (hb.cell (p := ⟨b, o + 1, none⟩) hbb).trans h1, a, cap, (hb.cell (p := ⟨b, o + 2, none⟩) hbb).trans h2, h3.1.below hb, h3.2⟩
theorem termsAt.below {w w' : World} {b off : Nat} {ts : List TD} (h : termsAt w b off ts) (hb : Below w.heap.size w w') : termsAt w' b off ts := fun i hi => (h i hi).below hb
theorem termsOf.below {w w' : World} {a : Option Addr} {ts : List TD} (h : termsOf w a ts) (hb : Below w.heap.size w w') : termsOf w' a ts := by
  intro hl
  obtain ⟨b, off, e, h⟩ := h hl
  exact ⟨b, off, e, h.below hb⟩

def szT (t : TD) (l : Int) : Int := if l - t.2.1.size < 0 then -1 else if szSS t.2.2 (l - t.2.1.size) < 0 then -1 else szSS t.2.2 (l - t.2.1.size)
def szTs : List TD → Int → Int
  | [], l => l
  | t :: r, l => if szT t l < 0 then -1 else szTs r (szT t l)
def szTS (ts : List TD) (left : Int) : Int := if left - ts.length < 0 then -1 else szTs ts (left - ts.length)
theorem szStrs_le : ∀ (ss : List ByteArray) (l : Int), szStrs ss l ≤ l ∨ szStrs ss l = -1
  | [], l => .inl (Int.le_refl _)
  | s :: r, l => by
    unfold szStrs
    split
    · exact .inr rfl
    · rcases szStrs_le r (l - s.size) with h | h
      · left; omega
      · exact .inr h
theorem szSS_le (ss : List ByteArray) (l : Int) : szSS ss l ≤ l ∨ szSS ss l = -1 := by
  unfold szSS
  split
  · exact .inr rfl
  · rcases szStrs_le ss (l - ss.length) with h | h
    · left; omega
    · exact .inr h
theorem szT_le (t : TD) (l : Int) : szT t l ≤ l ∨ szT t l = -1 := by
  unfold szT
  split
  · exact .inr rfl
  · split
    · exact .inr rfl
    · rcases szSS_le t.2.2 (l - t.2.1.size) with h | h
      · left; omega
      · exact .inr h
theorem szTs_drop (ts : List TD) (k : Nat) (h : k < ts.length) (l : Int) : szTs (ts.drop k) l = if szT (ts[k]'h) l < 0 then -1 else szTs (ts.drop (k + 1)) (szT (ts[k]'h) l) := by
  rw [List.drop_eq_getElem_cons h]; rfl
def okTerm (t : TD) : Prop := t.2.1.size ≤ maxLen ∧ t.2.2.length ≤ maxLen ∧ okStrs t.2.2
def okTerms (ts : List TD) : Prop := ∀ t ∈ ts, okTerm t

theorem szStrs_ok : ∀ (ss : List ByteArray) (l : Int), 0 ≤ l → ¬ szStrs ss l < 0 → ∀ s ∈ ss, (s.size : Int) ≤ l
  | [], l, _, _, s, hs => by simp at hs
  | x :: r, l, h0, h, s, hs => by
    unfold szStrs at h
    split at h
    · omega
    · rcases List.mem_cons.1 hs with rfl | hs
      · omega
      · have := szStrs_ok r (l - x.size) (by omega) h s hs; omega
theorem szSS_ok {ss : List ByteArray} {l : Int} (h : ¬ szSS ss l < 0) : (ss.length : Int) ≤ l ∧ ∀ s ∈ ss, (s.size : Int) ≤ l := by
  unfold szSS at h
  split at h
  · omega
  · exact ⟨by omega, fun s hs => by have := szStrs_ok ss (l - ss.length) (by omega) h s hs; omega⟩
theorem szT_ok {t : TD} {l : Int} (h : ¬ szT t l < 0) : (t.2.1.size : Int) ≤ l ∧ (t.2.2.length : Int) ≤ l ∧ (∀ s ∈ t.2.2, (s.size : Int) ≤ l) ∧ 0 ≤ szT t l ∧ szT t l ≤ l := by
  have hle := szT_le t l
  have h' := h
  unfold szT at h
  split at h
  · omega
  · split at h
    · omega
    · have h1 := szSS_ok h
      exact ⟨by omega, by omega, fun s hs => by have := h1.2 s hs; omega, by omega, by omega⟩
theorem szTs_ok : ∀ (ts : List TD) (l : Int), ¬ szTs ts l < 0 → ∀ t ∈ ts, (t.2.1.size : Int) ≤ l ∧ (t.2.2.length : Int) ≤ l ∧ (∀ s ∈ t.2.2, (s.size : Int) ≤ l)
  | [], l, _, t, ht => by simp at ht
  | x :: r, l, h, t, ht => by
    unfold szTs at h
    split at h
    · omega
    · rename_i hx
      have h1 := szT_ok hx
      rcases List.mem_cons.1 ht with rfl | ht
      · exact ⟨h1.1, h1.2.1, h1.2.2.1⟩
      · have h2 := szTs_ok r _ h t ht
        exact ⟨by omega, by omega, fun s hs => by have := h2.2.2 s hs; omega⟩
theorem szTS_len {ts : List TD} (h : ¬ szTS ts 1048576 < 0) : ts.length ≤ 1048576 := by unfold szTS at h; split at h <;> omega
theorem szTS_all {ts : List TD} (h : ¬ szTS ts 1048576 < 0) : ∀ t ∈ ts, t.2.1.size ≤ 1048576 ∧ t.2.2.length ≤ 1048576 ∧ ∀ s ∈ t.2.2, s.size ≤ 1048576 := by
  unfold szTS at h
  split at h
  · omega
  · intro t ht
    have := szTs_ok ts _ h t ht
    exact ⟨by omega, by omega, fun s hs => by have := this.2.2 s hs; omega⟩
theorem szTs_le : ∀ (ts : List TD) (l : Int), szTs ts l ≤ l ∨ szTs ts l = -1
  | [], l => .inl (Int.le_refl _)
  | t :: r, l => by
    unfold szTs
    split
    · exact .inr rfl
    · rcases szTs_le r (szT t l) with h | h
      · rcases szT_le t l with h' | h'
        · left; omega
        · left; omega
      · exact .inr h
theorem szTS_le (ts : List TD) (l : Int) : szTS ts l ≤ l ∨ szTS ts l = -1 := by
  unfold szTS
  split
  · exact .inr rfl
  · rcases szTs_le ts (l - ts.length) with h | h
    · left; omega
    · exact .inr h
theorem szTS_len' {ts : List TD} {l : Int} (h : ¬ szTS ts l < 0) (hl : l ≤ 1048576) : ts.length ≤ 1048576 := by unfold szTS at h; split at h <;> omega
theorem szTS_all' {ts : List TD} {l : Int} (h : ¬ szTS ts l < 0) (hl : l ≤ 1048576) : ∀ t ∈ ts, t.2.1.size ≤ 1048576 ∧ t.2.2.length ≤ 1048576 ∧ ∀ s ∈ t.2.2, s.size ≤ 1048576 := by
  unfold szTS at h
  split at h
  · omega
  · intro t ht
    have := szTs_ok ts _ h t ht
    exact ⟨by omega, by omega, fun s hs => by have := this.2.2 s hs; omega⟩
theorem szTS_vals' {ts : List TD} {l : Int} (h : ¬ szTS ts l < 0) (hl : l ≤ 1048576) : ∀ t ∈ ts, t.2.2.length ≤ 1048576 := fun t ht => (szTS_all' h hl t ht).2.1
theorem szTS_vals {ts : List TD} (h : ¬ szTS ts 1048576 < 0) : ∀ t ∈ ts, t.2.2.length ≤ 1048576 := fun t ht => (szTS_all h t ht).2.1

theorem szTerm_any (kd : Int) (key : ByteArray) (ss : List ByteArray) (a : Option Addr) (cap : Nat) (left : Int) (w : World) (hk : key.size ≤ maxLen) (hl : ss.length ≤ maxLen) (hz : okStrs ss) (h0 : 0 ≤ left) (h1 : left ≤ 1048576) (hrow : strOf w a ss) :
    Calls Tryz.prog 134 #[.agg #[.int .i64 kd, .string key, .slice a ss.length cap], .int .i64 left] w fun e w' => e = .returned (.int .i64 (szT (kd, key, ss) left)) ∧ Below w.heap.size w w' := by
  have hkk := hk
  unfold maxLen at hk
  have Hr := hide hrow
  have Hz := hide hz
  have Hl := hide hl
  clear hrow hz hl
  by_cases c1 : left - (key.size : Int) < 0
  · have E : Hid (szT (kd, key, ss) left = -1) := by show _ = _; unfold szT; rw [if_pos c1]
    go_enter Tryz.func134, Tryz.ntmps134
    go_wp2
    go_ret
    exact ⟨ret_int E.out.symm, (Below.refl _ _).alloc (Nat.le_refl _) _⟩
  · have hcon : ∀ wx, Below w.heap.size w wx → Calls Tryz.prog 48 #[.slice a ss.length cap, .int .i64 (left - key.size)] wx fun e w' => e = .returned (.int .i64 (szSS ss (left - key.size))) ∧ Below w.heap.size w w' :=
      fun wx hx => (szStringS_any a cap ss _ wx Hl.out Hz.out (by omega) (by omega) (Hr.out.below hx)).mono fun e w' h => ⟨h.1, hx.trans (h.2.mono hx.size)⟩
    have Hcon := hide hcon
    clear hcon
    by_cases c2 : szSS ss (left - key.size) < 0
    · have E : Hid (szT (kd, key, ss) left = -1) := by show _ = _; unfold szT; rw [if_neg c1, if_pos c2]
      generalize szSS ss (left - key.size) = x at *
      go_enter Tryz.func134, Tryz.ntmps134
      go_wp2_with fail
      refine (Hcon.out _ ((Below.refl _ _).alloc (Nat.le_refl _) _)).mono ?_
      rintro e w1 ⟨rfl, hb1⟩
      go_wp2
      go_ret
      exact ⟨ret_int E.out.symm, hb1⟩
    · have E : Hid (szT (kd, key, ss) left = szSS ss (left - key.size)) := by show _ = _; unfold szT; rw [if_neg c1, if_neg c2]
      generalize szSS ss (left - key.size) = x at *
      go_enter Tryz.func134, Tryz.ntmps134
      go_wp2_with fail
      refine (Hcon.out _ ((Below.refl _ _).alloc (Nat.le_refl _) _)).mono ?_
      rintro e w1 ⟨rfl, hb1⟩
      go_wp2
      go_ret
      exact ⟨ret_int E.out.symm, hb1⟩

theorem szTermS_any (a : Option Addr) (cap : Nat) (ts : List TD) (left : Int) (w : World) (hl : ts.length ≤ maxLen) (hz : okTerms ts) (h0 : 0 ≤ left) (h1 : left ≤ 1048576) (hrow : termsOf w a ts) :
    Calls Tryz.prog 62 #[.slice a ts.length cap, .int .i64 left] w fun e w' => e = .returned (.int .i64 (szTS ts left)) ∧ Below w.heap.size w w' := by
  unfold maxLen at hl
  by_cases c1 : left - (ts.length : Int) < 0
  · have E : Hid (szTS ts left = -1) := by unfold Hid szTS; rw [if_pos c1]
    clear hrow hz
    go_enter Tryz.func62, Tryz.ntmps62
    go_wp2
    go_ret
    exact ⟨ret_int E.out.symm, Below.refl _ _⟩
  have E : Hid (szTS ts left = szTs ts (left - ts.length)) := by unfold Hid szTS; rw [if_neg c1]
  have Hr := hide hrow
  have Hz := hide hz
  clear hrow hz
  go_enter Tryz.func62, Tryz.ntmps62
  go_wp2
  go_loopw [1, 5] (fun l i wr => ∃ (k : Nat) (x : Int), k ≤ ts.length ∧ i = .int .i64 k ∧ l = .int .i64 x ∧ 0 ≤ x ∧ x ≤ 1048576 ∧ Hid (szTs (ts.drop k) x = szTs ts (left - ts.length)) ∧ Below w.heap.size w wr) (fun _ i _ => ts.length - (intOf i).toNat)
  case atStart => exact ⟨0, _, Nat.zero_le _, rfl, rfl, by omega, by omega, rfl, Below.refl _ _⟩
  case round =>
    obtain ⟨k, x, hk, rfl, rfl, hx0, hx1, hsz, hbw⟩ := hrel
    by_cases hlt : k < ts.length
    · obtain ⟨b, off, rfl, hat⟩ := Hr.out (by omega)
      obtain ⟨h0c, h1c, av, capv, h2c, h3c⟩ := (hat k hlt).below hbw
      have hz := (Hz.out _ (List.getElem_mem hlt))
      have hn := szTs_drop ts k hlt x
      have hs := szT_le ts[k] x
      obtain ⟨KD, KEY, VS, hkv⟩ : ∃ KD KEY VS, ts[k]'hlt = (KD, KEY, VS) := ⟨_, _, _, rfl⟩
      rw [hkv] at h0c h1c h2c h3c hz hn hs
      clear hkv hat
      simp only at h0c h1c h2c h3c
      obtain ⟨z1, z2, z3⟩ := hz
      have Hs3 := hide h3c.1
      have hcon := fun wx hx => szTerm_any KD KEY VS av capv x wx z1 z2 z3 hx0 hx1 hx
      have Hcon := hide hcon
      clear hcon z3 h3c
      by_cases hneg : szT (KD, KEY, VS) x < 0
      · have hr : Hid (szTs ts (left - ts.length) = -1) := by rw [← hsz.out, hn, if_pos hneg]; rfl
        clear hn hsz
        generalize szT (KD, KEY, VS) x = y at *
        go_wp2_with fail
        refine (Hcon.out _ (by exact Hs3.out)).mono ?_
        rintro e w1 ⟨rfl, hb⟩
        go_wp2
        go_ret
        exact ⟨ret_int (by rw [E.out, hr.out]), hbw.trans (hb.mono hbw.size)⟩
      · have hr : Hid (szTs (ts.drop (k + 1)) (szT (KD, KEY, VS) x) = szTs ts (left - ts.length)) := by rw [← hsz.out, hn, if_neg hneg]; rfl
        clear hn hsz
        generalize szT (KD, KEY, VS) x = y at *
        go_wp2_with fail
        refine (Hcon.out _ (by exact Hs3.out)).mono ?_
        rintro e w1 ⟨rfl, hb⟩
        go_wp2
        go_roundw
        case rel => exact ⟨k + 1, _, by omega, by go_num, rfl, by omega, by omega, hr, hbw.trans (hb.mono hbw.size)⟩
        case measure => simp [intOf]; omega
    · have e : k = ts.length := by omega
      subst e
      have hr : Hid (szTs ts (left - ts.length) = x) := by rw [← hsz.out, List.drop_length]; rfl
      clear hsz
      go_wp2
      go_ret
      exact ⟨ret_int (by rw [E.out, hr.out]), hbw⟩

theorem owns_slot {w : World} {B g n cap : Nat} {e : TypeId} {size : Nat} {xs : List Value} (h : w.ownsRow B e size (.slice (some ⟨g, 0, none⟩) n cap) n xs) : g < w.heap.size := by
  rcases h.2 with ⟨h, _⟩ | ⟨g', cap', cur, h, _, hh, _⟩
  · cases h
  · cases h; exact (Array.getElem?_eq_some_iff.1 hh).1
theorem owns_at_set {w : World} {B : Nat} {e : TypeId} {size : Nat} {v : Value} {n : Nat} {xs : List Value} {p : Addr} {u : Value} (h : w.ownsRow B e size v n xs) (hp : p.block < B) : (w.setCell p u).ownsRow B e size v n xs := ownsRow_setCell_below h hp u

theorem toTerm_any (kd : Int) (key : ByteArray) (ss : List ByteArray) (a : Option Addr) (cap : Nat) (w : World) (hl : ss.length ≤ 1048576) (hrow : strOf w a ss) :
    Calls Tryz.prog 143 #[.agg #[.int .i64 kd, .string key, .slice a ss.length cap]] w fun e w' => ∃ g, w.heap.size ≤ g ∧ e = .returned (.agg #[.int .i64 kd, .string key, .slice (some ⟨g, 0, none⟩) ss.length ss.length]) ∧
      w'.ownsRow w.heap.size 9 1 (.slice (some ⟨g, 0, none⟩) ss.length ss.length) ss.length (strVs ss) ∧ Below w.heap.size w w' := by
  have Hr := hide hrow
  clear hrow
  have hcon : ∀ wx, Below w.heap.size w wx → Calls Tryz.prog 51 #[.slice a ss.length cap] wx fun e w' => e = .returned (.slice (some ⟨wx.heap.size, 0, none⟩) ss.length ss.length) ∧
      Hid (w'.ownsRow wx.heap.size 9 1 (.slice (some ⟨wx.heap.size, 0, none⟩) ss.length ss.length) ss.length (strVs ss)) ∧ Below wx.heap.size wx w' :=
    fun wx hx => toStringS_any a cap ss wx hl (Hr.out.below hx)
  have Hcon := hide hcon
  clear hcon
  go_enter Tryz.func143, Tryz.ntmps143
  go_wp2_with fail
  refine (Hcon.out _ ((((Below.refl _ _).alloc (by simp) _).alloc (by simp) _).alloc (by simp; omega) _)).mono ?_
  rintro e w1 ⟨rfl, ho1, hb1⟩
  have c0 : w1.cell? ⟨w.heap.size + 1 + 1, 0, none⟩ = some (.int .i64 kd) := (hb1.cell (p := ⟨w.heap.size + 1 + 1, 0, none⟩) (by simp)).trans (by simp [go_sem])
  have c1 : w1.cell? ⟨w.heap.size + 1 + 1, 1, none⟩ = some (.string key) := (hb1.cell (p := ⟨w.heap.size + 1 + 1, 1, none⟩) (by simp)).trans (by simp [go_sem])
  have c2 : w1.cell? ⟨w.heap.size + 1 + 1, 2, none⟩ = some (.slice none 0 0) := (hb1.cell (p := ⟨w.heap.size + 1 + 1, 2, none⟩) (by simp)).trans (by simp [go_sem])
  have d0 : w1.cell? ⟨w.heap.size + 1, 0, none⟩ = some (.int .i64 0) := (hb1.cell (p := ⟨w.heap.size + 1, 0, none⟩) (by simp)).trans (by simp [go_sem])
  have e0 : w1.frozen? ⟨w.heap.size + 1, 0, none⟩ = false := (hb1.frozen (p := ⟨w.heap.size + 1, 0, none⟩) (by simp)).trans (by simp [go_sem])
  have d1 : w1.cell? ⟨w.heap.size + 1, 1, none⟩ = some (.string ⟨#[]⟩) := (hb1.cell (p := ⟨w.heap.size + 1, 1, none⟩) (by simp)).trans (by simp [go_sem])
  have e1 : w1.frozen? ⟨w.heap.size + 1, 1, none⟩ = false := (hb1.frozen (p := ⟨w.heap.size + 1, 1, none⟩) (by simp)).trans (by simp [go_sem])
  have d2 : w1.cell? ⟨w.heap.size + 1, 2, none⟩ = some (.slice none 0 0) := (hb1.cell (p := ⟨w.heap.size + 1, 2, none⟩) (by simp)).trans (by simp [go_sem])
  have e2 : w1.frozen? ⟨w.heap.size + 1, 2, none⟩ = false := (hb1.frozen (p := ⟨w.heap.size + 1, 2, none⟩) (by simp)).trans (by simp [go_sem])
  have f2 : w1.frozen? ⟨w.heap.size + 1 + 1, 2, none⟩ = false := (hb1.frozen (p := ⟨w.heap.size + 1 + 1, 2, none⟩) (by simp)).trans (by simp [go_sem])
  have Ho1 := hide ho1.out
  have Hb1 := hide hb1
  clear ho1 hb1
  simp only [World.size_alloc] at Ho1
  go_wp2
  refine bodyPost_ret (v := .agg #[.int .i64 kd, .string key, .slice (some ⟨w.heap.size + 1 + 1 + 1, 0, none⟩) ss.length ss.length]) ?_ rfl ⟨_, ?_, rfl, ?_, ?_⟩
  · simp [results, Tryz.results143, go_sem, d0, d1, d2]
  · omega
  · exact owns_mono (owns_at_set (owns_at_set (owns_at_set (owns_at_set Ho1.out (by simp)) (by simp)) (by simp)) (by simp)) (by omega)
  · exact ((((((((Below.refl _ _).alloc (by simp) _).alloc (by simp) _).alloc (by simp; omega) _).trans (Hb1.out.mono (by simp; omega))).setCell (by simp; omega) _).setCell (by simp) _).setCell (by simp) _).setCell (by simp) _

theorem Tryz.infoTerm : (Tryz.prog.info? 190).map (fun i => (i.zero, i.size, i.bytes)) = some (some (.agg #[.int .i64 0, .string ByteArray.empty, .slice none 0 0]), 3, 48) := by kernel_rfl
/-- place j of a row of cells holds a term whose strings the call owns -/
def termIs (w : World) (B : Nat) (xs : List Value) (j : Nat) (t : TD) : Prop :=
  xs[j * 3]? = some (.int .i64 t.1) ∧ xs[j * 3 + 1]? = some (.string t.2.1) ∧ ∃ g, xs[j * 3 + 2]? = some (.slice (some ⟨g, 0, none⟩) t.2.2.length t.2.2.length) ∧
    w.ownsRow B 9 1 (.slice (some ⟨g, 0, none⟩) t.2.2.length t.2.2.length) t.2.2.length (strVs t.2.2)
theorem termIs.below {w w' : World} {B : Nat} {xs : List Value} {j : Nat} {t : TD} (h : termIs w B xs j t) (hb : Below w.heap.size w w') : termIs w' B xs j t := by
  obtain ⟨h0, h1, g, h2, h3⟩ := h
  exact ⟨h0, h1, g, h2, owns_below h3 hb⟩
theorem termIs.set {w : World} {B : Nat} {xs : List Value} {j : Nat} {t : TD} {p : Addr} {u : Value} (h : termIs w B xs j t) (hp : p.block < B) : termIs (w.setCell p u) B xs j t := by
  obtain ⟨h0, h1, g, h2, h3⟩ := h
  exact ⟨h0, h1, g, h2, owns_at_set h3 hp⟩
theorem termsOf_owns {w : World} {B B' g n cap : Nat} {e : TypeId} {xs : List Value} {ts : List TD} (h : w.ownsRow B e 3 (.slice (some ⟨g, 0, none⟩) n cap) n xs) (hn : n = ts.length) (ht : ∀ j (hj : j < ts.length), termIs w B' xs j ts[j]) : termsOf w (some ⟨g, 0, none⟩) ts := by
  intro _
  refine ⟨g, 0, rfl, fun i hi => ?_⟩
  obtain ⟨h0, h1, g', h2, h3⟩ := ht i hi
  subst hn
  rw [Nat.zero_add]
  exact ⟨(h.cellAt _ (by omega)).trans h0, (h.cellAt _ (by omega)).trans h1, _, _, (h.cellAt _ (by omega)).trans h2, strOf_owns h3, Nat.le_refl _, fun h => by cases h⟩
set_option maxHeartbeats 400000 in
theorem toTermS_any (a : Option Addr) (cap : Nat) (ts : List TD) (w : World) (hl : ts.length ≤ 1048576) (hz : ∀ t ∈ ts, t.2.2.length ≤ 1048576) (hrow : termsOf w a ts) :
    Calls Tryz.prog 70 #[.slice a ts.length cap] w fun e w' => ∃ xs, e = .returned (.slice (some ⟨w.heap.size, 0, none⟩) ts.length ts.length) ∧
      w'.ownsRow w.heap.size 190 3 (.slice (some ⟨w.heap.size, 0, none⟩) ts.length ts.length) ts.length xs ∧ (∀ j (hj : j < ts.length), termIs w' (w.heap.size + 1) xs j ts[j]) ∧ Below w.heap.size w w' := by
  obtain ⟨i0, hi, hz0, hz1, hz2⟩ := info_parts Tryz.infoTerm
  have Hr := hide hrow
  have Hz := hide hz
  clear hrow hz
  go_enter Tryz.func70, Tryz.ntmps70
  go_wp2_with (at_make; refine wpList_make_full _ rfl _ _ 32 rfl w.heap.size 190 i0 _ 3 Tryz.underlying32 hi hz0 hz1 _ _ _ _ ts.length rfl rfl rfl rfl (by rw [hz2]; omega) (by unfold maxLen; omega) (Nat.le_refl _) ?_; intro w1 hown hgrow)
  go_loopw [4] (fun i wr => ∃ (k : Nat) (xs : List Value), k ≤ ts.length ∧ i = .int .i64 k ∧ wr.ownsRow w.heap.size 190 3 (.slice (some ⟨w.heap.size, 0, none⟩) ts.length ts.length) ts.length xs ∧
      Hid (∀ j (hj : j < ts.length), j < k → termIs wr (w.heap.size + 1) xs j ts[j]) ∧ Below w.heap.size w wr) (fun i _ => ts.length - (intOf i).toNat)
  case atStart => exact ⟨0, _, Nat.zero_le _, rfl, hown, fun j _ hj => by omega, Below.grown (Below.refl _ _) hgrow (Nat.le_refl _) (fun k hk => by cases hk)⟩
  case round =>
    obtain ⟨k, xs, hk, rfl, how, Hx, hbw⟩ := hrel
    clear hown hgrow
    by_cases hlt : k < ts.length
    · obtain ⟨b, off, rfl, hat⟩ := Hr.out (by omega)
      obtain ⟨h0c, h1c, av, capv, h2c, h3c⟩ := (hat k hlt).below hbw
      have hz := (Hz.out _ (List.getElem_mem hlt))
      obtain ⟨KD, KEY, VS, hkv⟩ : ∃ KD KEY VS, ts[k]'hlt = (KD, KEY, VS) := ⟨_, _, _, rfl⟩
      rw [hkv] at h0c h1c h2c h3c hz
      have Hkv := hide hkv
      clear hat hkv
      simp only at h0c h1c h2c h3c hz
      have hxl : xs.length = ts.length * 3 := how.1
      have Hxl := hide hxl
      have hw0 : w.heap.size < wr.heap.size := owns_slot how
      obtain ⟨o0, g0⟩ : ∃ o, xs[k * 3]? = some o := ⟨_, List.getElem?_eq_getElem (by omega)⟩
      obtain ⟨o1, g1⟩ : ∃ o, xs[k * 3 + 1]? = some o := ⟨_, List.getElem?_eq_getElem (by omega)⟩
      obtain ⟨o2, g2⟩ : ∃ o, xs[k * 3 + 2]? = some o := ⟨_, List.getElem?_eq_getElem (by omega)⟩
      have How := hide how
      have G0 := hide g0
      have G1 := hide g1
      have G2 := hide g2
      have Hs3 := hide h3c.1
      clear how g0 g1 g2 hxl h3c
      go_wp2_with fail
      refine (toTerm_any KD KEY VS av capv _ hz (by exact Hs3.out)).mono ?_
      rintro e w2 ⟨g, hg, rfl, ho2, hb2⟩
      have how2 := owns_below How.out hb2
      have q0 : w2.cell? ⟨w.heap.size, k * 3, none⟩ = some o0 := (how2.cellAt _ (by omega)).trans G0.out
      have q1 : w2.cell? ⟨w.heap.size, k * 3 + 1, none⟩ = some o1 := (how2.cellAt _ (by omega)).trans G1.out
      have q2 : w2.cell? ⟨w.heap.size, k * 3 + 2, none⟩ = some o2 := (how2.cellAt _ (by omega)).trans G2.out
      have f0 := how2.frozenAt (k * 3)
      have f1 := how2.frozenAt (k * 3 + 1)
      have f2 := how2.frozenAt (k * 3 + 2)
      have S0 := hide (((how2.stored (k * 3) (.int .i64 KD)).1.stored (k * 3 + 1) (.string KEY)).1.stored (k * 3 + 2) (.slice (some ⟨g, 0, none⟩) VS.length VS.length)).1
      have Ho2 := hide (owns_mono ho2 (B' := w.heap.size + 1) (by omega))
      have Hb2 := hide hb2
      clear how2 ho2 hb2 hg
      go_wp2
      go_roundw
      case rel => exact ⟨k + 1, _, by omega, by go_num, S0.out, (by
          intro j hj hjk
          have hl := Hxl.out
          by_cases e0 : j = k
          · subst e0
            rw [Hkv.out]
            refine ⟨?_, ?_, g, ?_, owns_at_set (owns_at_set (owns_at_set Ho2.out (by simp)) (by simp)) (by simp)⟩
            · rw [List.getElem?_set_ne (by omega), List.getElem?_set_ne (by omega), List.getElem?_set_self (by omega)]
            · rw [List.getElem?_set_ne (by omega), List.getElem?_set_self (by simp; omega)]
            · rw [List.getElem?_set_self (by simp; omega)]
          · have h := ((((Hx.out j hj (by omega)).below Hb2.out).set (p := ⟨w.heap.size, k * 3, none⟩) (u := .int .i64 KD) (by simp)).set (p := ⟨w.heap.size, k * 3 + 1, none⟩) (u := .string KEY) (by simp)).set (p := ⟨w.heap.size, k * 3 + 2, none⟩) (u := .slice (some ⟨g, 0, none⟩) VS.length VS.length) (by simp)
            obtain ⟨h0, h1, g', h2, h3⟩ := h
            refine ⟨?_, ?_, g', ?_, h3⟩
            · rw [List.getElem?_set_ne (by omega), List.getElem?_set_ne (by omega), List.getElem?_set_ne (by omega)]; exact h0
            · rw [List.getElem?_set_ne (by omega), List.getElem?_set_ne (by omega), List.getElem?_set_ne (by omega)]; exact h1
            · rw [List.getElem?_set_ne (by omega), List.getElem?_set_ne (by omega), List.getElem?_set_ne (by omega)]; exact h2),
        (((hbw.trans (Hb2.out.mono hbw.size)).setCell (Nat.le_refl _) _).setCell (Nat.le_refl _) _).setCell (Nat.le_refl _) _⟩
      case measure => simp [intOf]; omega
    · have e : k = ts.length := by omega
      subst e
      go_wp2
      go_ret
      exact ⟨xs, rfl, how, fun j hj => Hx.out j hj hj, hbw⟩
theorem toTermS_row (a : Option Addr) (cap : Nat) (ts : List TD) (w : World) (hl : ts.length ≤ 1048576) (hz : ∀ t ∈ ts, t.2.2.length ≤ 1048576) (hrow : termsOf w a ts) :
    Calls Tryz.prog 70 #[.slice a ts.length cap] w fun e w' => ∃ g, e = .returned (.slice (some ⟨g, 0, none⟩) ts.length ts.length) ∧ termsOf w' (some ⟨g, 0, none⟩) ts ∧ Below w.heap.size w w' :=
  (toTermS_any a cap ts w hl hz hrow).mono fun _ _ ⟨xs, h1, h2, h3, h4⟩ => ⟨_, h1, termsOf_owns h2 rfl h3, h4⟩
end Go.Proofs.YtdnodaoeflbfkaaGreat
namespace Go.Proofs.YtdnodaoeflbfkaaGreat
open Go.RowKit

/-- where a slice value of labels leads, in a world -/
def rowOf (w : World) (a : Option Addr) (ls : List (ByteArray × ByteArray)) : Prop := 0 < ls.length → ∃ b off, a = some ⟨b, off, none⟩ ∧ labsAt w b off ls

theorem eqLabelS_any (a a' : Option Addr) (cap cap' : Nat) (ls ls' : List (ByteArray × ByteArray)) (w : World) (hl : ls.length ≤ maxLen) (hl' : ls'.length ≤ maxLen)
    (hrow : rowOf w a ls) (hrow' : rowOf w a' ls') :
    Calls Tryz.prog 162 #[.slice a ls.length cap, .slice a' ls'.length cap'] w fun e w' => e = .returned (.bool (decide (ls = ls'))) ∧ Below w.heap.size w w' := by
  unfold maxLen at hl hl'
  have Hr : Hid (rowOf w a ls) := hrow
  have Hr' : Hid (rowOf w a' ls') := hrow'
  clear hrow hrow'
  by_cases hll : ls.length = ls'.length
  · have hb0 : ((ls.length : Int) != (ls'.length : Int)) = false := by rw [bne_eq_false_iff_eq]; omega
    have Hl : Hid (ls.length = ls'.length) := hll
    have hle : ls.length ≤ ls'.length := by omega
    have hge : ls'.length ≤ ls.length := by omega
    clear hll
    go_enter Tryz.func162, Tryz.ntmps162
    go_wp2
    go_loopw [5] (fun i wr => ∃ (k : Nat), k ≤ ls.length ∧ i = .int .i64 k ∧ Hid (∀ j, j < k → ls[j]? = ls'[j]?) ∧ Below w.heap.size w wr) (fun i _ => ls.length - (intOf i).toNat)
    case atStart => exact ⟨0, Nat.zero_le _, rfl, fun j hj => by omega, Below.refl _ _⟩
    case round =>
      obtain ⟨k, hk, rfl, Hx, hbw⟩ := hrel
      by_cases hlt : k < ls.length
      · have hlt' : k < ls'.length := by omega
        obtain ⟨b, off, rfl, hat⟩ := Hr.out (by omega)
        obtain ⟨b', off', rfl, hat'⟩ := Hr'.out (by omega)
        have hbb : b < w.heap.size := World.block_lt_of_cell? _ _ (hat k hlt).1
        have hbb' : b' < w.heap.size := World.block_lt_of_cell? _ _ (hat' k hlt').1
        have c0 := (hbw.cell (p := ⟨b, off + k * 2, none⟩) hbb).trans (hat k hlt).1
        have c2 := (hbw.cell (p := ⟨b, off + k * 2 + 1, none⟩) hbb).trans (hat k hlt).2
        have c0' := (hbw.cell (p := ⟨b', off' + k * 2, none⟩) hbb').trans (hat' k hlt').1
        have c2' := (hbw.cell (p := ⟨b', off' + k * 2 + 1, none⟩) hbb').trans (hat' k hlt').2
        obtain ⟨K, V, hkv⟩ : ∃ K V, ls[k]'hlt = (K, V) := ⟨_, _, rfl⟩
        obtain ⟨K', V', hkv'⟩ : ∃ K V, ls'[k]'hlt' = (K, V) := ⟨_, _, rfl⟩
        rw [hkv] at c0 c2
        rw [hkv'] at c0' c2'
        have Hg : Hid (ls[k]? = some (K, V) ∧ ls'[k]? = some (K', V')) := ⟨by rw [← hkv]; exact List.getElem?_eq_getElem _, by rw [← hkv']; exact List.getElem?_eq_getElem _⟩
        clear hkv hat hkv' hat'
        simp only at c0 c2 c0' c2'
        have hcon : ∀ wx, Below w.heap.size w wx → Calls Tryz.prog 211 #[.agg #[.string K, .string V], .agg #[.string K', .string V']] wx fun e w' => e = .returned (.bool (decide ((K, V) = (K', V')))) ∧ Below w.heap.size w w' :=
          fun wx hx => (eqLabel_any K V K' V' wx).mono fun e w' h => ⟨h.1, hx.trans (h.2.mono hx.size)⟩
        by_cases hq : (K, V) = (K', V')
        · rw [decide_eq_true hq] at hcon
          have Hn : Hid (∀ j, j < k + 1 → ls[j]? = ls'[j]?) := by
            intro j hj
            by_cases e : j = k
            · rw [e, Hg.out.1, Hg.out.2, hq]
            · exact Hx.out j (by omega)
          have Hcon := hide hcon
          clear hcon hq Hg Hx
          go_wp2
          go_region_with (go_at_call 211; refine (Hcon.out _ (by repeat (first | exact hbw | refine Below.drew ?_ | refine below_drewN ?_ _))).mono ?_; rintro e w2 ⟨rfl, hb2⟩)
          all_goals go_wp2
          all_goals (
            go_roundw
            case rel => exact ⟨k + 1, by omega, by go_num, Hn, by repeat (first | exact hb2 | refine Below.drew ?_ | refine below_drewN ?_ _)⟩
            case measure => simp [intOf]; omega)
        · rw [decide_eq_false hq] at hcon
          have Hn : Hid (decide (ls = ls') = false) := by
            show _ = _
            rw [decide_eq_false_iff_not]
            rintro rfl
            exact hq (by rw [Hg.out.1] at Hg; exact Option.some.inj Hg.out.2)
          have Hcon := hide hcon
          clear hcon hq Hg Hx
          go_wp2
          go_region_with (go_at_call 211; refine (Hcon.out _ (by repeat (first | exact hbw | refine Below.drew ?_ | refine below_drewN ?_ _))).mono ?_; rintro e w2 ⟨rfl, hb2⟩)
          all_goals go_wp2
          all_goals go_ret
          all_goals exact ⟨ret_bool Hn.out.symm, by repeat (first | exact hb2 | refine Below.drew ?_ | refine below_drewN ?_ _)⟩
      · have Hn : Hid (decide (ls = ls') = true) := by
          show _ = _
          rw [decide_eq_true_eq]
          apply List.ext_getElem?
          intro j
          by_cases hj : j < k
          · exact Hx.out j hj
          · rw [List.getElem?_eq_none (by omega), List.getElem?_eq_none (by omega)]
        have e : k = ls.length := by omega
        subst e
        clear Hx
        go_wp2
        go_ret
        exact ⟨ret_bool Hn.out.symm, hbw⟩
  · have hb0 : ((ls.length : Int) != (ls'.length : Int)) = true := by rw [bne_iff_ne]; omega
    have Hn : Hid (decide (ls = ls') = false) := by
      show _ = _
      rw [decide_eq_false_iff_not]
      rintro rfl
      exact hll rfl
    clear hll
    go_enter Tryz.func162, Tryz.ntmps162
    go_wp2
    go_ret
    exact ⟨ret_bool Hn.out.symm, Below.refl _ _⟩
end Go.Proofs.YtdnodaoeflbfkaaGreat
/- Data as cells: rows of plain numbers. -/
namespace Go.Proofs.YtdnodaoeflbfkaaGreat
open Go.RowKit
set_option linter.unusedVariables false

/-- the numbers of a row of plain numbers -/
def intL : UD → List Int
  | .nil => []
  | .p (.int _ z) r => z :: intL r
  | .p _ r => intL r
  | .l _ _ _ r => intL r
theorem intL_get : ∀ (d : UD) (i : Nat), tyU d (uE 1) i → (intL d).length = d.len ∧ ∀ j (h : j < (intL d).length), d.at? j = some (.p (.int .i64 ((intL d)[j]'h))) ∧ inK .i64 ((intL d)[j]'h)
  | .nil, i, _ => ⟨rfl, fun j h => by cases h⟩
  | .p v r, i, ⟨⟨f, hf, hv⟩, h2⟩ => by
    have hf' : f = .i .i64 := by
      have : (i % (uE 1).length) = 0 := by show i % 1 = 0; omega
      rw [this] at hf
      exact (Option.some.inj hf).symm
    subst hf'
    obtain ⟨z, rfl, hz⟩ := hv
    obtain ⟨h3, h4⟩ := intL_get r (i + 1) h2
    refine ⟨by show (intL r).length + 1 = _; rw [h3, UD.len_p], fun j h => ?_⟩
    cases j with
    | zero => exact ⟨rfl, hz⟩
    | succ j => exact h4 j (by simpa [intL] using h)
  | .l k n cs r, i, ⟨⟨t, hf, _⟩, _⟩ => by
    have : (i % (uE 1).length) = 0 := by show i % 1 = 0; omega
    rw [this] at hf
    cases hf
theorem intL_inj : ∀ (a b : UD) (i j : Nat), tyU a (uE 1) i → tyU b (uE 1) j → intL a = intL b → a = b
  | .nil, .nil, _, _, _, _, _ => rfl
  | .nil, b, i, j, ha, hb, h => by
    have h1 := (intL_get b j hb).1
    rw [← h] at h1
    exact (UD.len_nil h1.symm).symm
  | a, .nil, i, j, ha, hb, h => by
    have h1 := (intL_get a i ha).1
    rw [h] at h1
    exact UD.len_nil h1.symm
  | .p v r, .p v' r', i, j, ha, hb, h => by
    obtain ⟨⟨f, hf, hv⟩, h2⟩ := ha
    obtain ⟨⟨f', hf', hv'⟩, h2'⟩ := hb
    have e1 : f = .i .i64 := by
      have : (i % (uE 1).length) = 0 := by show i % 1 = 0; omega
      rw [this] at hf; exact (Option.some.inj hf).symm
    have e2 : f' = .i .i64 := by
      have : (j % (uE 1).length) = 0 := by show j % 1 = 0; omega
      rw [this] at hf'; exact (Option.some.inj hf').symm
    subst e1 e2
    obtain ⟨s, rfl, _⟩ := hv
    obtain ⟨s', rfl, _⟩ := hv'
    obtain ⟨rfl, h3⟩ := List.cons.inj (show s :: intL r = s' :: intL r' from h)
    rw [intL_inj r r' (i + 1) (j + 1) h2 h2' h3]
  | .l k n cs r, _, i, _, ha, _, _ => by
    obtain ⟨⟨t, hf, _⟩, _⟩ := ha
    have : (i % (uE 1).length) = 0 := by show i % 1 = 0; omega
    rw [this] at hf
    cases hf
  | _, .l k n cs r, _, j, _, hb, _ => by
    obtain ⟨⟨t, hf, _⟩, _⟩ := hb
    have : (j % (uE 1).length) = 0 := by show j % 1 = 0; omega
    rw [this] at hf
    cases hf
theorem intL_len {n : Nat} {c : UD} (h : tyS 1 n c 1) : (intL c).length = n := by rw [(intL_get c 0 h.2.2.2.2).1, h.2.2.2.1, Nat.mul_one]
/-- a row of numbers in memory -/
theorem int_at {w : World} {lo hi n : Nat} {c : UD} {b off cap : Nat} (ht : tyS 1 n c 1) (h : uS w lo hi 1 n c (.slice (some ⟨b, off, none⟩) n cap)) (j : Nat) (hj : j < (intL c).length) : w.cell? ⟨b, off + j, none⟩ = some (.int .i64 ((intL c)[j]'hj)) := by
  have hl := intL_len ht
  obtain ⟨b', off', e, _, hm⟩ := h.cells (by omega)
  cases e
  obtain ⟨c', q1, q2⟩ := hm.get j _ ((intL_get c 0 ht.2.2.2.2).2 j hj).1
  rw [q1, show c' = _ from q2]
theorem int_in {n : Nat} {c : UD} (ht : tyS 1 n c 1) (j : Nat) (hj : j < (intL c).length) : -9223372036854775808 ≤ (intL c)[j]'hj ∧ (intL c)[j]'hj ≤ 9223372036854775807 := ((intL_get c 0 ht.2.2.2.2).2 j hj).2
theorem cntU_int : ∀ (c : UD) (i : Nat), tyU c (uE 1) i → cnt c = c.len
  | .nil, _, _ => rfl
  | .p v r, i, h => by rw [UD.len_p]; show 1 + cnt r = _; rw [cntU_int r (i + 1) h.2]; omega
  | .l k n cs r, i, h => by
    obtain ⟨⟨t, hf, _⟩, _⟩ := h
    have : (i % (uE 1).length) = 0 := by show i % 1 = 0; omega
    rw [this] at hf
    cases hf
theorem cnt_int {n : Nat} {c : UD} (h : tyS 1 n c 1) : cnt c = n := by rw [cntU_int c 0 h.2.2.2.2, h.2.2.2.1, Nat.mul_one]
/-- the cells of a row of numbers -/
def ofInts : List Int → UD
  | [] => .nil
  | z :: r => .p (.int .i64 z) (ofInts r)
theorem intL_of : ∀ l : List Int, intL (ofInts l) = l
  | [] => rfl
  | z :: r => by show z :: intL (ofInts r) = _; rw [intL_of r]
theorem ofInts_len : ∀ l : List Int, (ofInts l).len = l.length
  | [] => rfl
  | z :: r => by show (UD.p _ (ofInts r)).len = _; rw [UD.len_p, ofInts_len r]; rfl
theorem ofInts_ty : ∀ (l : List Int) (i : Nat), (∀ z ∈ l, inK .i64 z) → tyU (ofInts l) (uE 1) i
  | [], _, _ => trivial
  | z :: r, i, h => ⟨⟨.i .i64, by have : (i % (uE 1).length) = 0 := by show i % 1 = 0; omega
                                  rw [this]; rfl, z, rfl, h z (by simp)⟩, ofInts_ty r (i + 1) (fun x hx => h x (by simp [hx]))⟩
theorem ofInts_tyS {l : List Int} (h : ∀ z ∈ l, inK .i64 z) (hl : l.length ≤ maxLen) : tyS 1 l.length (ofInts l) 1 := ⟨by decide, rfl, hl, by rw [ofInts_len, Nat.mul_one], ofInts_ty l 0 h⟩
theorem wt_ofInts : ∀ l : List Int, wt (ofInts l) = 0
  | [] => rfl
  | z :: r => by show wtP _ + wt (ofInts r) = 0; rw [wt_ofInts r]; rfl
theorem cnt_ofInts : ∀ l : List Int, cnt (ofInts l) = l.length
  | [] => rfl
  | z :: r => by show 1 + cnt (ofInts r) = _; rw [cnt_ofInts r, List.length_cons]; omega
theorem ofInts_own {w : World} : ∀ l : List Int, oH w (ofInts l) (l.map (Value.int .i64)) []
  | [] => ⟨rfl, rfl⟩
  | z :: r => ⟨_, rfl, ofInts_own r⟩
theorem Tryz.infoDInt : (Tryz.prog.info? 3).map (fun i => (i.zero, i.size, i.bytes)) = some (some (.int .i64 0), 1, 8) := by kernel_rfl
theorem infoD {P : Program} {t : TypeId} {z : Value} {k b : Nat} (h : (P.info? t).map (fun i => (i.zero, i.size, i.bytes)) = some (some z, k, b)) : ∃ i, P.info? t = some i ∧ i.zero = some z ∧ i.size = k ∧ i.bytes = b := by
  cases e : P.info? t with
  | none => rw [e] at h; cases h
  | some i => rw [e] at h; simp at h; exact ⟨i, rfl, h.1, h.2.1, h.2.2⟩
end Go.Proofs.YtdnodaoeflbfkaaGreat
/- Islands and wants: their data, and where they lie. -/
namespace Go.Proofs.YtdnodaoeflbfkaaGreat
open Go.RowKit Go.BigFrame
set_option linter.unusedVariables false

theorem list_of {α : Type} (P : Nat → α → Prop) : ∀ n, (∀ i, i < n → ∃ x, P i x) → ∃ l : List α, l.length = n ∧ ∀ i (h : i < l.length), P i (l[i]'h) := by
  intro n
  induction n with
  | zero => exact fun _ => ⟨[], rfl, fun i h => by cases h⟩
  | succ n ih =>
    intro h
    obtain ⟨l, h1, h2⟩ := ih (fun i hi => h i (by omega))
    obtain ⟨x, hx⟩ := h n (by omega)
    refine ⟨l ++ [x], by simp [h1], fun i hi => ?_⟩
    by_cases e : i < l.length
    · rw [List.getElem_append_left e]; exact h2 i e
    · have : i = n := by simp at hi; omega
      subst this
      rw [List.getElem_append_right (by omega)]
      simpa [h1] using hx
abbrev WgD := ByteArray × Int
abbrev IsD := ByteArray × List (ByteArray × ByteArray) × List ByteArray × Int
abbrev WaD := Int × List TD × List ByteArray × List WgD

def wgAt (w : World) (b o : Nat) (x : WgD) : Prop := w.cell? ⟨b, o, none⟩ = some (.string x.1) ∧ w.cell? ⟨b, o + 1, none⟩ = some (.int .i64 x.2)
def wgsOf (w : World) (a : Option Addr) (l : List WgD) : Prop := 0 < l.length → ∃ b off, a = some ⟨b, off, none⟩ ∧ ∀ i (h : i < l.length), wgAt w b (off + i * 2) (l[i]'h)
theorem wgAt.below {w w' : World} {b o : Nat} {x : WgD} (h : wgAt w b o x) (hb : Below w.heap.size w w') : wgAt w' b o x :=
  have hbb := World.block_lt_of_cell? _ _ h.1
  ⟨(hb.cell (p := ⟨b, o, none⟩) hbb).trans h.1, (hb.cell (p := ⟨b, o + 1, none⟩) hbb).trans h.2⟩
theorem wgsOf.below {w w' : World} {a : Option Addr} {l : List WgD} (h : wgsOf w a l) (hb : Below w.heap.size w w') : wgsOf w' a l := fun hl => by
  obtain ⟨b, off, e, h⟩ := h hl
  exact ⟨b, off, e, fun i hi => (h i hi).below hb⟩
def okWg (x : WgD) : Prop := x.1.size ≤ maxLen ∧ inK .i64 x.2
def okWgs (l : List WgD) : Prop := l.length ≤ maxLen ∧ ∀ x ∈ l, okWg x
theorem rowOf_below {w w' : World} {a : Option Addr} {ls : List (ByteArray × ByteArray)} (h : rowOf w a ls) (hb : Below w.heap.size w w') : rowOf w' a ls := fun hl => by
  obtain ⟨b, off, e, h⟩ := h hl
  refine ⟨b, off, e, fun i hi => ?_⟩
  have hbb := World.block_lt_of_cell? _ _ (h i hi).1
  exact ⟨(hb.cell (p := ⟨b, off + i * 2, none⟩) hbb).trans (h i hi).1, (hb.cell (p := ⟨b, off + i * 2 + 1, none⟩) hbb).trans (h i hi).2⟩

/-- the cells of an island -/
def isC (w : World) (I : IsD) (c1 c2 : Value) : Prop := (∃ a p, c1 = .slice a I.2.1.length p ∧ rowOf w a I.2.1) ∧ ∃ a p, c2 = .slice a I.2.2.1.length p ∧ strOf w a I.2.2.1
theorem isC.below {w w' : World} {I : IsD} {c1 c2 : Value} (h : isC w I c1 c2) (hb : Below w.heap.size w w') : isC w' I c1 c2 := by
  obtain ⟨⟨a, p, e, h⟩, a', p', e', h'⟩ := h
  exact ⟨⟨a, p, e, rowOf_below h hb⟩, a', p', e', h'.below hb⟩
def isH (w : World) (I : IsD) (xs : List Value) : Prop := ∃ c1 c2, xs = [.string I.1, c1, c2, .int .i64 I.2.2.2] ∧ isC w I c1 c2
theorem isH.below {w w' : World} {I : IsD} {xs : List Value} (h : isH w I xs) (hb : Below w.heap.size w w') : isH w' I xs := by
  obtain ⟨c1, c2, e, h⟩ := h
  exact ⟨c1, c2, e, h.below hb⟩
def isAt (w : World) (b o : Nat) (I : IsD) : Prop := ∃ c1 c2, w.cell? ⟨b, o, none⟩ = some (.string I.1) ∧ w.cell? ⟨b, o + 1, none⟩ = some c1 ∧ w.cell? ⟨b, o + 2, none⟩ = some c2 ∧ w.cell? ⟨b, o + 3, none⟩ = some (.int .i64 I.2.2.2) ∧ isC w I c1 c2
theorem isAt.below {w w' : World} {b o : Nat} {I : IsD} (h : isAt w b o I) (hb : Below w.heap.size w w') : isAt w' b o I := by
  obtain ⟨c1, c2, h0, h1, h2, h3, h⟩ := h
  have hbb := World.block_lt_of_cell? _ _ h0
  exact ⟨c1, c2, (hb.cell (p := ⟨b, o, none⟩) hbb).trans h0, (hb.cell (p := ⟨b, o + 1, none⟩) hbb).trans h1, (hb.cell (p := ⟨b, o + 2, none⟩) hbb).trans h2, (hb.cell (p := ⟨b, o + 3, none⟩) hbb).trans h3, h.below hb⟩
def isS (w : World) (c : Value) (l : List IsD) : Prop := ∃ a p, c = .slice a l.length p ∧ (0 < l.length → ∃ b off, a = some ⟨b, off, none⟩ ∧ ∀ i (h : i < l.length), isAt w b (off + i * 4) (l[i]'h))
theorem isS.below {w w' : World} {c : Value} {l : List IsD} (h : isS w c l) (hb : Below w.heap.size w w') : isS w' c l := by
  obtain ⟨a, p, e, h⟩ := h
  refine ⟨a, p, e, fun hl => ?_⟩
  obtain ⟨b, off, e, h⟩ := h hl
  exact ⟨b, off, e, fun i hi => (h i hi).below hb⟩
def okIs1 (I : IsD) : Prop := I.1.size ≤ maxLen ∧ (I.2.1.length ≤ maxLen ∧ okSizes I.2.1) ∧ (I.2.2.1.length ≤ maxLen ∧ okStrs I.2.2.1) ∧ inK .i64 I.2.2.2
/-- the cells of a want -/
def waC (w : World) (W : WaD) (c1 c2 c3 : Value) : Prop := (∃ a p, c1 = .slice a W.2.1.length p ∧ termsOf w a W.2.1) ∧ (∃ a p, c2 = .slice a W.2.2.1.length p ∧ strOf w a W.2.2.1) ∧ ∃ a p, c3 = .slice a W.2.2.2.length p ∧ wgsOf w a W.2.2.2
theorem waC.below {w w' : World} {W : WaD} {c1 c2 c3 : Value} (h : waC w W c1 c2 c3) (hb : Below w.heap.size w w') : waC w' W c1 c2 c3 := by
  obtain ⟨⟨a, p, e, h⟩, ⟨a', p', e', h'⟩, a2, p2, e2, h2⟩ := h
  exact ⟨⟨a, p, e, h.below hb⟩, ⟨a', p', e', h'.below hb⟩, a2, p2, e2, h2.below hb⟩
def waH (w : World) (W : WaD) (xs : List Value) : Prop := ∃ c1 c2 c3, xs = [.int .i64 W.1, c1, c2, c3] ∧ waC w W c1 c2 c3
theorem waH.below {w w' : World} {W : WaD} {xs : List Value} (h : waH w W xs) (hb : Below w.heap.size w w') : waH w' W xs := by
  obtain ⟨c1, c2, c3, e, h⟩ := h
  exact ⟨c1, c2, c3, e, h.below hb⟩
def waAt (w : World) (b o : Nat) (W : WaD) : Prop := ∃ c1 c2 c3, w.cell? ⟨b, o, none⟩ = some (.int .i64 W.1) ∧ w.cell? ⟨b, o + 1, none⟩ = some c1 ∧ w.cell? ⟨b, o + 2, none⟩ = some c2 ∧ w.cell? ⟨b, o + 3, none⟩ = some c3 ∧ waC w W c1 c2 c3
theorem waAt.below {w w' : World} {b o : Nat} {W : WaD} (h : waAt w b o W) (hb : Below w.heap.size w w') : waAt w' b o W := by
  obtain ⟨c1, c2, c3, h0, h1, h2, h3, h⟩ := h
  have hbb := World.block_lt_of_cell? _ _ h0
  exact ⟨c1, c2, c3, (hb.cell (p := ⟨b, o, none⟩) hbb).trans h0, (hb.cell (p := ⟨b, o + 1, none⟩) hbb).trans h1, (hb.cell (p := ⟨b, o + 2, none⟩) hbb).trans h2, (hb.cell (p := ⟨b, o + 3, none⟩) hbb).trans h3, h.below hb⟩
def waS (w : World) (c : Value) (l : List WaD) : Prop := ∃ a p, c = .slice a l.length p ∧ (0 < l.length → ∃ b off, a = some ⟨b, off, none⟩ ∧ ∀ i (h : i < l.length), waAt w b (off + i * 4) (l[i]'h))
theorem waS.below {w w' : World} {c : Value} {l : List WaD} (h : waS w c l) (hb : Below w.heap.size w w') : waS w' c l := by
  obtain ⟨a, p, e, h⟩ := h
  refine ⟨a, p, e, fun hl => ?_⟩
  obtain ⟨b, off, e, h⟩ := h hl
  exact ⟨b, off, e, fun i hi => (h i hi).below hb⟩
def okWa (W : WaD) : Prop := inK .i64 W.1 ∧ (W.2.1.length ≤ maxLen ∧ okTerms W.2.1) ∧ (W.2.2.1.length ≤ maxLen ∧ okStrs W.2.2.1) ∧ okWgs W.2.2.2

-- out of cells
theorem labs_of {n : Nat} {c : UD} (ht : tyS 2 n c 4) : ∃ l : List (ByteArray × ByteArray), l.length = n ∧ okSizes l ∧ ∀ (w : World) (lo hi : Nat) (v : Value), uS w lo hi 2 n c v → ∃ a p, v = .slice a n p ∧ rowOf w a l := by
  obtain ⟨l, h1, h2⟩ := list_of (fun i (x : ByteArray × ByteArray) => rowU c 2 i = .p (.string x.1) (.p (.string x.2) .nil) ∧ x.1.size ≤ maxLen ∧ x.2.size ≤ maxLen) n (fun i hi => by
    obtain ⟨z0, z1, e, g0, g1⟩ := partsLabel (ht.row hi)
    exact ⟨(z0, z1), e, g0, g1⟩)
  subst h1
  refine ⟨l, rfl, fun x hx => ?_, fun w lo hi v h => ?_⟩
  · obtain ⟨i, hi, rfl⟩ := List.getElem_of_mem hx
    exact (h2 i hi).2
  · obtain ⟨a, p, rfl, g⟩ := h
    refine ⟨a, p, rfl, fun hp => ?_⟩
    obtain ⟨b, off, e, -, hm⟩ := (show uS w lo hi 2 l.length c (.slice a l.length p) from ⟨a, p, rfl, g⟩).cells hp
    refine ⟨b, off, e, fun i hi => ?_⟩
    have := hm.row 2 i
    rw [(h2 i hi).1] at this
    exact ⟨this.1, this.2.1⟩
theorem strs_of {n : Nat} {c : UD} (ht : tyS 1 n c 0) : ∃ l : List ByteArray, l.length = n ∧ okStrs l ∧ ∀ (w : World) (lo hi : Nat) (v : Value), uS w lo hi 1 n c v → ∃ a p, v = .slice a n p ∧ strOf w a l ∧ n ≤ p ∧ (a = none → p = 0) := by
  obtain ⟨l, h1, h2⟩ := list_of (fun i (x : ByteArray) => rowU c 1 i = .p (.string x) .nil ∧ x.size ≤ maxLen) n (fun i hi => by
    obtain ⟨z0, e, g0⟩ := partsString (ht.row hi)
    exact ⟨z0, e, g0⟩)
  subst h1
  refine ⟨l, rfl, fun x hx => ?_, fun w lo hi v h => ?_⟩
  · obtain ⟨i, hi, rfl⟩ := List.getElem_of_mem hx
    exact (h2 i hi).2
  · obtain ⟨a, p, rfl, g⟩ := h
    refine ⟨a, p, rfl, fun hp => ?_, g.1.1, g.1.2.1⟩
    obtain ⟨b, off, e, -, hm⟩ := (show uS w lo hi 1 l.length c (.slice a l.length p) from ⟨a, p, rfl, g⟩).cells hp
    refine ⟨b, off, e, fun i hi => ?_⟩
    have := hm.row 1 i
    rw [(h2 i hi).1, Nat.mul_one] at this
    exact this.1
theorem wgs_of {n : Nat} {c : UD} (ht : tyS 2 n c 15) : ∃ l : List WgD, l.length = n ∧ okWgs l ∧ ∀ (w : World) (lo hi : Nat) (v : Value), uS w lo hi 2 n c v → ∃ a p, v = .slice a n p ∧ wgsOf w a l := by
  obtain ⟨l, h1, h2⟩ := list_of (fun i (x : WgD) => rowU c 2 i = .p (.string x.1) (.p (.int .i64 x.2) .nil) ∧ okWg x) n (fun i hi => by
    obtain ⟨z0, z1, e, g0, g1⟩ := partsWeigh (ht.row hi)
    exact ⟨(z0, z1), e, g0, g1⟩)
  subst h1
  refine ⟨l, rfl, ⟨ht.2.2.1, fun x hx => ?_⟩, fun w lo hi v h => ?_⟩
  · obtain ⟨i, hi, rfl⟩ := List.getElem_of_mem hx
    exact (h2 i hi).2
  · obtain ⟨a, p, rfl, g⟩ := h
    refine ⟨a, p, rfl, fun hp => ?_⟩
    obtain ⟨b, off, e, -, hm⟩ := (show uS w lo hi 2 l.length c (.slice a l.length p) from ⟨a, p, rfl, g⟩).cells hp
    refine ⟨b, off, e, fun i hi => ?_⟩
    have := hm.row 2 i
    rw [(h2 i hi).1] at this
    exact ⟨this.1, this.2.1⟩
theorem terms_of {n : Nat} {c : UD} (ht : tyS 3 n c 5) : ∃ l : List TD, l.length = n ∧ okTerms l ∧ ∀ (w : World) (lo hi : Nat) (v : Value), uS w lo hi 3 n c v → ∃ a p, v = .slice a n p ∧ termsOf w a l := by
  obtain ⟨l, h1, h2⟩ := list_of (fun i (x : TD) => okTerm x ∧ ∀ (w : World) (lo hi b o : Nat), uM w lo hi (rowU c 3 i) b o → termAt w b o x) n (fun i hi => by
    obtain ⟨z0, z1, n2, c2, e, g0, g1, g2⟩ := partsTerm (ht.row hi)
    obtain ⟨l, k1, k2, k3⟩ := strs_of g2
    refine ⟨(z0, z1, l), ⟨g1, by rw [k1]; exact g2.2.2.1, k2⟩, fun w lo hi b o h => ?_⟩
    rw [e] at h
    obtain ⟨h0, h1, ⟨a, p, h2, h3⟩, -⟩ := h
    obtain ⟨a', p', e', q1, q2, q3⟩ := k3 w lo hi _ ⟨a, p, rfl, h3⟩
    cases e'
    exact ⟨h0, h1, a, p, by rw [k1]; exact h2, q1, by rw [k1]; exact q2, q3⟩)
  subst h1
  refine ⟨l, rfl, fun x hx => ?_, fun w lo hi v h => ?_⟩
  · obtain ⟨i, hi, rfl⟩ := List.getElem_of_mem hx
    exact (h2 i hi).1
  · obtain ⟨a, p, rfl, g⟩ := h
    refine ⟨a, p, rfl, fun hp => ?_⟩
    obtain ⟨b, off, e, -, hm⟩ := (show uS w lo hi 3 l.length c (.slice a l.length p) from ⟨a, p, rfl, g⟩).cells hp
    exact ⟨b, off, e, fun i hj => (h2 i hj).2 w lo hi b _ (hm.row 3 i)⟩
theorem is_of {d : UD} (ht : tyL d (uE 14)) : ∃ I : IsD, okIs1 I ∧ ∀ (w : World) (lo hi : Nat) (xs : List Value), uH w lo hi d xs → isH w I xs := by
  obtain ⟨z0, n1, c1, n2, c2, z3, rfl, g0, g1, g2, g3⟩ := partsIsland ht
  obtain ⟨l1, k1, k2, k3⟩ := labs_of g1
  obtain ⟨l2, q1, q2, q3⟩ := strs_of g2
  refine ⟨(z0, l1, l2, z3), ⟨g0, ⟨by rw [k1]; exact g1.2.2.1, k2⟩, ⟨by rw [q1]; exact g2.2.2.1, q2⟩, g3⟩, fun w lo hi xs h => ?_⟩
  obtain ⟨_, rfl, ⟨v1, _, rfl, s1, ⟨v2, _, rfl, s2, ⟨_, rfl, rfl⟩⟩⟩⟩ := h
  obtain ⟨a, p, e, h⟩ := k3 w lo hi _ s1
  obtain ⟨a', p', e', h', -⟩ := q3 w lo hi _ s2
  exact ⟨v1, v2, rfl, ⟨a, p, by rw [k1]; exact e, h⟩, a', p', by rw [q1]; exact e', h'⟩
theorem wa_of {d : UD} (ht : tyL d (uE 16)) : ∃ W : WaD, okWa W ∧ ∀ (w : World) (lo hi : Nat) (xs : List Value), uH w lo hi d xs → waH w W xs := by
  obtain ⟨z0, n1, c1, n2, c2, n3, c3, rfl, g0, g1, g2, g3⟩ := partsWant ht
  obtain ⟨l1, k1, k2, k3⟩ := terms_of g1
  obtain ⟨l2, q1, q2, q3⟩ := strs_of g2
  obtain ⟨l3, r1, r2, r3⟩ := wgs_of g3
  refine ⟨(z0, l1, l2, l3), ⟨g0, ⟨by rw [k1]; exact g1.2.2.1, k2⟩, ⟨by rw [q1]; exact g2.2.2.1, q2⟩, r2⟩, fun w lo hi xs h => ?_⟩
  obtain ⟨_, rfl, ⟨v1, _, rfl, s1, ⟨v2, _, rfl, s2, ⟨v3, _, rfl, s3, rfl⟩⟩⟩⟩ := h
  obtain ⟨a, p, e, h⟩ := k3 w lo hi _ s1
  obtain ⟨a', p', e', h', -⟩ := q3 w lo hi _ s2
  obtain ⟨a2, p2, e2, h2⟩ := r3 w lo hi _ s3
  exact ⟨v1, v2, v3, rfl, ⟨a, p, by rw [k1]; exact e, h⟩, ⟨a', p', by rw [q1]; exact e', h'⟩, a2, p2, by rw [r1]; exact e2, h2⟩
theorem hand_at {w : World} {lo hi b o : Nat} {d : UD} (h : uM w lo hi d b o) : ∃ xs, uH w lo hi d xs ∧ ∀ j c, xs[j]? = some c → w.cell? ⟨b, o + j, none⟩ = some c := h.hand
theorem iss_of {n : Nat} {c : UD} (ht : tyS 4 n c 14) : ∃ l : List IsD, l.length = n ∧ (∀ I ∈ l, okIs1 I) ∧ ∀ (w : World) (lo hi : Nat) (v : Value), uS w lo hi 4 n c v → isS w v l := by
  obtain ⟨l, h1, h2⟩ := list_of (fun i (I : IsD) => okIs1 I ∧ ∀ (w : World) (lo hi : Nat) (xs : List Value), uH w lo hi (rowU c 4 i) xs → isH w I xs) n (fun i hi => is_of (ht.row hi))
  subst h1
  refine ⟨l, rfl, fun x hx => ?_, fun w lo hi v h => ?_⟩
  · obtain ⟨i, hi, rfl⟩ := List.getElem_of_mem hx
    exact (h2 i hi).1
  · obtain ⟨a, p, rfl, g⟩ := h
    refine ⟨a, p, rfl, fun hp => ?_⟩
    obtain ⟨b, off, e, -, hm⟩ := (show uS w lo hi 4 l.length c (.slice a l.length p) from ⟨a, p, rfl, g⟩).cells hp
    refine ⟨b, off, e, fun i hi => ?_⟩
    obtain ⟨xs, k1, k2⟩ := (hm.row 4 i).hand
    obtain ⟨c1, c2, rfl, hc⟩ := (h2 i hi).2 w _ _ xs k1
    exact ⟨c1, c2, k2 0 _ rfl, k2 1 _ rfl, k2 2 _ rfl, k2 3 _ rfl, hc⟩
theorem was_of {n : Nat} {c : UD} (ht : tyS 4 n c 16) : ∃ l : List WaD, l.length = n ∧ (∀ W ∈ l, okWa W) ∧ ∀ (w : World) (lo hi : Nat) (v : Value), uS w lo hi 4 n c v → waS w v l := by
  obtain ⟨l, h1, h2⟩ := list_of (fun i (W : WaD) => okWa W ∧ ∀ (w : World) (lo hi : Nat) (xs : List Value), uH w lo hi (rowU c 4 i) xs → waH w W xs) n (fun i hi => wa_of (ht.row hi))
  subst h1
  refine ⟨l, rfl, fun x hx => ?_, fun w lo hi v h => ?_⟩
  · obtain ⟨i, hi, rfl⟩ := List.getElem_of_mem hx
    exact (h2 i hi).1
  · obtain ⟨a, p, rfl, g⟩ := h
    refine ⟨a, p, rfl, fun hp => ?_⟩
    obtain ⟨b, off, e, -, hm⟩ := (show uS w lo hi 4 l.length c (.slice a l.length p) from ⟨a, p, rfl, g⟩).cells hp
    refine ⟨b, off, e, fun i hi => ?_⟩
    obtain ⟨xs, k1, k2⟩ := (hm.row 4 i).hand
    obtain ⟨c1, c2, c3, rfl, hc⟩ := (h2 i hi).2 w _ _ xs k1
    exact ⟨c1, c2, c3, k2 0 _ rfl, k2 1 _ rfl, k2 2 _ rfl, k2 3 _ rfl, hc⟩
end Go.Proofs.YtdnodaoeflbfkaaGreat
/- Whether two slices of terms are the same. -/
namespace Go.Proofs.YtdnodaoeflbfkaaGreat
open Go.RowKit
set_option linter.unusedVariables false

theorem eqTerm_any (t t' : TD) (a a' : Option Addr) (cap cap' : Nat) (w : World) (hl : t.2.2.length ≤ maxLen) (hl' : t'.2.2.length ≤ maxLen) (hrow : strOf w a t.2.2) (hrow' : strOf w a' t'.2.2) :
    Calls Tryz.prog 160 #[.agg #[.int .i64 t.1, .string t.2.1, .slice a t.2.2.length cap], .agg #[.int .i64 t'.1, .string t'.2.1, .slice a' t'.2.2.length cap']] w fun e w' => e = .returned (.bool (decide (t = t'))) ∧ Below w.heap.size w w' := by
  obtain ⟨kd, key, ss⟩ := t
  obtain ⟨kd', key', ss'⟩ := t'
  simp only at hl hl' hrow hrow' ⊢
  have Hr := hide hrow
  have Hr' := hide hrow'
  clear hrow hrow'
  have hcon : ∀ wx, Below w.heap.size w wx → Calls Tryz.prog 54 #[.slice a ss.length cap, .slice a' ss'.length cap'] wx fun e w' => e = .returned (.bool (decide (ss = ss'))) ∧ Below w.heap.size w w' :=
      fun wx hx => (eqStringS_any a a' cap cap' ss ss' wx hl hl' (Hr.out.below hx) (Hr'.out.below hx)).mono fun e w' h => ⟨h.1, hx.trans (h.2.mono hx.size)⟩
  have Hcon := hide hcon
  clear hcon
  have he := beq_str key key'
  by_cases c1 : kd = kd'
  · have hb : (kd != kd') = false := by rw [bne_eq_false_iff_eq]; exact c1
    by_cases c2 : key = key'
    · rw [decide_eq_true c2] at he
      have E : Hid (decide ((kd, key, ss) = (kd', key', ss')) = decide (ss = ss')) := by simp [Hid, c1, c2]
      clear c1 c2
      generalize decide (ss = ss') = q at *
      go_enter Tryz.func160, Tryz.ntmps160
      go_wp2_with fail
      refine (Hcon.out _ (((Below.refl _ _).alloc (by simp) _).alloc (by simp) _)).mono ?_
      rintro e w1 ⟨rfl, hb1⟩
      cases q
      all_goals
        go_wp2
        go_ret
        exact ⟨ret_bool E.out.symm, hb1⟩
    · rw [decide_eq_false c2] at he
      have E : Hid (decide ((kd, key, ss) = (kd', key', ss')) = false) := by simp [Hid, c2]
      clear c1 c2
      go_enter Tryz.func160, Tryz.ntmps160
      go_wp2
      go_ret
      exact ⟨ret_bool E.out.symm, (((Below.refl _ _).alloc (by simp) _).alloc (by simp) _)⟩
  · have hb : (kd != kd') = true := by rw [bne_iff_ne]; exact c1
    have E : Hid (decide ((kd, key, ss) = (kd', key', ss')) = false) := by simp [Hid, c1]
    clear c1 he
    go_enter Tryz.func160, Tryz.ntmps160
    go_wp2
    go_ret
    exact ⟨ret_bool E.out.symm, (((Below.refl _ _).alloc (by simp) _).alloc (by simp) _)⟩

theorem eqTermS_any (a a' : Option Addr) (cap cap' : Nat) (ls ls' : List TD) (w : World) (hl : ls.length ≤ maxLen) (hl' : ls'.length ≤ maxLen) (hz : ∀ t ∈ ls, t.2.2.length ≤ maxLen) (hz' : ∀ t ∈ ls', t.2.2.length ≤ maxLen) (hrow : termsOf w a ls) (hrow' : termsOf w a' ls') :
    Calls Tryz.prog 79 #[.slice a ls.length cap, .slice a' ls'.length cap'] w fun e w' => e = .returned (.bool (decide (ls = ls'))) ∧ Below w.heap.size w w' := by
  unfold maxLen at hl hl'
  have Hr := hide hrow
  have Hr' := hide hrow'
  have Hz := hide hz
  have Hz' := hide hz'
  clear hrow hrow' hz hz'
  by_cases hll : ls.length = ls'.length
  · have hb0 : ((ls.length : Int) != (ls'.length : Int)) = false := by rw [bne_eq_false_iff_eq]; omega
    have Hl := hide hll
    have hle : ls.length ≤ ls'.length := by omega
    have hge : ls'.length ≤ ls.length := by omega
    clear hll
    go_enter Tryz.func79, Tryz.ntmps79
    go_wp2
    go_loopw [5] (fun i wr => ∃ (k : Nat), k ≤ ls.length ∧ i = .int .i64 k ∧ Hid (∀ j, j < k → ls[j]? = ls'[j]?) ∧ Below w.heap.size w wr) (fun i _ => ls.length - (intOf i).toNat)
    case atStart => exact ⟨0, Nat.zero_le _, rfl, fun j hj => by omega, Below.refl _ _⟩
    case round =>
      obtain ⟨k, hk, rfl, Hx, hbw⟩ := hrel
      by_cases hlt : k < ls.length
      · have hlt' : k < ls'.length := by omega
        obtain ⟨b, off, rfl, hat⟩ := Hr.out (by omega)
        obtain ⟨b', off', rfl, hat'⟩ := Hr'.out (by omega)
        obtain ⟨h0c, h1c, av, capv, h2c, h3c⟩ := (hat k hlt).below hbw
        obtain ⟨h0c', h1c', av', capv', h2c', h3c'⟩ := (hat' k hlt').below hbw
        have Hg : Hid (ls[k]? = some ls[k] ∧ ls'[k]? = some ls'[k]) := ⟨List.getElem?_eq_getElem _, List.getElem?_eq_getElem _⟩
        have z := Hz.out _ (List.getElem_mem hlt)
        have z' := Hz'.out _ (List.getElem_mem hlt')
        have hcon : ∀ wx, Below wr.heap.size wr wx → Calls Tryz.prog 160 #[.agg #[.int .i64 (ls[k]'hlt).1, .string (ls[k]'hlt).2.1, .slice av (ls[k]'hlt).2.2.length capv], .agg #[.int .i64 (ls'[k]'hlt').1, .string (ls'[k]'hlt').2.1, .slice av' (ls'[k]'hlt').2.2.length capv']] wx fun e w' => e = .returned (.bool (decide ((ls[k]'hlt) = (ls'[k]'hlt')))) ∧ Hid (Below w.heap.size w w') :=
          fun wx hx => (eqTerm_any (ls[k]'hlt) (ls'[k]'hlt') av av' capv capv' wx z z' (h3c.1.below hx) (h3c'.1.below hx)).mono fun e w' h => ⟨h.1, hbw.trans ((hx.trans (h.2.mono hx.size)).mono hbw.size)⟩
        have Hcon := hide hcon
        generalize ls[k]'hlt = K at *
        generalize ls'[k]'hlt' = K' at *
        clear hat hat' hcon h3c h3c' z z'
        obtain ⟨kd, key, ss⟩ := K
        obtain ⟨kd', key', ss'⟩ := K'
        simp only at h0c h1c h2c h0c' h1c' h2c'
        by_cases hq : (kd, key, ss) = (kd', key', ss')
        · have Hn : Hid (∀ j, j < k + 1 → ls[j]? = ls'[j]?) := by
            intro j hj
            by_cases e : j = k
            · rw [e, Hg.out.1, Hg.out.2, hq]
            · exact Hx.out j (by omega)
          rw [decide_eq_true hq] at Hcon
          clear hq Hg Hx
          go_wp2
          go_region_with (go_at_call 160; refine (Hcon.out _ (by repeat (first | exact Below.refl _ _ | refine Below.drew ?_ | refine below_drewN ?_ _))).mono ?_; rintro e w2 ⟨rfl, hb2⟩)
          all_goals go_wp2
          all_goals (
            go_roundw
            case rel => exact ⟨k + 1, by omega, by go_num, Hn, by repeat (first | exact hb2.out | refine Below.drew ?_ | refine below_drewN ?_ _)⟩
            case measure => simp [intOf]; omega)
        · have Hn : Hid (decide (ls = ls') = false) := by
            show _ = _
            rw [decide_eq_false_iff_not]
            rintro rfl
            exact hq (by rw [Hg.out.1] at Hg; exact Option.some.inj Hg.out.2)
          rw [decide_eq_false hq] at Hcon
          clear hq Hg Hx
          go_wp2
          go_region_with (go_at_call 160; refine (Hcon.out _ (by repeat (first | exact Below.refl _ _ | refine Below.drew ?_ | refine below_drewN ?_ _))).mono ?_; rintro e w2 ⟨rfl, hb2⟩)
          all_goals go_wp2
          all_goals go_ret
          all_goals exact ⟨ret_bool Hn.out.symm, by repeat (first | exact hb2.out | refine Below.drew ?_ | refine below_drewN ?_ _)⟩
      · have Hn : Hid (decide (ls = ls') = true) := by
          show _ = _
          rw [decide_eq_true_eq]
          apply List.ext_getElem?
          intro j
          by_cases hj : j < k
          · exact Hx.out j hj
          · rw [List.getElem?_eq_none (by omega), List.getElem?_eq_none (by omega)]
        have e : k = ls.length := by omega
        subst e
        clear Hx
        go_wp2
        go_ret
        exact ⟨ret_bool Hn.out.symm, hbw⟩
  · have hb0 : ((ls.length : Int) != (ls'.length : Int)) = true := by rw [bne_iff_ne]; omega
    have Hn : Hid (decide (ls = ls') = false) := by
      show _ = _
      rw [decide_eq_false_iff_not]
      rintro rfl
      exact hll rfl
    clear hll
    go_enter Tryz.func79, Tryz.ntmps79
    go_wp2
    go_ret
    exact ⟨ret_bool Hn.out.symm, Below.refl _ _⟩
end Go.Proofs.YtdnodaoeflbfkaaGreat
namespace Go.Proofs.YtdnodaoeflbfkaaGreat
open Go.RowKit Go.BigFrame

def keyAt (ls : List (ByteArray × ByteArray)) (i : Nat) : ByteArray := (ls[i]?.getD (ByteArray.empty, ByteArray.empty)).1
def valAt (ls : List (ByteArray × ByteArray)) (i : Nat) : ByteArray := (ls[i]?.getD (ByteArray.empty, ByteArray.empty)).2
def okAt (ls : List (ByteArray × ByteArray)) (i : Nat) : Prop := nameB (keyAt ls i) = true ∧ nameB (valAt ls i) = true ∧ (0 < i → ltS (keyAt ls (i - 1)) (keyAt ls i) = true)
def labelsB (ls : List (ByteArray × ByteArray)) : Bool := decide (ls.length ≤ 8 ∧ ∀ i, i < ls.length → nameB (keyAt ls i) = true ∧ nameB (valAt ls i) = true ∧ (0 < i → ltS (keyAt ls (i - 1)) (keyAt ls i) = true))
theorem labelsB_bad {ls : List (ByteArray × ByteArray)} {k : Nat} (hk : k < ls.length) (h : ¬ okAt ls k) : labelsB ls = false := by
  unfold labelsB; rw [decide_eq_false_iff_not]; exact fun g => h (g.2 k hk)
theorem labelsB_end {ls : List (ByteArray × ByteArray)} (h : ∀ i, i < ls.length → okAt ls i) : labelsB ls = decide (ls.length ≤ 8) := by
  unfold labelsB; rw [decide_eq_decide]; exact ⟨fun g => g.1, fun g => ⟨g, h⟩⟩
theorem ok_succ {ls : List (ByteArray × ByteArray)} {k : Nat} (h : ∀ i, i < k → okAt ls i) (hk : okAt ls k) : ∀ i, i < k + 1 → okAt ls i := by
  intro i hi
  by_cases e : i = k
  · rw [e]; exact hk
  · exact h i (by omega)
/-- the cells, by place -/
def cellsOf (w : World) (b off : Nat) (ls : List (ByteArray × ByteArray)) : Prop := ∀ i, i < ls.length → w.cell? ⟨b, off + i * 2, none⟩ = some (.string (keyAt ls i)) ∧ w.cell? ⟨b, off + i * 2 + 1, none⟩ = some (.string (valAt ls i))
theorem cellsOf_of {w : World} {b off : Nat} {ls : List (ByteArray × ByteArray)} (h : labsAt w b off ls) : cellsOf w b off ls := by
  intro i hi
  have := h i hi
  unfold keyAt valAt
  rw [List.getElem?_eq_getElem hi]
  exact this
def strsOk (ls : List (ByteArray × ByteArray)) : Prop := ∀ i, (keyAt ls i).size ≤ maxLen ∧ (valAt ls i).size ≤ maxLen
theorem strsOk_of {ls : List (ByteArray × ByteArray)} (h : okSizes ls) : strsOk ls := by
  intro i
  unfold keyAt valAt
  by_cases hi : i < ls.length
  · rw [List.getElem?_eq_getElem hi]; exact h _ (List.getElem_mem hi)
  · rw [List.getElem?_eq_none (by omega)]; exact ⟨Nat.zero_le _, Nat.zero_le _⟩

theorem drew_more {w wr : World} (h : ∃ n, wr = w.drewN n) (m : Nat) : ∃ n, wr.drewN m = w.drewN n := by
  obtain ⟨n, hn⟩ := h
  exact ⟨n + m, by rw [hn, World.drewN_drewN]⟩
/-- one label, and the key ahead of it: what both loops ask -/
theorem ok_cases (ls : List (ByteArray × ByteArray)) (k : Nat) :
    (nameB (keyAt ls k) = false ∧ Hid (¬ okAt ls k)) ∨ (nameB (keyAt ls k) = true ∧ nameB (valAt ls k) = false ∧ Hid (¬ okAt ls k)) ∨
    (nameB (keyAt ls k) = true ∧ nameB (valAt ls k) = true ∧ Hid (k = 0) ∧ Hid (okAt ls k)) ∨
    (nameB (keyAt ls k) = true ∧ nameB (valAt ls k) = true ∧ 0 < k ∧ Op.bytesLess (keyAt ls (k - 1)).toList (keyAt ls k).toList = true ∧ Hid (okAt ls k)) ∨
    (nameB (keyAt ls k) = true ∧ nameB (valAt ls k) = true ∧ 0 < k ∧ Op.bytesLess (keyAt ls (k - 1)).toList (keyAt ls k).toList = false ∧ Hid (¬ okAt ls k)) := by
  have hd : okAt ls k ↔ nameB (keyAt ls k) = true ∧ nameB (valAt ls k) = true ∧ (0 < k → Op.bytesLess (keyAt ls (k - 1)).toList (keyAt ls k).toList = true) := Iff.rfl
  unfold Hid
  rw [hd]
  rcases Bool.eq_false_or_eq_true (nameB (keyAt ls k)) with h1 | h1
  · rcases Bool.eq_false_or_eq_true (nameB (valAt ls k)) with h2 | h2
    · by_cases h3 : 0 < k
      · rcases Bool.eq_false_or_eq_true (Op.bytesLess (keyAt ls (k - 1)).toList (keyAt ls k).toList) with h4 | h4
        · exact .inr (.inr (.inr (.inl ⟨h1, h2, h3, h4, h1, h2, fun _ => h4⟩)))
        · refine .inr (.inr (.inr (.inr ⟨h1, h2, h3, h4, fun g => ?_⟩)))
          have := g.2.2 h3
          rw [h4] at this; cases this
      · exact .inr (.inr (.inl ⟨h1, h2, by omega, h1, h2, fun h => absurd h h3⟩))
    · refine .inr (.inl ⟨h1, h2, fun g => ?_⟩)
      rw [h2] at g; cases g.2.1
  · refine .inl ⟨h1, fun g => ?_⟩
    rw [h1] at g; cases g.1

set_option maxHeartbeats 800000 in
theorem slabelsOk_any (a : Option Addr) (cap : Nat) (ls : List (ByteArray × ByteArray)) (w : World) (hl : ls.length ≤ maxLen) (hz : okSizes ls) (hrow : rowOf w a ls) :
    Calls Tryz.prog 139 #[.slice a ls.length cap] w fun e w' => e = .returned (.bool (labelsB ls)) ∧ ∃ n, w' = w.drewN n := by
  unfold maxLen at hl
  have Hr : Hid (rowOf w a ls) := hrow
  have Hz : Hid (strsOk ls) := strsOk_of hz
  clear hrow hz
  go_enter Tryz.func139, Tryz.ntmps139
  go_wp2
  go_loopw [3] (fun i wr => ∃ (k : Nat), k ≤ ls.length ∧ i = .int .i64 k ∧ Hid (∀ j, j < k → okAt ls j) ∧ Hid (∃ n, wr = w.drewN n)) (fun i _ => ls.length - (intOf i).toNat)
  case atStart => exact ⟨0, Nat.zero_le _, rfl, fun j hj => by omega, ⟨0, rfl⟩⟩
  case round =>
    obtain ⟨k, hk, rfl, Hx, Hw⟩ := hrel
    have Hcell : Hid (∀ p, wr.cell? p = w.cell? p) := by obtain ⟨n, hn⟩ := Hw.out; rw [hn]; exact fun _ => rfl
    by_cases hlt : k < ls.length
    · obtain ⟨b, off, rfl, hat⟩ := Hr.out (by omega)
      have hc := cellsOf_of hat
      have c0 := (Hcell.out _).trans (hc k hlt).1
      have c2 := (Hcell.out _).trans (hc k hlt).2
      have cp : 0 < k → wr.cell? ⟨b, off + (k - 1) * 2, none⟩ = some (.string (keyAt ls (k - 1))) := fun h => (Hcell.out _).trans (hc (k - 1) (by omega)).1
      have hzK := (Hz.out k).1
      have hzV := (Hz.out k).2
      have Hs : Hid (okAt ls k → ∀ j, j < k + 1 → okAt ls j) := fun h => ok_succ Hx.out h
      have Hb : Hid (¬ okAt ls k → labelsB ls = false) := fun h => labelsB_bad hlt h
      have hcs := ok_cases ls k
      clear hat hc Hx
      generalize keyAt ls k = K at *
      generalize valAt ls k = V at *
      generalize keyAt ls (k - 1) = P at *
      have hK := fun wx => (sname_any K wx hzK)
      have hV := fun wx => (sname_any V wx hzV)
      clear hzK hzV
      rcases hcs with ⟨h1, hok⟩ | ⟨h1, h2, hok⟩ | ⟨h1, h2, h3, hok⟩ | ⟨h1, h2, h3, h4, hok⟩ | ⟨h1, h2, h3, h4, hok⟩
      · rw [h1] at hK
        have HK := hide hK
        have HV := hide hV
        clear hK hV h1 cp c2
        have Hn := hide (Hb.out hok.out)
        clear Hs Hb Hz Hr Hcell
        go_wp2
        go_quiet (first | (go_at_call_of 127 K; exact Calls.quiet_of_same (HK.out _)) | (go_at_call_of 127 V; exact Calls.quiet_of_same (HV.out _)))
        go_wp2
        go_ret
        exact ⟨ret_bool Hn.out.symm, drew_more Hw.out _⟩
      · rw [h1] at hK
        rw [h2] at hV
        have HK := hide hK
        have HV := hide hV
        clear hK hV h1 h2 cp
        have Hn := hide (Hb.out hok.out)
        clear Hs Hb Hz Hr Hcell
        go_wp2
        go_quiet (first | (go_at_call_of 127 K; exact Calls.quiet_of_same (HK.out _)) | (go_at_call_of 127 V; exact Calls.quiet_of_same (HV.out _)))
        go_wp2
        go_ret
        exact ⟨ret_bool Hn.out.symm, drew_more Hw.out _⟩
      · rw [h1] at hK
        rw [h2] at hV
        have HK := hide hK
        have HV := hide hV
        have hk0 : k = 0 := h3.out
        have h3' : decide ((0 : Int) < (k : Int)) = false := by rw [decide_eq_false_iff_not]; omega
        have h3'' : decide (0 < k) = false := by rw [decide_eq_false_iff_not]; omega
        have h3a : (k : Int) ≤ 0 := by omega
        clear hK hV h1 h2 cp h3 hk0
        have Hn := hide (Hs.out hok.out)
        clear Hs Hb Hz Hr Hcell
        go_wp2
        go_quiet (first | (go_at_call_of 127 K; exact Calls.quiet_of_same (HK.out _)) | (go_at_call_of 127 V; exact Calls.quiet_of_same (HV.out _)))
        go_wp2
        go_roundw
        case rel => exact ⟨k + 1, by omega, by go_num, Hn, drew_more Hw.out _⟩
        case measure => simp [intOf]; omega
      · rw [h1] at hK
        rw [h2] at hV
        have HK := hide hK
        have HV := hide hV
        have cp := cp h3
        have h3' : (0 : Int) < (k : Int) := by omega
        clear hK hV h1 h2
        have Hn := hide (Hs.out hok.out)
        clear Hs Hb Hz Hr Hcell
        go_wp2
        go_quiet (first | (go_at_call_of 127 K; exact Calls.quiet_of_same (HK.out _)) | (go_at_call_of 127 V; exact Calls.quiet_of_same (HV.out _)))
        go_wp2
        go_roundw
        case rel => exact ⟨k + 1, by omega, by go_num, Hn, drew_more Hw.out _⟩
        case measure => simp [intOf]; omega
      · rw [h1] at hK
        rw [h2] at hV
        have HK := hide hK
        have HV := hide hV
        have cp := cp h3
        have h3' : (0 : Int) < (k : Int) := by omega
        clear hK hV h1 h2
        have Hn := hide (Hb.out hok.out)
        clear Hs Hb Hz Hr Hcell
        go_wp2
        go_quiet (first | (go_at_call_of 127 K; exact Calls.quiet_of_same (HK.out _)) | (go_at_call_of 127 V; exact Calls.quiet_of_same (HV.out _)))
        go_wp2
        go_ret
        exact ⟨ret_bool Hn.out.symm, drew_more Hw.out _⟩
    · have e : k = ls.length := by omega
      subst e
      have Hn := hide (labelsB_end Hx.out)
      clear Hx Hcell Hr Hz
      go_wp2
      go_ret
      exact ⟨ret_bool (by rw [Hn.out, Bool.eq_iff_iff]; simp; omega), Hw.out⟩
end Go.Proofs.YtdnodaoeflbfkaaGreat
namespace Go.Proofs.YtdnodaoeflbfkaaGreat
open Go.RowKit Go.BigFrame

/-- what a round knows of its worlds: the row that came in, and the copy of the element -/
def InLoop (w : World) (B b off k : Nat) (K V P : ByteArray) (wx : World) : Prop :=
  Below w.heap.size w wx ∧ wx.cell? ⟨B, 0, none⟩ = some (.string K) ∧ wx.cell? ⟨B, 1, none⟩ = some (.string V) ∧ (0 < k → wx.cell? ⟨b, off + (k - 1) * 2, none⟩ = some (.string P)) ∧ B < wx.heap.size ∧ b < w.heap.size
theorem InLoop.step {w : World} {B b off k : Nat} {K V P : ByteArray} {wx w' : World} (h : InLoop w B b off k K V P wx) (hb : Below wx.heap.size wx w') : InLoop w B b off k K V P w' := by
  obtain ⟨h1, h2, h3, h4, h5, h6⟩ := h
  refine ⟨h1.trans (hb.mono h1.size), (hb.cell (p := ⟨B, 0, none⟩) h5).trans h2, (hb.cell (p := ⟨B, 1, none⟩) h5).trans h3, fun hk => (hb.cell (p := ⟨b, off + (k - 1) * 2, none⟩) ?_).trans (h4 hk), Nat.lt_of_lt_of_le h5 hb.size, h6⟩
  exact Nat.lt_of_lt_of_le h6 h1.size
theorem labelsB_long {ls : List (ByteArray × ByteArray)} (h : 8 < ls.length) : labelsB ls = false := by
  unfold labelsB; rw [decide_eq_false_iff_not]; omega

set_option maxHeartbeats 800000 in
theorem ilabelsOk_any (a : Option Addr) (cap : Nat) (ls : List (ByteArray × ByteArray)) (w : World) (hl : ls.length ≤ maxLen) (hrow : rowOf w a ls) :
    Calls Tryz.prog 152 #[.slice a ls.length cap] w fun e w' => e = .returned (.bool (labelsB ls)) ∧ Below w.heap.size w w' := by
  unfold maxLen at hl
  have Hr : Hid (rowOf w a ls) := hrow
  clear hrow
  by_cases hbig : 8 < ls.length
  · have Hn := hide (labelsB_long hbig)
    have hbig' : (8 : Int) < (ls.length : Int) := by omega
    clear hbig Hr
    go_enter Tryz.func152, Tryz.ntmps152
    go_wp2
    go_ret
    exact ⟨ret_bool Hn.out.symm, Below.refl _ _⟩
  have hbig' : ¬ (8 : Int) < (ls.length : Int) := by omega
  go_enter Tryz.func152, Tryz.ntmps152
  go_wp2
  go_loopw [10] (fun i wr => ∃ (k : Nat), k ≤ ls.length ∧ i = .int .i64 k ∧ Hid (∀ j, j < k → okAt ls j) ∧ Below w.heap.size w wr) (fun i _ => ls.length - (intOf i).toNat)
  case atStart => exact ⟨0, Nat.zero_le _, rfl, fun j hj => by omega, Below.refl _ _⟩
  case round =>
    obtain ⟨k, hk, rfl, Hx, hbw⟩ := hrel
    by_cases hlt : k < ls.length
    · obtain ⟨b, off, rfl, hat⟩ := Hr.out (by omega)
      have hc := cellsOf_of hat
      have hbb : b < w.heap.size := World.block_lt_of_cell? _ _ (hat k hlt).1
      have c0 := (hbw.cell (p := ⟨b, off + k * 2, none⟩) hbb).trans (hc k hlt).1
      have c2 := (hbw.cell (p := ⟨b, off + k * 2 + 1, none⟩) hbb).trans (hc k hlt).2
      have cp : 0 < k → wr.cell? ⟨b, off + (k - 1) * 2, none⟩ = some (.string (keyAt ls (k - 1))) := fun h => (hbw.cell (p := ⟨b, off + (k - 1) * 2, none⟩) hbb).trans (hc (k - 1) (by omega)).1
      have Hs : Hid (okAt ls k → ∀ j, j < k + 1 → okAt ls j) := fun h => ok_succ Hx.out h
      have Hb : Hid (¬ okAt ls k → labelsB ls = false) := fun h => labelsB_bad hlt h
      have hcs := ok_cases ls k
      clear hat hc Hx
      generalize keyAt ls k = K at *
      generalize valAt ls k = V at *
      generalize keyAt ls (k - 1) = P at *
      have hS0 : InLoop w wr.heap.size b off k K V P (wr.alloc (.cells #[.string K, .string V] 210)) :=
        ⟨hbw.alloc hbw.size _, by simp, by simp, fun h => by rw [World.cell?_alloc_past _ _ _ (Nat.lt_of_lt_of_le hbb hbw.size)]; exact cp h, by simp, hbb⟩
      have HS0 := hide hS0
      have hK : ∀ wx, InLoop w wr.heap.size b off k K V P wx → Calls Tryz.prog 129 #[.string K] wx fun e w' => e = .returned (.bool (nameB K)) ∧ Hid (InLoop w wr.heap.size b off k K V P w') := fun wx hx => (iname_any K wx).mono fun e w' h => ⟨h.1, hx.step h.2⟩
      have hV : ∀ wx, InLoop w wr.heap.size b off k K V P wx → Calls Tryz.prog 129 #[.string V] wx fun e w' => e = .returned (.bool (nameB V)) ∧ Hid (InLoop w wr.heap.size b off k K V P w') := fun wx hx => (iname_any V wx).mono fun e w' h => ⟨h.1, hx.step h.2⟩
      clear cp hS0
      rcases hcs with ⟨h1, hok⟩ | ⟨h1, h2, hok⟩ | ⟨h1, h2, h3, hok⟩ | ⟨h1, h2, h3, h4, hok⟩ | ⟨h1, h2, h3, h4, hok⟩
      · rw [h1] at hK
        have HK := hide hK
        have HV := hide hV
        clear hK hV h1
        have Hn := hide (Hb.out hok.out)
        clear Hs Hb Hr
        go_wp2_with (first | (go_at_call_of 129 K; refine (HK.out _ HS0.out).mono ?_; rintro e w2 ⟨rfl, hS2⟩; have x0 := hS2.out.2.1; have x1 := hS2.out.2.2.1) | (go_at_call_of 129 V; refine (HV.out _ hS2.out).mono ?_; rintro e w3 ⟨rfl, hS3⟩; have x2 := hS3.out.2.1; have x3 := hS3.out.2.2.1))
        go_ret
        exact ⟨ret_bool Hn.out.symm, hS2.out.1⟩
      · rw [h1] at hK
        rw [h2] at hV
        have HK := hide hK
        have HV := hide hV
        clear hK hV h1 h2
        have Hn := hide (Hb.out hok.out)
        clear Hs Hb Hr
        go_wp2_with (first | (go_at_call_of 129 K; refine (HK.out _ HS0.out).mono ?_; rintro e w2 ⟨rfl, hS2⟩; have x0 := hS2.out.2.1; have x1 := hS2.out.2.2.1) | (go_at_call_of 129 V; refine (HV.out _ hS2.out).mono ?_; rintro e w3 ⟨rfl, hS3⟩; have x2 := hS3.out.2.1; have x3 := hS3.out.2.2.1))
        go_ret
        exact ⟨ret_bool Hn.out.symm, hS3.out.1⟩
      · rw [h1] at hK
        rw [h2] at hV
        have HK := hide hK
        have HV := hide hV
        have hk0 : k = 0 := h3.out
        have h3' : decide ((0 : Int) < (k : Int)) = false := by rw [decide_eq_false_iff_not]; omega
        have h3'' : decide (0 < k) = false := by rw [decide_eq_false_iff_not]; omega
        have h3a : (k : Int) ≤ 0 := by omega
        clear h3 hk0
        clear hK hV h1 h2
        have Hn := hide (Hs.out hok.out)
        clear Hs Hb Hr
        go_wp2_with (first | (go_at_call_of 129 K; refine (HK.out _ HS0.out).mono ?_; rintro e w2 ⟨rfl, hS2⟩; have x0 := hS2.out.2.1; have x1 := hS2.out.2.2.1) | (go_at_call_of 129 V; refine (HV.out _ hS2.out).mono ?_; rintro e w3 ⟨rfl, hS3⟩; have x2 := hS3.out.2.1; have x3 := hS3.out.2.2.1))
        go_quiet (fail)
        go_wp2
        go_roundw
        case rel => exact ⟨k + 1, by omega, by go_num, Hn, below_drewN hS3.out.1 _⟩
        case measure => simp [intOf]; omega
      · rw [h1] at hK
        rw [h2] at hV
        have HK := hide hK
        have HV := hide hV
        have h3' : (0 : Int) < (k : Int) := by omega
        clear hK hV h1 h2
        have Hn := hide (Hs.out hok.out)
        clear Hs Hb Hr
        go_wp2_with (first | (go_at_call_of 129 K; refine (HK.out _ HS0.out).mono ?_; rintro e w2 ⟨rfl, hS2⟩; have x0 := hS2.out.2.1; have x1 := hS2.out.2.2.1) | (go_at_call_of 129 V; refine (HV.out _ hS2.out).mono ?_; rintro e w3 ⟨rfl, hS3⟩; have x2 := hS3.out.2.1; have x3 := hS3.out.2.2.1; have cp3 := hS3.out.2.2.2.1 h3))
        go_quiet (fail)
        go_wp2
        go_roundw
        case rel => exact ⟨k + 1, by omega, by go_num, Hn, below_drewN hS3.out.1 _⟩
        case measure => simp [intOf]; omega
      · rw [h1] at hK
        rw [h2] at hV
        have HK := hide hK
        have HV := hide hV
        have h3' : (0 : Int) < (k : Int) := by omega
        clear hK hV h1 h2
        have Hn := hide (Hb.out hok.out)
        clear Hs Hb Hr
        go_wp2_with (first | (go_at_call_of 129 K; refine (HK.out _ HS0.out).mono ?_; rintro e w2 ⟨rfl, hS2⟩; have x0 := hS2.out.2.1; have x1 := hS2.out.2.2.1) | (go_at_call_of 129 V; refine (HV.out _ hS2.out).mono ?_; rintro e w3 ⟨rfl, hS3⟩; have x2 := hS3.out.2.1; have x3 := hS3.out.2.2.1; have cp3 := hS3.out.2.2.2.1 h3))
        go_quiet (fail)
        go_wp2
        go_ret
        exact ⟨ret_bool Hn.out.symm, below_drewN hS3.out.1 _⟩
    · have e : k = ls.length := by omega
      subst e
      have Hn : Hid (labelsB ls = true) := by show _ = _; rw [labelsB_end Hx.out, decide_eq_true_eq]; omega
      clear Hx Hr
      go_wp2
      go_ret
      exact ⟨ret_bool Hn.out.symm, hbw⟩
end Go.Proofs.YtdnodaoeflbfkaaGreat
/- Names in order: what is asked of a term's values and of a value's keys; impl.ascendingNames. -/
namespace Go.Proofs.YtdnodaoeflbfkaaGreat
open Go.RowKit Go.BigFrame
set_option linter.unusedVariables false

def ssAt (ss : List ByteArray) (i : Nat) : ByteArray := ss[i]?.getD ByteArray.empty
def okV (ss : List ByteArray) (i : Nat) : Prop := nameB (ssAt ss i) = true ∧ (0 < i → ltS (ssAt ss (i - 1)) (ssAt ss i) = true)
def valsB (ss : List ByteArray) : Bool := decide (∀ i, i < ss.length → nameB (ssAt ss i) = true ∧ (0 < i → ltS (ssAt ss (i - 1)) (ssAt ss i) = true))
theorem valsB_bad {ss : List ByteArray} {k : Nat} (hk : k < ss.length) (h : ¬ okV ss k) : valsB ss = false := by
  unfold valsB; rw [decide_eq_false_iff_not]; exact fun g => h (g k hk)
theorem valsB_end {ss : List ByteArray} (h : ∀ i, i < ss.length → okV ss i) : valsB ss = true := by
  unfold valsB; rw [decide_eq_true_eq]; exact h
theorem okV_succ {ss : List ByteArray} {k : Nat} (h : ∀ i, i < k → okV ss i) (hk : okV ss k) : ∀ i, i < k + 1 → okV ss i := by
  intro i hi
  by_cases e : i = k
  · rw [e]; exact hk
  · exact h i (by omega)
theorem ssAt_get {ss : List ByteArray} {k : Nat} (h : k < ss.length) : ssAt ss k = ss[k] := by unfold ssAt; rw [List.getElem?_eq_getElem h]; rfl
theorem strAt_cells {w : World} {b off : Nat} {ss : List ByteArray} (h : strAt w b off ss) : ∀ i, i < ss.length → w.cell? ⟨b, off + i, none⟩ = some (.string (ssAt ss i)) := fun i hi => by rw [ssAt_get hi]; exact h i hi
theorem okV_cases (ss : List ByteArray) (k : Nat) :
    (nameB (ssAt ss k) = false ∧ Hid (¬ okV ss k)) ∨ (nameB (ssAt ss k) = true ∧ Hid (k = 0) ∧ Hid (okV ss k)) ∨
    (nameB (ssAt ss k) = true ∧ 0 < k ∧ Op.bytesLess (ssAt ss (k - 1)).toList (ssAt ss k).toList = true ∧ Hid (okV ss k)) ∨
    (nameB (ssAt ss k) = true ∧ 0 < k ∧ Op.bytesLess (ssAt ss (k - 1)).toList (ssAt ss k).toList = false ∧ Hid (¬ okV ss k)) := by
  have hd : okV ss k ↔ nameB (ssAt ss k) = true ∧ (0 < k → Op.bytesLess (ssAt ss (k - 1)).toList (ssAt ss k).toList = true) := Iff.rfl
  unfold Hid
  rw [hd]
  rcases Bool.eq_false_or_eq_true (nameB (ssAt ss k)) with h1 | h1
  · by_cases h3 : 0 < k
    · rcases Bool.eq_false_or_eq_true (Op.bytesLess (ssAt ss (k - 1)).toList (ssAt ss k).toList) with h4 | h4
      · exact .inr (.inr (.inl ⟨h1, h3, h4, h1, fun _ => h4⟩))
      · refine .inr (.inr (.inr ⟨h1, h3, h4, fun g => ?_⟩))
        have := g.2 h3
        rw [h4] at this; cases this
    · exact .inr (.inl ⟨h1, by omega, h1, fun h => absurd h h3⟩)
  · refine .inl ⟨h1, fun g => ?_⟩
    rw [h1] at g; cases g.1

set_option maxHeartbeats 800000 in
theorem iasc_any (a : Option Addr) (cap : Nat) (ss : List ByteArray) (w : World) (hl : ss.length ≤ maxLen) (hrow : strOf w a ss) :
    Calls Tryz.prog 149 #[.slice a ss.length cap] w fun e w' => e = .returned (.bool (valsB ss)) ∧ Below w.heap.size w w' := by
  unfold maxLen at hl
  have Hr := hide hrow
  clear hrow
  go_enter Tryz.func149, Tryz.ntmps149
  go_wp2
  go_loopw [7] (fun i wr => ∃ (k : Nat), k ≤ ss.length ∧ i = .int .i64 k ∧ Hid (∀ j, j < k → okV ss j) ∧ Below w.heap.size w wr) (fun i _ => ss.length - (intOf i).toNat)
  case atStart => exact ⟨0, Nat.zero_le _, rfl, fun j hj => by omega, Below.refl _ _⟩
  case round =>
    obtain ⟨k, hk, rfl, Hx, hbw⟩ := hrel
    by_cases hlt : k < ss.length
    · obtain ⟨b, off, rfl, hat⟩ := Hr.out (by omega)
      have hc := strAt_cells hat
      have hbb : b < w.heap.size := World.block_lt_of_cell? _ _ (hat k hlt)
      have c0 := (hbw.cell (p := ⟨b, off + k, none⟩) hbb).trans (hc k hlt)
      have Hcp : Hid (0 < k → ∀ wx, Below w.heap.size w wx → wx.cell? ⟨b, off + (k - 1), none⟩ = some (.string (ssAt ss (k - 1)))) := fun h wx hx => (hx.cell (p := ⟨b, off + (k - 1), none⟩) hbb).trans (hc (k - 1) (by omega))
      have Hs : Hid (okV ss k → ∀ j, j < k + 1 → okV ss j) := fun h => okV_succ Hx.out h
      have Hb : Hid (¬ okV ss k → valsB ss = false) := fun h => valsB_bad hlt h
      have hcs := okV_cases ss k
      clear hat hc Hx
      generalize ssAt ss k = K at *
      generalize ssAt ss (k - 1) = P at *
      have hK := (iname_any K wr)
      rcases hcs with ⟨h1, hok⟩ | ⟨h1, h3, hok⟩ | ⟨h1, h3, h4, hok⟩ | ⟨h1, h3, h4, hok⟩
      · rw [h1] at hK
        have HK := hide hK
        have Hn := hide (Hb.out hok.out)
        clear hK h1 Hcp Hs Hb Hr
        go_wp2_with fail
        refine (HK.out).mono ?_
        rintro e w1 ⟨rfl, hb1⟩
        go_wp2
        go_ret
        exact ⟨ret_bool (Hn.out.symm), hbw.trans (hb1.mono hbw.size)⟩
      · rw [h1] at hK
        have HK := hide hK
        have hk0 : k = 0 := h3.out
        have h3' : decide ((0 : Int) < (k : Int)) = false := by rw [decide_eq_false_iff_not]; omega
        have h3'' : decide (0 < k) = false := by rw [decide_eq_false_iff_not]; omega
        have h3a : (k : Int) ≤ 0 := by omega
        have Hn := hide (Hs.out hok.out)
        clear hK h1 Hcp h3 hk0 Hs Hb Hr
        go_wp2_with fail
        refine (HK.out).mono ?_
        rintro e w1 ⟨rfl, hb1⟩
        go_wp2
        go_roundw
        case rel => exact ⟨k + 1, by omega, by go_num, Hn, hbw.trans (hb1.mono hbw.size)⟩
        case measure => simp [intOf]; omega
      · rw [h1] at hK
        have HK := hide hK
        have h3' : (0 : Int) < (k : Int) := by omega
        have Hn := hide (Hs.out hok.out)
        clear hK h1 Hs Hb Hr
        go_wp2_with fail
        refine (HK.out).mono ?_
        rintro e w1 ⟨rfl, hb1⟩
        have cp := Hcp.out h3 w1 (hbw.trans (hb1.mono hbw.size))
        go_wp2
        go_roundw
        case rel => exact ⟨k + 1, by omega, by go_num, Hn, hbw.trans (hb1.mono hbw.size)⟩
        case measure => simp [intOf]; omega
      · rw [h1] at hK
        have HK := hide hK
        have h3' : (0 : Int) < (k : Int) := by omega
        have Hn := hide (Hb.out hok.out)
        clear hK h1 Hs Hb Hr
        go_wp2_with fail
        refine (HK.out).mono ?_
        rintro e w1 ⟨rfl, hb1⟩
        have cp := Hcp.out h3 w1 (hbw.trans (hb1.mono hbw.size))
        go_wp2
        go_ret
        exact ⟨ret_bool (Hn.out.symm), hbw.trans (hb1.mono hbw.size)⟩
    · have e : k = ss.length := by omega
      subst e
      have Hn : Hid (valsB ss = true) := valsB_end Hx.out
      clear Hx Hr
      go_wp2
      go_ret
      exact ⟨ret_bool (Hn.out.symm), hbw⟩

end Go.Proofs.YtdnodaoeflbfkaaGreat
/- Right terms: what spec and impl ask of a term's values and of a term. -/
namespace Go.Proofs.YtdnodaoeflbfkaaGreat
open Go.RowKit Go.BigFrame
set_option linter.unusedVariables false

def kindB (kd : Int) (n : Nat) : Bool := decide (((kd = 1 ∨ kd = 2) ∧ n = 1) ∨ (kd = 3 ∧ 1 ≤ n ∧ n ≤ 6) ∨ ((kd = 4 ∨ kd = 5) ∧ n = 0))
def termB (t : TD) : Bool := valsB t.2.2 && nameB t.2.1 && kindB t.1 t.2.2.length
def selB (ts : List TD) : Bool := decide (ts.length ≤ 8 ∧ ∀ t ∈ ts, termB t = true)
theorem kinds (kd : Int) : ((kd == 1) = true ∧ Hid (∀ n : Nat, kindB kd n = ((n : Int) == 1))) ∨ ((kd == 1) = false ∧ (kd == 2) = true ∧ Hid (∀ n : Nat, kindB kd n = ((n : Int) == 1))) ∨
    ((kd == 1) = false ∧ (kd == 2) = false ∧ (kd == 3) = true ∧ Hid (∀ n : Nat, kindB kd n = inB (n : Int) 1 6)) ∨
    ((kd == 1) = false ∧ (kd == 2) = false ∧ (kd == 3) = false ∧ (kd == 4) = true ∧ Hid (∀ n : Nat, kindB kd n = ((n : Int) == 0))) ∨
    ((kd == 1) = false ∧ (kd == 2) = false ∧ (kd == 3) = false ∧ (kd == 4) = false ∧ (kd == 5) = true ∧ Hid (∀ n : Nat, kindB kd n = ((n : Int) == 0))) ∨
    ((kd == 1) = false ∧ (kd == 2) = false ∧ (kd == 3) = false ∧ (kd == 4) = false ∧ (kd == 5) = false ∧ Hid (∀ n : Nat, kindB kd n = false)) := by
  have e : ∀ n : Nat, ∀ b : Bool, kindB kd n = b ↔ (b = true ↔ (((kd = 1 ∨ kd = 2) ∧ n = 1) ∨ (kd = 3 ∧ 1 ≤ n ∧ n ≤ 6) ∨ ((kd = 4 ∨ kd = 5) ∧ n = 0))) := fun n b => by
    unfold kindB; rw [Bool.eq_iff_iff, decide_eq_true_eq]; exact ⟨fun h => h.symm, fun h => h.symm⟩
  simp only [Hid, e, inB, beq_iff_eq, beq_eq_false_iff_ne, decide_eq_true_eq]
  by_cases h1 : kd = 1
  · left; exact ⟨h1, fun n => by omega⟩
  by_cases h2 : kd = 2
  · right; left; exact ⟨h1, h2, fun n => by omega⟩
  by_cases h3 : kd = 3
  · right; right; left; exact ⟨h1, h2, h3, fun n => by omega⟩
  by_cases h4 : kd = 4
  · right; right; right; left; exact ⟨h1, h2, h3, h4, fun n => by omega⟩
  by_cases h5 : kd = 5
  · right; right; right; right; left; exact ⟨h1, h2, h3, h4, h5, fun n => by omega⟩
  · right; right; right; right; right; exact ⟨h1, h2, h3, h4, h5, fun n => by simp; omega⟩

set_option maxHeartbeats 800000 in
theorem sterm_any (t : TD) (a : Option Addr) (cap : Nat) (w : World) (hl : t.2.2.length ≤ maxLen) (hk : t.2.1.size ≤ maxLen) (hz : okStrs t.2.2) (hrow : strOf w a t.2.2) :
    Calls Tryz.prog 194 #[.agg #[.int .i64 t.1, .string t.2.1, .slice a t.2.2.length cap]] w fun e w' => e = .returned (.bool (termB t)) ∧ Below w.heap.size w w' := by
  obtain ⟨kd, key, ss⟩ := t
  simp only at hl hk hz hrow ⊢
  unfold maxLen at hl
  have Hr := hide hrow
  have Hk := hide hk
  have Hz : Hid (∀ i, (ssAt ss i).size ≤ maxLen) := fun i => by
    unfold ssAt
    by_cases hi : i < ss.length
    · rw [List.getElem?_eq_getElem hi]; exact hz _ (List.getElem_mem hi)
    · rw [List.getElem?_eq_none (by omega)]; exact Nat.zero_le _
  clear hrow hz hk
  go_enter Tryz.func194, Tryz.ntmps194
  go_wp2
  go_loopw [4] (fun i wr => ∃ (k : Nat), k ≤ ss.length ∧ i = .int .i64 k ∧ Hid (∀ j, j < k → okV ss j) ∧ wr.cell? ⟨w.heap.size, 0, none⟩ = some (.int .i64 kd) ∧ wr.cell? ⟨w.heap.size, 1, none⟩ = some (.string key) ∧ wr.cell? ⟨w.heap.size, 2, none⟩ = some (.slice a ss.length cap) ∧ Below w.heap.size w wr) (fun i _ => ss.length - (intOf i).toNat)
  case atStart => exact ⟨0, Nat.zero_le _, rfl, fun j hj => by omega, by simp, by simp, by simp, (Below.refl _ _).alloc (by simp) _⟩
  case round =>
    obtain ⟨k, hk, rfl, Hx, b0, b1, b2, hbw⟩ := hrel
    by_cases hlt : k < ss.length
    · obtain ⟨b, off, rfl, hat⟩ := Hr.out (by omega)
      have hc := strAt_cells hat
      have hbb : b < w.heap.size := World.block_lt_of_cell? _ _ (hat k hlt)
      have c0 := (hbw.cell (p := ⟨b, off + k, none⟩) hbb).trans (hc k hlt)
      have cp : 0 < k → wr.cell? ⟨b, off + (k - 1), none⟩ = some (.string (ssAt ss (k - 1))) := fun h => (hbw.cell (p := ⟨b, off + (k - 1), none⟩) hbb).trans (hc (k - 1) (by omega))
      have hzK := Hz.out k
      have Hs : Hid (okV ss k → ∀ j, j < k + 1 → okV ss j) := fun h => okV_succ Hx.out h
      have Hb : Hid (¬ okV ss k → termB (kd, key, ss) = false) := fun h => by show (valsB ss && _ && _) = false; rw [valsB_bad hlt h]; rfl
      have hcs := okV_cases ss k
      clear hat hc Hx
      generalize ssAt ss k = K at *
      generalize ssAt ss (k - 1) = P at *
      have hK := fun wx => (sname_any K wx hzK)
      clear hzK
      rcases hcs with ⟨h1, hok⟩ | ⟨h1, h3, hok⟩ | ⟨h1, h3, h4, hok⟩ | ⟨h1, h3, h4, hok⟩
      · rw [h1] at hK
        have HK := hide hK
        have Hn := hide (Hb.out hok.out)
        clear hK h1 cp Hs Hb Hz Hr
        go_wp2
        go_quiet ((go_at_call 127; exact Calls.quiet_of_same (HK.out _)))
        go_wp2
        go_ret
        exact ⟨ret_bool Hn.out.symm, below_drewN hbw _⟩
      · rw [h1] at hK
        have HK := hide hK
        have hk0 : k = 0 := h3.out
        have h3' : decide ((0 : Int) < (k : Int)) = false := by rw [decide_eq_false_iff_not]; omega
        have h3'' : decide (0 < k) = false := by rw [decide_eq_false_iff_not]; omega
        have h3a : (k : Int) ≤ 0 := by omega
        have Hn := hide (Hs.out hok.out)
        clear hK h1 cp h3 hk0 Hs Hb Hz Hr
        go_wp2
        go_quiet ((go_at_call 127; exact Calls.quiet_of_same (HK.out _)))
        go_wp2
        go_roundw
        case rel => exact ⟨k + 1, by omega, by go_num, Hn, b0, b1, b2, below_drewN hbw _⟩
        case measure => simp [intOf]; omega
      · rw [h1] at hK
        have HK := hide hK
        have cp := cp h3
        have h3' : (0 : Int) < (k : Int) := by omega
        have Hn := hide (Hs.out hok.out)
        clear hK h1 Hs Hb Hz Hr
        go_wp2
        go_quiet ((go_at_call 127; exact Calls.quiet_of_same (HK.out _)))
        go_wp2
        go_roundw
        case rel => exact ⟨k + 1, by omega, by go_num, Hn, b0, b1, b2, below_drewN hbw _⟩
        case measure => simp [intOf]; omega
      · rw [h1] at hK
        have HK := hide hK
        have cp := cp h3
        have h3' : (0 : Int) < (k : Int) := by omega
        have Hn := hide (Hb.out hok.out)
        clear hK h1 Hs Hb Hz Hr
        go_wp2
        go_quiet ((go_at_call 127; exact Calls.quiet_of_same (HK.out _)))
        go_wp2
        go_ret
        exact ⟨ret_bool Hn.out.symm, below_drewN hbw _⟩
    · have e : k = ss.length := by omega
      subst e
      have Hv : Hid (termB (kd, key, ss) = (nameB key && kindB kd ss.length)) := by show (valsB ss && _ && _) = _; rw [valsB_end Hx.out]; rfl
      have hK := fun wx => (sname_any key wx Hk.out)
      clear Hx Hr Hz
      generalize hn : ss.length = n at *
      have Hn := hide hn
      clear hn
      cases hb : nameB key
      · rw [hb] at hK Hv
        have HK := hide hK
        clear hK hb
        go_wp2_with fail
        refine (HK.out _).mono ?_
        rintro e w1 ⟨rfl, rfl⟩
        go_wp2
        go_ret
        exact ⟨ret_bool Hv.out.symm, hbw⟩
      · rw [hb] at hK Hv
        have HK := hide hK
        clear hK hb
        go_wp2_with fail
        refine (HK.out _).mono ?_
        rintro e w1 ⟨rfl, rfl⟩
        rcases kinds kd with ⟨q1, hq⟩ | ⟨q1, q2, hq⟩ | ⟨q1, q2, q3, hq⟩ | ⟨q1, q2, q3, q4, hq⟩ | ⟨q1, q2, q3, q4, q5, hq⟩ | ⟨q1, q2, q3, q4, q5, hq⟩
        · go_wp2
          go_ret
          exact ⟨ret_bool (by rw [Hv.out, hq.out]; rfl), hbw⟩
        · go_wp2
          go_ret
          exact ⟨ret_bool (by rw [Hv.out, hq.out]; rfl), hbw⟩
        · go_wp2_with (go_at_call 98; refine (l1In_any _ _ _ _).mono ?_; rintro e w' ⟨rfl, rfl⟩)
          go_ret
          exact ⟨ret_bool (by rw [Hv.out, hq.out]; rfl), hbw⟩
        · go_wp2
          go_ret
          exact ⟨ret_bool (by rw [Hv.out, hq.out]; rfl), hbw⟩
        · go_wp2
          go_ret
          exact ⟨ret_bool (by rw [Hv.out, hq.out]; rfl), hbw⟩
        · go_wp2
          go_ret
          exact ⟨ret_bool (by rw [Hv.out, hq.out]; rfl), hbw⟩
end Go.Proofs.YtdnodaoeflbfkaaGreat
/- Right selectors: spec.SelectorOk; impl's values of a term. -/
namespace Go.Proofs.YtdnodaoeflbfkaaGreat
open Go.RowKit Go.BigFrame
set_option linter.unusedVariables false

theorem selB_bad {ts : List TD} {k : Nat} (hk : k < ts.length) (h : termB (ts[k]'hk) = false) : selB ts = false := by
  unfold selB; rw [decide_eq_false_iff_not]; intro g
  have := g.2 _ (List.getElem_mem hk)
  rw [h] at this; cases this
theorem selB_end {ts : List TD} (h : ∀ i (hi : i < ts.length), termB (ts[i]'hi) = true) : selB ts = decide (ts.length ≤ 8) := by
  unfold selB; rw [decide_eq_decide]
  refine ⟨fun g => g.1, fun g => ⟨g, fun t ht => ?_⟩⟩
  obtain ⟨i, hi, rfl⟩ := List.getElem_of_mem ht
  exact h i hi
theorem selB_long {ts : List TD} (h : 8 < ts.length) : selB ts = false := by unfold selB; rw [decide_eq_false_iff_not]; omega

theorem sselOk_any (a : Option Addr) (cap : Nat) (ts : List TD) (w : World) (hl : ts.length ≤ maxLen) (hz : okTerms ts) (hrow : termsOf w a ts) :
    Calls Tryz.prog 137 #[.slice a ts.length cap] w fun e w' => e = .returned (.bool (selB ts)) ∧ Below w.heap.size w w' := by
  unfold maxLen at hl
  have Hr := hide hrow
  have Hz := hide hz
  clear hrow hz
  go_enter Tryz.func137, Tryz.ntmps137
  go_wp2
  go_loopw [3] (fun i wr => ∃ (k : Nat), k ≤ ts.length ∧ i = .int .i64 k ∧ Hid (∀ j (hj : j < ts.length), j < k → termB (ts[j]'hj) = true) ∧ Below w.heap.size w wr) (fun i _ => ts.length - (intOf i).toNat)
  case atStart => exact ⟨0, Nat.zero_le _, rfl, fun j hj h => by omega, Below.refl _ _⟩
  case round =>
    obtain ⟨k, hk, rfl, Hx, hbw⟩ := hrel
    by_cases hlt : k < ts.length
    · obtain ⟨b, off, rfl, hat⟩ := Hr.out (by omega)
      obtain ⟨h0c, h1c, av, capv, h2c, h3c⟩ := (hat k hlt).below hbw
      have hz := (Hz.out _ (List.getElem_mem hlt))
      have Hb : Hid (termB (ts[k]'hlt) = false → selB ts = false) := fun h => selB_bad hlt h
      have Hs : Hid (termB (ts[k]'hlt) = true → ∀ j (hj : j < ts.length), j < k + 1 → termB (ts[j]'hj) = true) := fun h j hj hjk => by
        by_cases e : j = k
        · subst e; exact h
        · exact Hx.out j hj (by omega)
      have hcon := sterm_any (ts[k]'hlt) av capv wr hz.2.1 hz.1 hz.2.2 h3c.1
      clear hat Hx hz h3c
      generalize ts[k]'hlt = t at *
      obtain ⟨kd, key, ss⟩ := t
      simp only at h0c h1c h2c hcon
      cases hb : termB (kd, key, ss)
      · rw [hb] at hcon
        have Hcon := hide hcon
        have Hn := hide (Hb.out hb)
        clear Hb Hs hb hcon
        go_wp2_with fail
        refine (Hcon.out).mono ?_
        rintro e w1 ⟨rfl, hb1⟩
        go_wp2
        go_ret
        exact ⟨ret_bool Hn.out.symm, hbw.trans (hb1.mono hbw.size)⟩
      · rw [hb] at hcon
        have Hcon := hide hcon
        have Hn := hide (Hs.out hb)
        clear Hb Hs hb hcon
        go_wp2_with fail
        refine (Hcon.out).mono ?_
        rintro e w1 ⟨rfl, hb1⟩
        go_wp2
        go_roundw
        case rel => exact ⟨k + 1, by omega, by go_num, Hn, hbw.trans (hb1.mono hbw.size)⟩
        case measure => simp [intOf]; omega
    · have e : k = ts.length := by omega
      subst e
      have Hn : Hid (selB ts = decide (ts.length ≤ 8)) := selB_end fun i hi => Hx.out i hi hi
      clear Hx Hr Hz
      go_wp2
      go_ret
      exact ⟨ret_bool (by rw [Hn.out, Bool.eq_iff_iff]; simp; omega), hbw⟩

theorem ivals_any (a : Option Addr) (cap : Nat) (ss : List ByteArray) (w : World) (hl : ss.length ≤ maxLen) (hrow : strOf w a ss) :
    Calls Tryz.prog 245 #[.slice a ss.length cap] w fun e w' => e = .returned (.bool (decide (ss.length ≤ 6) && valsB ss)) ∧ Below w.heap.size w w' := by
  have Hcon := hide (fun (wx : World) (hx : Below w.heap.size w wx) => iasc_any a cap ss wx hl (hrow.below hx))
  unfold maxLen at hl
  clear hrow
  by_cases hbig : 6 < ss.length
  · have Hn : Hid ((decide (ss.length ≤ 6) && valsB ss) = false) := by show _ = _; rw [decide_eq_false (by omega)]; rfl
    have hbig' : (6 : Int) < (ss.length : Int) := by omega
    clear hbig Hcon
    go_enter Tryz.func245, Tryz.ntmps245
    go_wp2
    go_ret
    exact ⟨ret_bool Hn.out.symm, Below.refl _ _⟩
  have hbig' : (ss.length : Int) ≤ 6 := by omega
  have Hd : Hid ((decide (ss.length ≤ 6) && valsB ss) = valsB ss) := by show _ = _; rw [decide_eq_true (by omega)]; rfl
  generalize (decide (ss.length ≤ 6) && valsB ss) = R at *
  generalize valsB ss = V at *
  obtain rfl := Hd.out
  go_enter Tryz.func245, Tryz.ntmps245
  go_wp2_with fail
  refine (Hcon.out _ (Below.refl _ _)).mono ?_
  rintro e w1 ⟨rfl, hb1⟩
  go_wp2
  go_ret
  exact ⟨rfl, hb1⟩
end Go.Proofs.YtdnodaoeflbfkaaGreat
/- impl.termOf: a term that is right, as a value of an interface. -/
namespace Go.Proofs.YtdnodaoeflbfkaaGreat
open Go.RowKit Go.BigFrame
set_option linter.unusedVariables false

/-- the value of impl's interface that stands for a right term -/
def isV (v : Value) (t : TD) (a : Option Addr) (cap : Nat) : Prop :=
  (t.1 = 1 ∧ v = .iface 296 (.agg #[.string t.2.1, .string (ssAt t.2.2 0)])) ∨
  (t.1 = 2 ∧ v = .iface 297 (.agg #[.string t.2.1, .string (ssAt t.2.2 0)])) ∨
  (t.1 = 3 ∧ v = .iface 299 (.agg #[.string t.2.1, .slice a t.2.2.length cap])) ∨
  (t.1 = 4 ∧ v = .iface 301 (.agg #[.string t.2.1])) ∨
  (t.1 = 5 ∧ v = .iface 302 (.agg #[.string t.2.1]))
def isIf (w : World) (v : Value) (t : TD) : Prop := ∃ a cap, isV v t a cap ∧ strOf w a t.2.2 ∧ t.2.2.length ≤ cap
theorem isIf.below {w w' : World} {v : Value} {t : TD} (h : isIf w v t) (hb : Below w.heap.size w w') : isIf w' v t := by
  obtain ⟨a, cap, h1, h2⟩ := h
  exact ⟨a, cap, h1, h2.1.below hb, h2.2⟩
theorem termCases (kd : Int) (n : Nat) :
    ((kd == 1) = true ∧ ((n : Int) == 1) = true ∧ Hid (kd = 1 ∧ kindB kd n = true)) ∨
    ((kd == 1) = false ∧ (kd == 2) = true ∧ ((n : Int) == 1) = true ∧ Hid (kd = 2 ∧ kindB kd n = true)) ∨
    ((kd == 1) = false ∧ (kd == 2) = false ∧ (kd == 3) = true ∧ (0 : Int) < (n : Int) ∧ Hid (kd = 3 ∧ (n ≤ 6 → kindB kd n = true))) ∨
    ((kd == 1) = false ∧ (kd == 2) = false ∧ (kd == 3) = false ∧ (kd == 4) = true ∧ ((n : Int) == 0) = true ∧ Hid (kd = 4 ∧ kindB kd n = true)) ∨
    ((kd == 1) = false ∧ (kd == 2) = false ∧ (kd == 3) = false ∧ (kd == 4) = false ∧ (kd == 5) = true ∧ ((n : Int) == 0) = true ∧ Hid (kd = 5 ∧ kindB kd n = true)) ∨
    (Hid (kindB kd n = false) ∧ (((kd == 1) = true ∧ (kd == 2) = false ∧ (kd == 3) = false ∧ (kd == 4) = false ∧ (kd == 5) = false ∧ ((n : Int) == 1) = false) ∨
      ((kd == 1) = false ∧ (kd == 2) = true ∧ (kd == 3) = false ∧ (kd == 4) = false ∧ (kd == 5) = false ∧ ((n : Int) == 1) = false) ∨
      ((kd == 1) = false ∧ (kd == 2) = false ∧ (kd == 3) = true ∧ (kd == 4) = false ∧ (kd == 5) = false ∧ (n : Int) ≤ 0) ∨
      ((kd == 1) = false ∧ (kd == 2) = false ∧ (kd == 3) = false ∧ (kd == 4) = true ∧ (kd == 5) = false ∧ ((n : Int) == 0) = false) ∨
      ((kd == 1) = false ∧ (kd == 2) = false ∧ (kd == 3) = false ∧ (kd == 4) = false ∧ (kd == 5) = true ∧ ((n : Int) == 0) = false) ∨
      ((kd == 1) = false ∧ (kd == 2) = false ∧ (kd == 3) = false ∧ (kd == 4) = false ∧ (kd == 5) = false))) := by
  have kt : (((kd = 1 ∨ kd = 2) ∧ n = 1) ∨ (kd = 3 ∧ 1 ≤ n ∧ n ≤ 6) ∨ ((kd = 4 ∨ kd = 5) ∧ n = 0)) → kindB kd n = true := fun h => by unfold kindB; rw [decide_eq_true_eq]; exact h
  have kf : ¬ (((kd = 1 ∨ kd = 2) ∧ n = 1) ∨ (kd = 3 ∧ 1 ≤ n ∧ n ≤ 6) ∨ ((kd = 4 ∨ kd = 5) ∧ n = 0)) → kindB kd n = false := fun h => by unfold kindB; rw [decide_eq_false_iff_not]; exact h
  have ne : ∀ m : Int, kd ≠ m → (kd == m) = false := fun m h => by rw [beq_eq_false_iff_ne]; exact h
  have eq : ∀ m : Int, kd = m → (kd == m) = true := fun m h => by rw [beq_iff_eq]; exact h
  have nn : ∀ m : Int, (n : Int) ≠ m → ((n : Int) == m) = false := fun m h => by rw [beq_eq_false_iff_ne]; exact h
  have ee : ∀ m : Int, (n : Int) = m → ((n : Int) == m) = true := fun m h => by rw [beq_iff_eq]; exact h
  by_cases h1 : kd = 1
  · by_cases h2 : n = 1
    · exact .inl ⟨eq _ h1, ee _ (by omega), h1, kt (by omega)⟩
    · exact .inr (.inr (.inr (.inr (.inr ⟨kf (by omega), .inl ⟨eq _ h1, ne _ (by omega), ne _ (by omega), ne _ (by omega), ne _ (by omega), nn _ (by omega)⟩⟩))))
  by_cases h2 : kd = 2
  · by_cases h3 : n = 1
    · exact .inr (.inl ⟨ne _ h1, eq _ h2, ee _ (by omega), h2, kt (by omega)⟩)
    · exact .inr (.inr (.inr (.inr (.inr ⟨kf (by omega), .inr (.inl ⟨ne _ h1, eq _ h2, ne _ (by omega), ne _ (by omega), ne _ (by omega), nn _ (by omega)⟩)⟩))))
  by_cases h3 : kd = 3
  · by_cases h4 : n = 0
    · exact .inr (.inr (.inr (.inr (.inr ⟨kf (by omega), .inr (.inr (.inl ⟨ne _ h1, ne _ h2, eq _ h3, ne _ (by omega), ne _ (by omega), by omega⟩))⟩))))
    · exact .inr (.inr (.inl ⟨ne _ h1, ne _ h2, eq _ h3, by omega, h3, fun h6 => kt (by omega)⟩))
  by_cases h4 : kd = 4
  · by_cases h5 : n = 0
    · exact .inr (.inr (.inr (.inl ⟨ne _ h1, ne _ h2, ne _ h3, eq _ h4, ee _ (by omega), h4, kt (by omega)⟩)))
    · exact .inr (.inr (.inr (.inr (.inr ⟨kf (by omega), .inr (.inr (.inr (.inl ⟨ne _ h1, ne _ h2, ne _ h3, eq _ h4, ne _ (by omega), nn _ (by omega)⟩)))⟩))))
  by_cases h5 : kd = 5
  · by_cases h6 : n = 0
    · exact .inr (.inr (.inr (.inr (.inl ⟨ne _ h1, ne _ h2, ne _ h3, ne _ h4, eq _ h5, ee _ (by omega), h5, kt (by omega)⟩))))
    · exact .inr (.inr (.inr (.inr (.inr ⟨kf (by omega), .inr (.inr (.inr (.inr (.inl ⟨ne _ h1, ne _ h2, ne _ h3, ne _ h4, eq _ h5, nn _ (by omega)⟩))))⟩))))
  · exact .inr (.inr (.inr (.inr (.inr ⟨kf (by omega), .inr (.inr (.inr (.inr (.inr ⟨ne _ h1, ne _ h2, ne _ h3, ne _ h4, ne _ h5⟩))))⟩))))
theorem termB_key {kd : Int} {key : ByteArray} {ss : List ByteArray} (h : nameB key = false) : termB (kd, key, ss) = false := by show (valsB ss && nameB key && kindB kd ss.length) = false; rw [h, Bool.and_false, Bool.false_and]
theorem kindB_le {kd : Int} {n : Nat} (h : kindB kd n = true) : n ≤ 6 := by unfold kindB at h; rw [decide_eq_true_eq] at h; omega
theorem termB_vals {kd : Int} {key : ByteArray} {ss : List ByteArray} (h : (decide (ss.length ≤ 6) && valsB ss) = false) : termB (kd, key, ss) = false := by
  show (valsB ss && nameB key && kindB kd ss.length) = false
  cases hk : kindB kd ss.length
  · rw [Bool.and_false]
  · have := kindB_le hk
    rw [decide_eq_true this, Bool.true_and] at h
    rw [h]; rfl
theorem termB_kind {kd : Int} {key : ByteArray} {ss : List ByteArray} (h1 : nameB key = true) (h2 : (decide (ss.length ≤ 6) && valsB ss) = true) : termB (kd, key, ss) = kindB kd ss.length := by
  show (valsB ss && nameB key && kindB kd ss.length) = _
  rw [Bool.and_eq_true] at h2
  rw [h2.2, h1]; rfl

set_option maxHeartbeats 800000 in
theorem iterm_bad (kd : Int) (key : ByteArray) (ss : List ByteArray) (a : Option Addr) (cap : Nat) (w : World) (hl : ss.length ≤ 2 ^ 63 - 1) (Hr : Hid (strOf w a ss)) (HK : Hid (∀ wx, Calls Tryz.prog 129 #[.string key] wx fun e w' => e = .returned (.bool true) ∧ Below wx.heap.size wx w')) (HV : Hid (∀ wx, strOf wx a ss → Calls Tryz.prog 245 #[.slice a ss.length cap] wx fun e w' => e = .returned (.bool true) ∧ Below wx.heap.size wx w')) (H6 : Hid (ss.length ≤ 6)) (Hq : Hid (kindB kd ss.length = false)) :
    Calls Tryz.prog 226 #[.agg #[.int .i64 kd, .string key, .slice a ss.length cap]] w fun e w' => e = .returned (.tuple #[.nilIface, .bool false]) ∧ Below w.heap.size w w' := by
  rcases termCases kd ss.length with ⟨q1, q2, hq⟩ | ⟨q1, q2, q3, hq⟩ | ⟨q1, q2, q3, q4, hq⟩ | ⟨q1, q2, q3, q4, q5, hq⟩ | ⟨q1, q2, q3, q4, q5, q6, hq⟩ | ⟨hq, q⟩
  · have := hq.out.2; rw [Hq.out] at this; cases this
  · have := hq.out.2; rw [Hq.out] at this; cases this
  · have := hq.out.2 H6.out; rw [Hq.out] at this; cases this
  · have := hq.out.2; rw [Hq.out] at this; cases this
  · have := hq.out.2; rw [Hq.out] at this; cases this
  rcases q with ⟨q1, q2, q3, q4, q5, q6⟩ | ⟨q1, q2, q3, q4, q5, q6⟩ | ⟨q1, q2, q3, q4, q5, q6⟩ | ⟨q1, q2, q3, q4, q5, q6⟩ | ⟨q1, q2, q3, q4, q5, q6⟩ | ⟨q1, q2, q3, q4, q5⟩
  all_goals
    go_enter Tryz.func226, Tryz.ntmps226
    go_wp2_with fail
    refine (HK.out _).mono ?_
    rintro e w1 ⟨rfl, hb1⟩
    have b0 : w1.cell? ⟨w.heap.size, 0, none⟩ = some (.int .i64 kd) := (hb1.cell (p := ⟨w.heap.size, 0, none⟩) (by simp)).trans (by simp)
    have b1 : w1.cell? ⟨w.heap.size, 1, none⟩ = some (.string key) := (hb1.cell (p := ⟨w.heap.size, 1, none⟩) (by simp)).trans (by simp)
    have b2 : w1.cell? ⟨w.heap.size, 2, none⟩ = some (.slice a ss.length cap) := (hb1.cell (p := ⟨w.heap.size, 2, none⟩) (by simp)).trans (by simp)
    have hw1 : w.heap.size < w1.heap.size := World.block_lt_of_cell? _ _ b0
    have Hb1 := hide hb1
    clear hb1
    go_wp2_with fail
    refine (HV.out w1 (Hr.out.below ((Below.refl _ _).alloc (by simp) _ |>.trans (Hb1.out.mono (by simp))))).mono ?_
    rintro e w2 ⟨rfl, hb2⟩
    have d0 := (hb2.cell (p := ⟨w.heap.size, 0, none⟩) hw1).trans b0
    have d1 := (hb2.cell (p := ⟨w.heap.size, 1, none⟩) hw1).trans b1
    have d2 := (hb2.cell (p := ⟨w.heap.size, 2, none⟩) hw1).trans b2
    have hw2 : w.heap.size < w2.heap.size := World.block_lt_of_cell? _ _ d0
    have Hb : Hid (Below w.heap.size w w2) := ((Below.refl _ _).alloc (by simp) _).trans ((Hb1.out.mono (by simp)).trans (hb2.mono (by omega)))
    clear hb2 b0 b1 b2 hw1 Hb1
    go_wp2
    go_region
    go_wp2
    go_ret2
    exact ⟨rfl, ((Hb.out.alloc (by omega) _).drew)⟩

set_option maxHeartbeats 800000 in
theorem iterm_1 (kd : Int) (key : ByteArray) (ss : List ByteArray) (a : Option Addr) (cap : Nat) (w : World) (hl : ss.length ≤ 2 ^ 63 - 1) (Hr : Hid (strOf w a ss)) (HK : Hid (∀ wx, Calls Tryz.prog 129 #[.string key] wx fun e w' => e = .returned (.bool true) ∧ Below wx.heap.size wx w')) (HV : Hid (∀ wx, strOf wx a ss → Calls Tryz.prog 245 #[.slice a ss.length cap] wx fun e w' => e = .returned (.bool true) ∧ Below wx.heap.size wx w')) (q1 : (kd == 1) = true) (hn : ((ss.length : Int) == 1) = true) :
    Calls Tryz.prog 226 #[.agg #[.int .i64 kd, .string key, .slice a ss.length cap]] w fun e w' => e = .returned (.tuple #[.iface 296 (.agg #[.string key, .string (ssAt ss 0)]), .bool true]) ∧ Below w.heap.size w w' := by
  have h0n : 0 < ss.length := by rw [beq_iff_eq] at hn; omega
  obtain ⟨b, off, rfl, hat⟩ := Hr.out h0n
  have hbb := World.block_lt_of_cell? _ _ (hat 0 h0n)
  have Hc := hide (strAt_cells hat 0 h0n)
  clear hat
  go_enter Tryz.func226, Tryz.ntmps226
  go_wp2_with fail
  refine (HK.out _).mono ?_
  rintro e w1 ⟨rfl, hb1⟩
  have b0 : w1.cell? ⟨w.heap.size, 0, none⟩ = some (.int .i64 kd) := (hb1.cell (p := ⟨w.heap.size, 0, none⟩) (by simp)).trans (by simp)
  have b1 : w1.cell? ⟨w.heap.size, 1, none⟩ = some (.string key) := (hb1.cell (p := ⟨w.heap.size, 1, none⟩) (by simp)).trans (by simp)
  have b2 : w1.cell? ⟨w.heap.size, 2, none⟩ = some (.slice (some ⟨b, off, none⟩) ss.length cap) := (hb1.cell (p := ⟨w.heap.size, 2, none⟩) (by simp)).trans (by simp)
  have hw1 : w.heap.size < w1.heap.size := World.block_lt_of_cell? _ _ b0
  have Hb1 := hide hb1
  clear hb1
  go_wp2_with fail
  refine (HV.out w1 (Hr.out.below ((Below.refl _ _).alloc (by simp) _ |>.trans (Hb1.out.mono (by simp))))).mono ?_
  rintro e w2 ⟨rfl, hb2⟩
  have d0 := (hb2.cell (p := ⟨w.heap.size, 0, none⟩) hw1).trans b0
  have d1 := (hb2.cell (p := ⟨w.heap.size, 1, none⟩) hw1).trans b1
  have d2 := (hb2.cell (p := ⟨w.heap.size, 2, none⟩) hw1).trans b2
  have hw2 : w.heap.size < w2.heap.size := World.block_lt_of_cell? _ _ d0
  have Hb : Hid (Below w.heap.size w w2) := ((Below.refl _ _).alloc (by simp) _).trans ((Hb1.out.mono (by simp)).trans (hb2.mono (by omega)))
  clear hb2 b0 b1 b2 hw1 Hb1
  have c0 : w2.cell? ⟨b, off, none⟩ = some (.string (ssAt ss 0)) := (Hb.out.cell (p := ⟨b, off, none⟩) hbb).trans Hc.out
  have hb2 : b < w2.heap.size := Nat.lt_of_lt_of_le hbb Hb.out.size
  go_wp2
  go_region
  go_wp2
  go_region
  go_wp2
  go_ret2
  exact ⟨rfl, ((Hb.out.alloc (by omega) _).drew).drew⟩
set_option maxHeartbeats 800000 in
theorem iterm_2 (kd : Int) (key : ByteArray) (ss : List ByteArray) (a : Option Addr) (cap : Nat) (w : World) (hl : ss.length ≤ 2 ^ 63 - 1) (Hr : Hid (strOf w a ss)) (HK : Hid (∀ wx, Calls Tryz.prog 129 #[.string key] wx fun e w' => e = .returned (.bool true) ∧ Below wx.heap.size wx w')) (HV : Hid (∀ wx, strOf wx a ss → Calls Tryz.prog 245 #[.slice a ss.length cap] wx fun e w' => e = .returned (.bool true) ∧ Below wx.heap.size wx w')) (q1 : (kd == 1) = false) (q2 : (kd == 2) = true) (hn : ((ss.length : Int) == 1) = true) :
    Calls Tryz.prog 226 #[.agg #[.int .i64 kd, .string key, .slice a ss.length cap]] w fun e w' => e = .returned (.tuple #[.iface 297 (.agg #[.string key, .string (ssAt ss 0)]), .bool true]) ∧ Below w.heap.size w w' := by
  have h0n : 0 < ss.length := by rw [beq_iff_eq] at hn; omega
  obtain ⟨b, off, rfl, hat⟩ := Hr.out h0n
  have hbb := World.block_lt_of_cell? _ _ (hat 0 h0n)
  have Hc := hide (strAt_cells hat 0 h0n)
  clear hat
  go_enter Tryz.func226, Tryz.ntmps226
  go_wp2_with fail
  refine (HK.out _).mono ?_
  rintro e w1 ⟨rfl, hb1⟩
  have b0 : w1.cell? ⟨w.heap.size, 0, none⟩ = some (.int .i64 kd) := (hb1.cell (p := ⟨w.heap.size, 0, none⟩) (by simp)).trans (by simp)
  have b1 : w1.cell? ⟨w.heap.size, 1, none⟩ = some (.string key) := (hb1.cell (p := ⟨w.heap.size, 1, none⟩) (by simp)).trans (by simp)
  have b2 : w1.cell? ⟨w.heap.size, 2, none⟩ = some (.slice (some ⟨b, off, none⟩) ss.length cap) := (hb1.cell (p := ⟨w.heap.size, 2, none⟩) (by simp)).trans (by simp)
  have hw1 : w.heap.size < w1.heap.size := World.block_lt_of_cell? _ _ b0
  have Hb1 := hide hb1
  clear hb1
  go_wp2_with fail
  refine (HV.out w1 (Hr.out.below ((Below.refl _ _).alloc (by simp) _ |>.trans (Hb1.out.mono (by simp))))).mono ?_
  rintro e w2 ⟨rfl, hb2⟩
  have d0 := (hb2.cell (p := ⟨w.heap.size, 0, none⟩) hw1).trans b0
  have d1 := (hb2.cell (p := ⟨w.heap.size, 1, none⟩) hw1).trans b1
  have d2 := (hb2.cell (p := ⟨w.heap.size, 2, none⟩) hw1).trans b2
  have hw2 : w.heap.size < w2.heap.size := World.block_lt_of_cell? _ _ d0
  have Hb : Hid (Below w.heap.size w w2) := ((Below.refl _ _).alloc (by simp) _).trans ((Hb1.out.mono (by simp)).trans (hb2.mono (by omega)))
  clear hb2 b0 b1 b2 hw1 Hb1
  have c0 : w2.cell? ⟨b, off, none⟩ = some (.string (ssAt ss 0)) := (Hb.out.cell (p := ⟨b, off, none⟩) hbb).trans Hc.out
  have hb2 : b < w2.heap.size := Nat.lt_of_lt_of_le hbb Hb.out.size
  go_wp2
  go_region
  go_wp2
  go_region
  go_wp2
  go_ret2
  exact ⟨rfl, ((Hb.out.alloc (by omega) _).drew).drew⟩
set_option maxHeartbeats 800000 in
theorem iterm_3 (kd : Int) (key : ByteArray) (ss : List ByteArray) (a : Option Addr) (cap : Nat) (w : World) (hl : ss.length ≤ 2 ^ 63 - 1) (Hr : Hid (strOf w a ss)) (HK : Hid (∀ wx, Calls Tryz.prog 129 #[.string key] wx fun e w' => e = .returned (.bool true) ∧ Below wx.heap.size wx w')) (HV : Hid (∀ wx, strOf wx a ss → Calls Tryz.prog 245 #[.slice a ss.length cap] wx fun e w' => e = .returned (.bool true) ∧ Below wx.heap.size wx w')) (q1 : (kd == 1) = false) (q2 : (kd == 2) = false) (q3 : (kd == 3) = true) (hn : (0 : Int) < (ss.length : Int)) :
    Calls Tryz.prog 226 #[.agg #[.int .i64 kd, .string key, .slice a ss.length cap]] w fun e w' => e = .returned (.tuple #[.iface 299 (.agg #[.string key, .slice a ss.length cap]), .bool true]) ∧ Below w.heap.size w w' := by
  go_enter Tryz.func226, Tryz.ntmps226
  go_wp2_with fail
  refine (HK.out _).mono ?_
  rintro e w1 ⟨rfl, hb1⟩
  have b0 : w1.cell? ⟨w.heap.size, 0, none⟩ = some (.int .i64 kd) := (hb1.cell (p := ⟨w.heap.size, 0, none⟩) (by simp)).trans (by simp)
  have b1 : w1.cell? ⟨w.heap.size, 1, none⟩ = some (.string key) := (hb1.cell (p := ⟨w.heap.size, 1, none⟩) (by simp)).trans (by simp)
  have b2 : w1.cell? ⟨w.heap.size, 2, none⟩ = some (.slice a ss.length cap) := (hb1.cell (p := ⟨w.heap.size, 2, none⟩) (by simp)).trans (by simp)
  have hw1 : w.heap.size < w1.heap.size := World.block_lt_of_cell? _ _ b0
  have Hb1 := hide hb1
  clear hb1
  go_wp2_with fail
  refine (HV.out w1 (Hr.out.below ((Below.refl _ _).alloc (by simp) _ |>.trans (Hb1.out.mono (by simp))))).mono ?_
  rintro e w2 ⟨rfl, hb2⟩
  have d0 := (hb2.cell (p := ⟨w.heap.size, 0, none⟩) hw1).trans b0
  have d1 := (hb2.cell (p := ⟨w.heap.size, 1, none⟩) hw1).trans b1
  have d2 := (hb2.cell (p := ⟨w.heap.size, 2, none⟩) hw1).trans b2
  have hw2 : w.heap.size < w2.heap.size := World.block_lt_of_cell? _ _ d0
  have Hb : Hid (Below w.heap.size w w2) := ((Below.refl _ _).alloc (by simp) _).trans ((Hb1.out.mono (by simp)).trans (hb2.mono (by omega)))
  clear hb2 b0 b1 b2 hw1 Hb1
  go_wp2
  go_region
  go_wp2
  go_ret2
  exact ⟨rfl, ((Hb.out.alloc (by omega) _).drew)⟩
set_option maxHeartbeats 800000 in
theorem iterm_4 (kd : Int) (key : ByteArray) (ss : List ByteArray) (a : Option Addr) (cap : Nat) (w : World) (hl : ss.length ≤ 2 ^ 63 - 1) (Hr : Hid (strOf w a ss)) (HK : Hid (∀ wx, Calls Tryz.prog 129 #[.string key] wx fun e w' => e = .returned (.bool true) ∧ Below wx.heap.size wx w')) (HV : Hid (∀ wx, strOf wx a ss → Calls Tryz.prog 245 #[.slice a ss.length cap] wx fun e w' => e = .returned (.bool true) ∧ Below wx.heap.size wx w')) (q1 : (kd == 1) = false) (q2 : (kd == 2) = false) (q3 : (kd == 3) = false) (q4 : (kd == 4) = true) (hn : ((ss.length : Int) == 0) = true) :
    Calls Tryz.prog 226 #[.agg #[.int .i64 kd, .string key, .slice a ss.length cap]] w fun e w' => e = .returned (.tuple #[.iface 301 (.agg #[.string key]), .bool true]) ∧ Below w.heap.size w w' := by
  go_enter Tryz.func226, Tryz.ntmps226
  go_wp2_with fail
  refine (HK.out _).mono ?_
  rintro e w1 ⟨rfl, hb1⟩
  have b0 : w1.cell? ⟨w.heap.size, 0, none⟩ = some (.int .i64 kd) := (hb1.cell (p := ⟨w.heap.size, 0, none⟩) (by simp)).trans (by simp)
  have b1 : w1.cell? ⟨w.heap.size, 1, none⟩ = some (.string key) := (hb1.cell (p := ⟨w.heap.size, 1, none⟩) (by simp)).trans (by simp)
  have b2 : w1.cell? ⟨w.heap.size, 2, none⟩ = some (.slice a ss.length cap) := (hb1.cell (p := ⟨w.heap.size, 2, none⟩) (by simp)).trans (by simp)
  have hw1 : w.heap.size < w1.heap.size := World.block_lt_of_cell? _ _ b0
  have Hb1 := hide hb1
  clear hb1
  go_wp2_with fail
  refine (HV.out w1 (Hr.out.below ((Below.refl _ _).alloc (by simp) _ |>.trans (Hb1.out.mono (by simp))))).mono ?_
  rintro e w2 ⟨rfl, hb2⟩
  have d0 := (hb2.cell (p := ⟨w.heap.size, 0, none⟩) hw1).trans b0
  have d1 := (hb2.cell (p := ⟨w.heap.size, 1, none⟩) hw1).trans b1
  have d2 := (hb2.cell (p := ⟨w.heap.size, 2, none⟩) hw1).trans b2
  have hw2 : w.heap.size < w2.heap.size := World.block_lt_of_cell? _ _ d0
  have Hb : Hid (Below w.heap.size w w2) := ((Below.refl _ _).alloc (by simp) _).trans ((Hb1.out.mono (by simp)).trans (hb2.mono (by omega)))
  clear hb2 b0 b1 b2 hw1 Hb1
  go_wp2
  go_region
  go_wp2
  go_ret2
  exact ⟨rfl, ((Hb.out.alloc (by omega) _).drew)⟩
set_option maxHeartbeats 800000 in
theorem iterm_5 (kd : Int) (key : ByteArray) (ss : List ByteArray) (a : Option Addr) (cap : Nat) (w : World) (hl : ss.length ≤ 2 ^ 63 - 1) (Hr : Hid (strOf w a ss)) (HK : Hid (∀ wx, Calls Tryz.prog 129 #[.string key] wx fun e w' => e = .returned (.bool true) ∧ Below wx.heap.size wx w')) (HV : Hid (∀ wx, strOf wx a ss → Calls Tryz.prog 245 #[.slice a ss.length cap] wx fun e w' => e = .returned (.bool true) ∧ Below wx.heap.size wx w')) (q1 : (kd == 1) = false) (q2 : (kd == 2) = false) (q3 : (kd == 3) = false) (q4 : (kd == 4) = false) (q5 : (kd == 5) = true) (hn : ((ss.length : Int) == 0) = true) :
    Calls Tryz.prog 226 #[.agg #[.int .i64 kd, .string key, .slice a ss.length cap]] w fun e w' => e = .returned (.tuple #[.iface 302 (.agg #[.string key]), .bool true]) ∧ Below w.heap.size w w' := by
  go_enter Tryz.func226, Tryz.ntmps226
  go_wp2_with fail
  refine (HK.out _).mono ?_
  rintro e w1 ⟨rfl, hb1⟩
  have b0 : w1.cell? ⟨w.heap.size, 0, none⟩ = some (.int .i64 kd) := (hb1.cell (p := ⟨w.heap.size, 0, none⟩) (by simp)).trans (by simp)
  have b1 : w1.cell? ⟨w.heap.size, 1, none⟩ = some (.string key) := (hb1.cell (p := ⟨w.heap.size, 1, none⟩) (by simp)).trans (by simp)
  have b2 : w1.cell? ⟨w.heap.size, 2, none⟩ = some (.slice a ss.length cap) := (hb1.cell (p := ⟨w.heap.size, 2, none⟩) (by simp)).trans (by simp)
  have hw1 : w.heap.size < w1.heap.size := World.block_lt_of_cell? _ _ b0
  have Hb1 := hide hb1
  clear hb1
  go_wp2_with fail
  refine (HV.out w1 (Hr.out.below ((Below.refl _ _).alloc (by simp) _ |>.trans (Hb1.out.mono (by simp))))).mono ?_
  rintro e w2 ⟨rfl, hb2⟩
  have d0 := (hb2.cell (p := ⟨w.heap.size, 0, none⟩) hw1).trans b0
  have d1 := (hb2.cell (p := ⟨w.heap.size, 1, none⟩) hw1).trans b1
  have d2 := (hb2.cell (p := ⟨w.heap.size, 2, none⟩) hw1).trans b2
  have hw2 : w.heap.size < w2.heap.size := World.block_lt_of_cell? _ _ d0
  have Hb : Hid (Below w.heap.size w w2) := ((Below.refl _ _).alloc (by simp) _).trans ((Hb1.out.mono (by simp)).trans (hb2.mono (by omega)))
  clear hb2 b0 b1 b2 hw1 Hb1
  go_wp2
  go_region
  go_wp2
  go_ret2
  exact ⟨rfl, ((Hb.out.alloc (by omega) _).drew)⟩

theorem iterm_any (t : TD) (a : Option Addr) (cap : Nat) (w : World) (hl : t.2.2.length ≤ maxLen) (hrow : strOf w a t.2.2) :
    Calls Tryz.prog 226 #[.agg #[.int .i64 t.1, .string t.2.1, .slice a t.2.2.length cap]] w fun e w' =>
      ((termB t = true ∧ ∃ v, e = .returned (.tuple #[v, .bool true]) ∧ isV v t a cap) ∨ (termB t = false ∧ e = .returned (.tuple #[.nilIface, .bool false]))) ∧ Below w.heap.size w w' := by
  obtain ⟨kd, key, ss⟩ := t
  simp only at hl hrow ⊢
  have hl' := hl
  unfold maxLen at hl
  have Hr := hide hrow
  have hK := fun wx => (iname_any key wx)
  have hV := fun wx => (ivals_any a cap ss wx hl')
  clear hrow
  cases h1 : nameB key
  · rw [h1] at hK
    have HK := hide hK
    have Hn := hide (termB_key (kd := kd) (ss := ss) h1)
    clear hK hV h1 hl'
    go_enter Tryz.func226, Tryz.ntmps226
    go_wp2_with fail
    refine (HK.out _).mono ?_
    rintro e w1 ⟨rfl, hb1⟩
    go_wp2
    go_ret2
    exact ⟨.inr ⟨Hn.out, rfl⟩, ((Below.refl _ _).alloc (by simp) _).trans (hb1.mono (by simp))⟩
  rw [h1] at hK
  have HK := hide hK
  cases h2 : (decide (ss.length ≤ 6) && valsB ss)
  · rw [h2] at hV
    have HV := hide hV
    have Hn := hide (termB_vals (kd := kd) (key := key) h2)
    clear hK hV h1 h2 hl'
    go_enter Tryz.func226, Tryz.ntmps226
    go_wp2_with fail
    refine (HK.out _).mono ?_
    rintro e w1 ⟨rfl, hb1⟩
    have b2 : w1.cell? ⟨w.heap.size, 2, none⟩ = some (.slice a ss.length cap) := (hb1.cell (p := ⟨w.heap.size, 2, none⟩) (by simp)).trans (by simp)
    have Hb1 := hide hb1
    clear hb1
    go_wp2_with fail
    refine (HV.out w1 (Hr.out.below ((Below.refl _ _).alloc (by simp) _ |>.trans (Hb1.out.mono (by simp))))).mono ?_
    rintro e w2 ⟨rfl, hb2⟩
    go_wp2
    go_ret2
    exact ⟨.inr ⟨Hn.out, rfl⟩, ((Below.refl _ _).alloc (by simp) _).trans ((Hb1.out.mono (by simp)).trans (hb2.mono (by have := Hb1.out.size; simp at this; omega)))⟩
  rw [h2] at hV
  have HV := hide hV
  have hk := termB_kind (kd := kd) h1 h2
  have h6 : ss.length ≤ 6 := by rw [Bool.and_eq_true, decide_eq_true_eq] at h2; exact h2.1
  rcases termCases kd ss.length with ⟨q1, q2, hq⟩ | ⟨q1, q2, q3, hq⟩ | ⟨q1, q2, q3, q4, hq⟩ | ⟨q1, q2, q3, q4, q5, hq⟩ | ⟨q1, q2, q3, q4, q5, q6, hq⟩ | ⟨hq, -⟩
  · exact (iterm_1 kd key ss a cap w hl Hr HK HV q1 q2).mono fun e w' ⟨h, hb⟩ => ⟨.inl ⟨hk.trans hq.out.2, _, h, .inl ⟨hq.out.1, rfl⟩⟩, hb⟩
  · exact (iterm_2 kd key ss a cap w hl Hr HK HV q1 q2 q3).mono fun e w' ⟨h, hb⟩ => ⟨.inl ⟨hk.trans hq.out.2, _, h, .inr (.inl ⟨hq.out.1, rfl⟩)⟩, hb⟩
  · exact (iterm_3 kd key ss a cap w hl Hr HK HV q1 q2 q3 q4).mono fun e w' ⟨h, hb⟩ => ⟨.inl ⟨hk.trans (hq.out.2 h6), _, h, .inr (.inr (.inl ⟨hq.out.1, rfl⟩))⟩, hb⟩
  · exact (iterm_4 kd key ss a cap w hl Hr HK HV q1 q2 q3 q4 q5).mono fun e w' ⟨h, hb⟩ => ⟨.inl ⟨hk.trans hq.out.2, _, h, .inr (.inr (.inr (.inl ⟨hq.out.1, rfl⟩)))⟩, hb⟩
  · exact (iterm_5 kd key ss a cap w hl Hr HK HV q1 q2 q3 q4 q5 q6).mono fun e w' ⟨h, hb⟩ => ⟨.inl ⟨hk.trans hq.out.2, _, h, .inr (.inr (.inr (.inr ⟨hq.out.1, rfl⟩)))⟩, hb⟩
  · exact (iterm_bad kd key ss a cap w hl Hr HK HV h6 hq).mono fun e w' ⟨h, hb⟩ => ⟨.inr ⟨hk.trans hq.out, h⟩, hb⟩
end Go.Proofs.YtdnodaoeflbfkaaGreat
/- impl.termsOf, impl.SelectorOk. -/
namespace Go.Proofs.YtdnodaoeflbfkaaGreat
open Go.RowKit Go.BigFrame
set_option linter.unusedVariables false

/-- where a slice of impl's terms leads -/
def ifsOf (w : World) (a : Option Addr) (ts : List TD) : Prop := 0 < ts.length → ∃ b off, a = some ⟨b, off, none⟩ ∧ ∀ i (hi : i < ts.length), ∃ v, w.cell? ⟨b, off + i, none⟩ = some v ∧ isIf w v ts[i]
theorem ifsOf.below {w w' : World} {a : Option Addr} {ts : List TD} (h : ifsOf w a ts) (hb : Below w.heap.size w w') : ifsOf w' a ts := by
  intro hl
  obtain ⟨b, off, e, h⟩ := h hl
  refine ⟨b, off, e, fun i hi => ?_⟩
  obtain ⟨v, h1, h2⟩ := h i hi
  exact ⟨v, (hb.cell (p := ⟨b, off + i, none⟩) (World.block_lt_of_cell? _ _ h1)).trans h1, h2.below hb⟩
theorem ifsOf_owns {w w0 : World} {B g n cap : Nat} {e : TypeId} {vs : List Value} {ts : List TD} (h : w.ownsRow B e 1 (.slice (some ⟨g, 0, none⟩) n cap) n vs) (hn : n = ts.length) (hb : Below w0.heap.size w0 w) (ht : ∀ i (hi : i < ts.length), ∃ v, vs[i]? = some v ∧ isIf w0 v ts[i]) : ifsOf w (some ⟨g, 0, none⟩) ts := by
  intro _
  refine ⟨g, 0, rfl, fun i hi => ?_⟩
  obtain ⟨v, h1, h2⟩ := ht i hi
  subst hn
  rw [Nat.zero_add]
  exact ⟨v, (h.cellAt _ (by omega)).trans h1, h2.below hb⟩
theorem Tryz.infoIf : (Tryz.prog.info? 270).map (fun i => (i.zero, i.size, i.bytes)) = some (some .nilIface, 1, 16) := by kernel_rfl
theorem isV_if {v : Value} {t : TD} {a : Option Addr} {cap : Nat} (h : isV v t a cap) : ∃ ty x, v = .iface ty x := by
  rcases h with ⟨_, rfl⟩ | ⟨_, rfl⟩ | ⟨_, rfl⟩ | ⟨_, rfl⟩ | ⟨_, rfl⟩ <;> exact ⟨_, _, rfl⟩
theorem selB_mem {ts : List TD} (h : selB ts = true) {i : Nat} (hi : i < ts.length) : termB (ts[i]'hi) = true := by
  unfold selB at h; rw [decide_eq_true_eq] at h; exact h.2 _ (List.getElem_mem hi)

set_option maxRecDepth 100000 in
set_option maxHeartbeats 800000 in
theorem itermsOf_any (a : Option Addr) (cap : Nat) (ts : List TD) (w : World) (hl : ts.length ≤ maxLen) (hz : ∀ t ∈ ts, t.2.2.length ≤ maxLen) (hrow : termsOf w a ts) :
    Calls Tryz.prog 198 #[.slice a ts.length cap] w fun e w' =>
      ((selB ts = true ∧ ∃ g cp, e = .returned (.tuple #[.slice (some ⟨g, 0, none⟩) ts.length cp, .bool true]) ∧ ifsOf w' (some ⟨g, 0, none⟩) ts) ∨ (selB ts = false ∧ e = .returned (.tuple #[.slice none 0 0, .bool false]))) ∧ Below w.heap.size w w' := by
  obtain ⟨i0, hi, hz0, hz1, hz2⟩ := info_parts Tryz.infoIf
  unfold maxLen at hl
  have Hr := hide hrow
  have Hz := hide hz
  clear hrow hz
  by_cases hbig : 8 < ts.length
  · have Hn := hide (selB_long hbig)
    have hbig' : (8 : Int) < (ts.length : Int) := by omega
    clear hbig Hr
    go_enter Tryz.func198, Tryz.ntmps198
    go_wp2
    go_ret2
    exact ⟨.inr ⟨Hn.out, rfl⟩, Below.refl _ _⟩
  have hbig' : ¬ (8 : Int) < (ts.length : Int) := by omega
  go_enter Tryz.func198, Tryz.ntmps198
  go_wp2
  go_loopw [4, 15] (fun s i wr => ∃ (k : Nat) (vs : List Value), k ≤ ts.length ∧ i = .int .i64 k ∧ Hid (s ≠ .slice none 0 0) ∧ Hid (wr.ownsRow w.heap.size 270 1 s k vs) ∧
      Hid (∀ j (hj : j < ts.length), j < k → termB ts[j] = true ∧ ∃ v, vs[j]? = some v ∧ isIf w v ts[j]) ∧ Below w.heap.size w wr) (fun _ i _ => ts.length - (intOf i).toNat)
  case atStart => exact ⟨0, [], Nat.zero_le _, rfl, (fun h => by cases h), World.ownsRow_lit w #[] 0 (Nat.le_refl _) (by decide) rfl, fun j _ hj => by omega, (Below.refl _ _).alloc (Nat.le_refl _) _⟩
  case round =>
    obtain ⟨k, vs, hk, rfl, Hnn, How, Hx, hbw⟩ := hrel
    by_cases hlt : k < ts.length
    · obtain ⟨b, off, rfl, hat⟩ := Hr.out (by omega)
      obtain ⟨-, -, av0, capv0, h20, h30⟩ := hat k hlt
      obtain ⟨h0c, h1c, av, capv, h2c, h3c⟩ := (hat k hlt).below hbw
      have hav : av = av0 ∧ capv = capv0 := by
        have hbb := World.block_lt_of_cell? _ _ h20
        have := (hbw.cell (p := ⟨b, off + k * 3 + 2, none⟩) hbb).trans h20
        rw [h2c] at this
        simp only [Option.some.injEq, Value.slice.injEq, true_and] at this
        exact this
      obtain ⟨rfl, rfl⟩ := hav
      have hz := Hz.out _ (List.getElem_mem hlt)
      have Hs3 := hide h30.1
      have hcon := fun wx hx => iterm_any (ts[k]'hlt) av capv wx hz hx
      have Hcon := hide hcon
      have Hb : Hid (termB (ts[k]'hlt) = false → selB ts = false) := fun h => selB_bad hlt h
      have Hs : Hid (termB (ts[k]'hlt) = true → ∀ v, isV v (ts[k]'hlt) av capv → ∀ j (hj : j < ts.length), j < k + 1 → termB ts[j] = true ∧ ∃ u, (vs ++ [v])[j]? = some u ∧ isIf w u ts[j]) := fun h v hv j hj hjk => by
        have hvl : vs.length = k * 1 := How.out.1
        by_cases e : j = k
        · subst e
          exact ⟨h, v, by rw [List.getElem?_append_right (by omega)]; simp [hvl], av, capv, hv, h30.1, h30.2.1⟩
        · obtain ⟨g1, u, g2, g3⟩ := Hx.out j hj (by omega)
          exact ⟨g1, u, by rw [List.getElem?_append_left (by omega)]; exact g2, g3⟩
      clear hat hcon hz h30 h3c h20
      generalize ts[k]'hlt = t at *
      obtain ⟨kd, key, ss⟩ := t
      simp only at h0c h1c h2c Hcon
      go_wp2_with fail
      refine (Hcon.out _ (Hs3.out.below (hbw.alloc hbw.size _))).mono ?_
      rintro e w1 ⟨⟨hb, v, rfl, hv⟩ | ⟨hb, rfl⟩, hb1⟩
      · obtain ⟨ty, iv, rfl⟩ := isV_if hv
        have Hn := hide (Hs.out hb _ hv)
        have How1 := hide (owns_below_any (How.out.alloc (.cells #[.int .i64 kd, .string key, .slice av ss.length capv] 190)) hb1)
        have hbw1 : Below w.heap.size w w1 := (hbw.alloc hbw.size _).trans (hb1.mono (by have := hbw.size; simp; omega))
        clear Hb Hs hb hv hb1
        go_wp2_with (at_builtin; refine wpList_append_own _ rfl _ _ 247 rfl w.heap.size 270 i0 _ 1 16 Tryz.underlying247 hi hz0 hz1 hz2 rfl (by decide) _ _ _ rfl (How1.out.alloc _) ⟨w1.heap.size, 0, none⟩ 1 1 [.iface ty iv] rfl rfl (cell_one_at1 _ _ rfl _ _) (fun x hx => by simp at hx; rcases hx with rfl; rfl) (by unfold maxLen; omega) (by omega) (by have := hbw1.size; simp; omega) ?_; intro v' w3 hown' hgrow3 hnil3)
        go_roundw
        case rel => exact ⟨k + 1, _, by omega, by go_num, (fun h => Hnn.out (hnil3.1 h).1), hown', Hn, Below.grown (hbw1.alloc hbw1.size _) hgrow3 (by have := hbw1.size; simp; omega) (fun j hj => (How.out.lt _ hj).1)⟩
        case measure => simp [intOf]; omega
      · have Hn := hide (Hb.out hb)
        have hbw1 : Below w.heap.size w w1 := (hbw.alloc hbw.size _).trans (hb1.mono (by have := hbw.size; simp; omega))
        clear Hb Hs hb hb1
        go_wp2
        go_ret2
        exact ⟨.inr ⟨Hn.out, rfl⟩, hbw1⟩
    · have e : k = ts.length := by omega
      subst e
      have Hn : Hid (selB ts = true) := by show _ = _; rw [selB_end fun i hi => (Hx.out i hi hi).1, decide_eq_true_eq]; omega
      have Hf : Hid (∃ g cap, u4 = Value.slice (some ⟨g, 0, none⟩) ts.length cap) := by
        rcases How.out.2 with ⟨h, _⟩ | ⟨g, cap, cur, h, _⟩
        · exact absurd h Hnn.out
        · exact ⟨g, cap, h⟩
      obtain ⟨g, cp, hv⟩ := Hf.out
      subst hv
      have Hf2 : Hid (ifsOf wr (some ⟨g, 0, none⟩) ts) := ifsOf_owns How.out rfl hbw fun i hi => (Hx.out i hi hi).2
      clear Hx Hr How Hnn Hf
      go_wp2
      go_ret2
      exact ⟨.inl ⟨Hn.out, g, cp, rfl, Hf2.out⟩, hbw⟩

theorem iselOk_any (a : Option Addr) (cap : Nat) (ts : List TD) (w : World) (hl : ts.length ≤ maxLen) (hz : ∀ t ∈ ts, t.2.2.length ≤ maxLen) (hrow : termsOf w a ts) :
    Calls Tryz.prog 147 #[.slice a ts.length cap] w fun e w' => e = .returned (.bool (selB ts)) ∧ Below w.heap.size w w' := by
  have hcon := itermsOf_any a cap ts w hl hz hrow
  have Hcon := hide hcon
  clear hcon hl hz hrow
  go_enter Tryz.func147, Tryz.ntmps147
  go_wp2_with fail
  refine Hcon.out.mono ?_
  rintro e w1 ⟨⟨hb, g, cp, rfl, hi⟩ | ⟨hb, rfl⟩, hb1⟩
  all_goals
    have Hn := hide hb
    clear hb
    go_wp2
    go_ret
    exact ⟨ret_bool Hn.out.symm, hb1⟩
end Go.Proofs.YtdnodaoeflbfkaaGreat
